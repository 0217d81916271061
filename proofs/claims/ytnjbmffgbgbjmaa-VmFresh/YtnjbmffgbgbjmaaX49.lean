/- Xl, Xr, Xe, Xf, Tp, Cm. -/
import Derived.Test.YtnjbmffgbgbjmaaX46
import Derived.Test.YtnjbmffgbgbjmaaX47
import Derived.Test.YtnjbmffgbgbjmaaX48
import Derived.Test.YtnjbmffgbgbjmaaX45
import Derived.Test.YtnjbmffgbgbjmaaX03
import Derived.Test.YtnjbmffgbgbjmaaX06
import Derived.Test.YtnjbmffgbgbjmaaX13
import Derived.BigQuiet
import Derived.BigRegion
import Derived.ChangeKeysEq
import Derived.ChangeOld
import Derived.Deep.DeepCutAuto
import Derived.Deep.DrawnRows
import Derived.Deep.QuietTactic
import Derived.Deep.RegionHeld3
import Derived.Deep.RegionLaw
import Derived.Deep.RegionWith
import Derived.Deep.WholeRow
import Derived.Laws.AppendOwnNone
import Derived.Laws.BytesArg
import Derived.Laws.CopyOwn
import Derived.Lib.SlBytesConst
import Derived.OpenShut
import Derived.ProofKit
import Derived.ShutString
import Derived.SizedLaws
import Derived.WalkKit
import Derived.WalkLawsBesides
import Derived.WalkSpells
import Derived.Deep.MidRow
import Derived.DeepKeys3
import Derived.Great.BuildSlice
import Derived.Laws.BitsLemmas
import Derived.Laws.Tables
import Derived.Maps.AppendAt
import Derived.RangeFuncRecord
/- Layer vm: the law VmLoads. -/
namespace Go.Proofs.Ytnjbmffgbgbjmaa
open Go.RowKit
set_option maxRecDepth 100000
set_option linter.unusedVariables false
set_option linter.unusedSimpArgs false


theorem loadV {x : Int} {sp : Option Addr} {n cap : Nat} {cs : List Cd} {sq : Option Addr} {nd cd : Nat} {ds : List Int} {w : World} (hx : -9223372036854775808 ≤ x ∧ x ≤ 9223372036854775807) (hS : CS w.heap.size w sp n cap cs) (hD : MS w.heap.size w sq nd cd ds) (hU : ∀ k, U64 (ds.getD k 0)) :
    Calls Try.prog 25 #[.int .i64 x, .slice sp n cap, .slice sq nd cd] w fun e w' => ∃ D, e = .returned (.tuple #[.agg D, .int .i64 (lO x cs ds).2]) ∧ MV w' (lO x cs ds).1 D ∧ Below w.heap.size w w' :=
  (load_any x sp n cap cs sq nd cd ds _ w hx hS hD hU).mono fun e w' ⟨sp1, n1, cap1, he, hok, hM1, hb⟩ => ⟨_, he, ⟨⟨sp1, n1, cap1, rfl, hM1⟩, hok⟩, hb⟩
theorem refLoadV {x : Int} {sp : Option Addr} {n cap : Nat} {cs : List Cd} {sq : Option Addr} {nd cd : Nat} {ds : List Int} {w : World} (hx : -9223372036854775808 ≤ x ∧ x ≤ 9223372036854775807) (hS : CS w.heap.size w sp n cap cs) (hD : MS w.heap.size w sq nd cd ds) (hU : ∀ k, U64 (ds.getD k 0)) :
    Calls Try.prog 26 #[.int .i64 x, .slice sp n cap, .slice sq nd cd] w fun e w' => ∃ D, e = .returned (.tuple #[.agg D, .int .i64 (lO x cs ds).2]) ∧ MV w' (lO x cs ds).1 D ∧ Below w.heap.size w w' :=
  (refLoad_any x sp n cap cs sq nd cd ds _ w hx hS hD hU).mono fun e w' ⟨sp1, n1, cap1, he, hok, hM1, hb⟩ => ⟨_, he, ⟨⟨sp1, n1, cap1, rfl, hM1⟩, hok⟩, hb⟩
theorem refSameV {m k : Mc} {C D : Array Value} {w : World} (h : MV w m C) (h' : MV w k D) : Calls Try.prog 19 #[.agg C, .agg D] w fun e w' => e = .returned (.bool (smB m k)) ∧ Below w.heap.size w w' := by
  obtain ⟨sp, n, cap, rfl, hM⟩ := h.ex
  obtain ⟨sp', n', cap', rfl, hM'⟩ := h'.ex
  exact refSame_any m k sp n cap sp' n' cap' _ w h.ok h'.ok hM hM'
theorem MS.bel {sq : Option Addr} {n cap : Nat} {L : List Int} {w w' : World} (h : MS w.heap.size w sq n cap L) (hb : Below w.heap.size w w') : MS w'.heap.size w' sq n cap L := (h.below hb).mono hb.size
theorem CS.mono {N N' : Nat} {w : World} {sp : Option Addr} {n cap : Nat} {cs : List Cd} (h : CS N w sp n cap cs) (hN : N ≤ N') : CS N' w sp n cap cs :=
  ⟨h.len, h.nil, h.le, h.big, h.small, fun h0 => let ⟨b, off, e, hb, hB⟩ := h.at0 h0; ⟨b, off, e, by omega, hB⟩, h.ok⟩
theorem CS.bel {sq : Option Addr} {n cap : Nat} {cs : List Cd} {w w' : World} (h : CS w.heap.size w sq n cap cs) (hb : Below w.heap.size w w') : CS w'.heap.size w' sq n cap cs := (h.below hb).mono hb.size
set_option maxHeartbeats 2000000 in
theorem loads_walk (x : Int) (sp : Option Addr) (n cap : Nat) (cs : List Cd) (sq : Option Addr) (nd cd : Nat) (ds : List Int) (w : World) (hx : -9223372036854775808 ≤ x ∧ x ≤ 9223372036854775807) (hS : CS w.heap.size w sp n cap cs) (hD : MS w.heap.size w sq nd cd ds) (hU : ∀ k, U64 (ds.getD k 0)) :
    Calls Try.prog 6 #[.int .i64 x, .slice sp n cap, .slice sq nd cd] w fun e w' => e = .returned (.bool true) ∧ Below w.heap.size w w' := by
  go_enter Try.func6, Try.ntmps6
  go_upto_region 2 with (first
    | (go_at_call 25; go_must (refine (loadV hx hS hD hU).mono ?_; rintro e wa ⟨Da, rfl, Va, ba⟩; have za := Va.size; have oa := Va.one; replace hS := hS.bel ba; replace hD := hD.bel ba))
    | (refine atS 45 (.tmp 7) (.tmp 16) (by rfl) ?_; refine st45n (by rfl) (.tmp 7) (.tmp 16) (by rfl) wa wa.heap.size rfl (by rfl) Da (by rfl) (by rfl) za oa ?_))
  have Ba := Arr.new wa 45 Da
  have qa := alloc_bel' wa (.cells Da 45)
  replace Va := Va.bel qa
  replace hS := hS.bel qa
  replace hD := hD.bel qa
  have hB := ba.alloc ba.size (.cells Da 45)
  go_upto_region 3 with (first
    | (go_at_call 26; go_must (refine (refLoadV hx hS hD hU).mono ?_; rintro e wb ⟨Db, rfl, Vb, bb⟩; have zb := Vb.size; have ob := Vb.one; replace Ba := Ba.below bb Ba.lt; replace Va := Va.bel bb; replace hB := hB.trans (bb.mono hB.size)))
    | (refine atS 45 (.tmp 9) (.tmp 23) (by rfl) ?_; refine st45n (by rfl) (.tmp 9) (.tmp 23) (by rfl) wb wb.heap.size rfl (by rfl) Db (by rfl) (by rfl) zb ob ?_))
  have Bb := Arr.new wb 45 Db
  have qb := alloc_bel' wb (.cells Db 45)
  replace Va := Va.bel qb
  replace Vb := Vb.bel qb
  replace Ba := Ba.below qb Ba.lt
  replace hB := hB.alloc hB.size (.cells Db 45)
  go_wp2_with (first
    | (refine atL 45 (.tmp 7) (by rfl) ?_; refine ld45 (by rfl) (.tmp 7) (by rfl) wa.heap.size (by rfl) Da za Ba ?_)
    | (refine atL 45 (.tmp 9) (by rfl) ?_; refine ld45 (by rfl) (.tmp 9) (by rfl) wb.heap.size (by rfl) Db zb Bb ?_)
    | (go_at_call 19; go_must (refine (refSameV Va Vb).mono ?_; rintro e ws ⟨rfl, bs⟩; rw [smB_self]; replace hB := hB.trans (bs.mono hB.size)))
    | (go_at_call 16; go_must (refine (anchored_any _).mono ?_; rintro e wn ⟨rfl, bn⟩; replace hB := hB.trans (bn.mono hB.size))))
  go_ret
  exact ⟨by simp, hB⟩
end Go.Proofs.Ytnjbmffgbgbjmaa
/- Layer vm: the law VmRuns. -/
namespace Go.Proofs.Ytnjbmffgbgbjmaa
open Go.RowKit
set_option maxRecDepth 100000
set_option linter.unusedVariables false
set_option linter.unusedSimpArgs false

theorem refRunV {es : List En} {m : Mc} {C : Array Value} {sq : Option Addr} {nk ck : Nat} {x : Int} {w : World} (h : MV w m C) (hS : ES w.heap.size w sq nk ck es) (hx : -9223372036854775808 ≤ x ∧ x ≤ 9223372036854775807) :
    Calls Try.prog 24 #[.agg C, .slice sq nk ck, .int .i64 x] w fun e w' => ∃ D, e = .returned (.tuple #[.agg D, .int .i64 (rO es m x).2.1, .int .i64 (rO es m x).2.2]) ∧ MV w' (rO es m x).1 D ∧ Below w.heap.size w w' := by
  obtain ⟨sp, n, cap, rfl, hM⟩ := h.ex
  refine (refRun_any m sp n cap sq nk ck x w h.ok hM hS hx).mono fun e w' ⟨sp1, n1, cap1, he, hok, hM1, hb, _⟩ => ⟨_, he, ⟨⟨sp1, n1, cap1, rfl, hM1⟩, hok⟩, hb⟩
theorem refStepV {es : List En} {m : Mc} {C : Array Value} {sq : Option Addr} {nk ck : Nat} {w : World} (h : MV w m C) (hS : ES w.heap.size w sq nk ck es) :
    Calls Try.prog 18 #[.agg C, .slice sq nk ck] w fun e w' => ∃ D, e = .returned (.tuple #[.agg D, .int .i64 (rO es m 1).2.2]) ∧ MV w' (rO es m 1).1 D ∧ Below w.heap.size w w' := by
  obtain ⟨sp, n, cap, rfl, hM⟩ := h.ex
  refine (refStep_any m sp n cap sq nk ck w h.ok hM hS).mono fun e w' ⟨sp1, n1, cap1, he, hok, hM1, hb, _⟩ => ⟨_, he, ⟨⟨sp1, n1, cap1, rfl, hM1⟩, hok⟩, hb⟩
set_option maxHeartbeats 4000000 in
theorem runs_walk (m : Mc) (C : Array Value) (sq : Option Addr) (nk ck : Nat) (es : List En) (x : Int) (w : World) (V0 : MV w m C) (hS0 : ES w.heap.size w sq nk ck es) (hx : -9223372036854775808 ≤ x ∧ x ≤ 9223372036854775807) :
    Calls Try.prog 5 #[.agg C, .slice sq nk ck, .int .i64 x] w fun e w' => e = .returned (.bool true) ∧ Below w.heap.size w w' := by
  have hB := alloc_bel' w (.cells C 45)
  have A0 := Arr.new w 45 C
  have hS := hS0.bel hB
  have V := V0.bel hB
  have zC := V.size
  clear hS0 V0
  by_cases h1 : 3000 < x
  · by_cases h2 : x ≤ 4194304
    · go_enter Try.func5, Try.ntmps5
      go_upto_region 3 with fail
      have hf : Hid (-9223372036854775808 ≤ (3000 : Int) ∧ (3000 : Int) ≤ 9223372036854775807) := Hid.mk' (by omega)
      go_upto_region 4 with (first
        | (refine atL 45 (.tmp 3) (by rfl) ?_; refine ld45 (by rfl) (.tmp 3) (by rfl) w.heap.size (by rfl) C zC A0 ?_)
        | (go_at_call 23; go_must (refine (runV V hS (x := (3000 : Int)) hf.out).mono ?_; rintro e wa ⟨Da, rfl, Va, ba⟩; generalize hR : rO es m (3000 : Int) = R at Va ⊢; replace hR := Hid.mk' hR; have za := Va.size; have oa := Va.one; replace hS := hS.bel ba; replace V := V.bel ba; replace A0 := A0.below ba A0.lt; replace hB := hB.trans (ba.mono hB.size)))
        | (refine atS 45 (.tmp 7) (.tmp 24) (by rfl) ?_; refine st45n (by rfl) (.tmp 7) (.tmp 24) (by rfl) wa wa.heap.size rfl (by rfl) Da (by rfl) (by rfl) za oa ?_))
      have Ba := Arr.new wa 45 Da
      have qa := alloc_bel' wa (.cells Da 45)
      replace Va := Va.bel qa
      replace hS := hS.bel qa
      replace V := V.bel qa
      replace A0 := A0.below qa A0.lt
      replace hB := hB.alloc hB.size (.cells Da 45)
      go_upto_region 5 with (first
        | (refine atL 45 (.tmp 3) (by rfl) ?_; refine ld45 (by rfl) (.tmp 3) (by rfl) w.heap.size (by rfl) C zC A0 ?_)
        | (go_at_call 24; go_must (refine (refRunV V hS (x := (3000 : Int)) hf.out).mono ?_; rintro e wb ⟨Db, rfl, Vb, bb⟩; rw [hR.out] at Vb ⊢; have zb := Vb.size; have ob := Vb.one; replace Ba := Ba.below bb Ba.lt; replace Va := Va.bel bb; replace hB := hB.trans (bb.mono hB.size)))
        | (refine atS 45 (.tmp 10) (.tmp 32) (by rfl) ?_; refine st45n (by rfl) (.tmp 10) (.tmp 32) (by rfl) wb wb.heap.size rfl (by rfl) Db (by rfl) (by rfl) zb ob ?_))
      have Bb := Arr.new wb 45 Db
      have qb := alloc_bel' wb (.cells Db 45)
      replace Va := Va.bel qb
      replace Vb := Vb.bel qb
      replace Ba := Ba.below qb Ba.lt
      replace hB := hB.alloc hB.size (.cells Db 45)
      go_wp2_with (first
        | (refine atL 45 (.tmp 7) (by rfl) ?_; refine ld45 (by rfl) (.tmp 7) (by rfl) wa.heap.size (by rfl) Da za Ba ?_)
        | (refine atL 45 (.tmp 10) (by rfl) ?_; refine ld45 (by rfl) (.tmp 10) (by rfl) wb.heap.size (by rfl) Db zb Bb ?_)
        | (go_at_call 19; go_must (refine (refSameV Va Vb).mono ?_; rintro e ws ⟨rfl, bs⟩; rw [smB_self]; replace hB := hB.trans (bs.mono hB.size)))
        | (go_at_call 16; go_must (refine (anchored_any _).mono ?_; rintro e wn ⟨rfl, bn⟩; replace hB := hB.trans (bn.mono hB.size))))
      go_ret
      exact ⟨by simp, hB⟩
    · go_enter Try.func5, Try.ntmps5
      go_upto_region 3 with fail
      have hf : Hid (-9223372036854775808 ≤ x ∧ x ≤ 9223372036854775807) := Hid.mk' (by omega)
      go_upto_region 4 with (first
        | (refine atL 45 (.tmp 3) (by rfl) ?_; refine ld45 (by rfl) (.tmp 3) (by rfl) w.heap.size (by rfl) C zC A0 ?_)
        | (go_at_call 23; go_must (refine (runV V hS (x := x) hf.out).mono ?_; rintro e wa ⟨Da, rfl, Va, ba⟩; generalize hR : rO es m x = R at Va ⊢; replace hR := Hid.mk' hR; have za := Va.size; have oa := Va.one; replace hS := hS.bel ba; replace V := V.bel ba; replace A0 := A0.below ba A0.lt; replace hB := hB.trans (ba.mono hB.size)))
        | (refine atS 45 (.tmp 7) (.tmp 24) (by rfl) ?_; refine st45n (by rfl) (.tmp 7) (.tmp 24) (by rfl) wa wa.heap.size rfl (by rfl) Da (by rfl) (by rfl) za oa ?_))
      have Ba := Arr.new wa 45 Da
      have qa := alloc_bel' wa (.cells Da 45)
      replace Va := Va.bel qa
      replace hS := hS.bel qa
      replace V := V.bel qa
      replace A0 := A0.below qa A0.lt
      replace hB := hB.alloc hB.size (.cells Da 45)
      go_upto_region 5 with (first
        | (refine atL 45 (.tmp 3) (by rfl) ?_; refine ld45 (by rfl) (.tmp 3) (by rfl) w.heap.size (by rfl) C zC A0 ?_)
        | (go_at_call 24; go_must (refine (refRunV V hS (x := x) hf.out).mono ?_; rintro e wb ⟨Db, rfl, Vb, bb⟩; rw [hR.out] at Vb ⊢; have zb := Vb.size; have ob := Vb.one; replace Ba := Ba.below bb Ba.lt; replace Va := Va.bel bb; replace hB := hB.trans (bb.mono hB.size)))
        | (refine atS 45 (.tmp 10) (.tmp 32) (by rfl) ?_; refine st45n (by rfl) (.tmp 10) (.tmp 32) (by rfl) wb wb.heap.size rfl (by rfl) Db (by rfl) (by rfl) zb ob ?_))
      have Bb := Arr.new wb 45 Db
      have qb := alloc_bel' wb (.cells Db 45)
      replace Va := Va.bel qb
      replace Vb := Vb.bel qb
      replace Ba := Ba.below qb Ba.lt
      replace hB := hB.alloc hB.size (.cells Db 45)
      go_wp2_with (first
        | (refine atL 45 (.tmp 7) (by rfl) ?_; refine ld45 (by rfl) (.tmp 7) (by rfl) wa.heap.size (by rfl) Da za Ba ?_)
        | (refine atL 45 (.tmp 10) (by rfl) ?_; refine ld45 (by rfl) (.tmp 10) (by rfl) wb.heap.size (by rfl) Db zb Bb ?_)
        | (go_at_call 19; go_must (refine (refSameV Va Vb).mono ?_; rintro e ws ⟨rfl, bs⟩; rw [smB_self]; replace hB := hB.trans (bs.mono hB.size)))
        | (go_at_call 16; go_must (refine (anchored_any _).mono ?_; rintro e wn ⟨rfl, bn⟩; replace hB := hB.trans (bn.mono hB.size))))
      go_ret
      exact ⟨by simp, hB⟩
  · go_enter Try.func5, Try.ntmps5
    go_upto_region 3 with fail
    have hf : Hid (-9223372036854775808 ≤ x ∧ x ≤ 9223372036854775807) := Hid.mk' (by omega)
    go_upto_region 4 with (first
      | (refine atL 45 (.tmp 3) (by rfl) ?_; refine ld45 (by rfl) (.tmp 3) (by rfl) w.heap.size (by rfl) C zC A0 ?_)
      | (go_at_call 23; go_must (refine (runV V hS (x := x) hf.out).mono ?_; rintro e wa ⟨Da, rfl, Va, ba⟩; generalize hR : rO es m x = R at Va ⊢; replace hR := Hid.mk' hR; have za := Va.size; have oa := Va.one; replace hS := hS.bel ba; replace V := V.bel ba; replace A0 := A0.below ba A0.lt; replace hB := hB.trans (ba.mono hB.size)))
      | (refine atS 45 (.tmp 7) (.tmp 24) (by rfl) ?_; refine st45n (by rfl) (.tmp 7) (.tmp 24) (by rfl) wa wa.heap.size rfl (by rfl) Da (by rfl) (by rfl) za oa ?_))
    have Ba := Arr.new wa 45 Da
    have qa := alloc_bel' wa (.cells Da 45)
    replace Va := Va.bel qa
    replace hS := hS.bel qa
    replace V := V.bel qa
    replace A0 := A0.below qa A0.lt
    replace hB := hB.alloc hB.size (.cells Da 45)
    go_upto_region 5 with (first
      | (refine atL 45 (.tmp 3) (by rfl) ?_; refine ld45 (by rfl) (.tmp 3) (by rfl) w.heap.size (by rfl) C zC A0 ?_)
      | (go_at_call 24; go_must (refine (refRunV V hS (x := x) hf.out).mono ?_; rintro e wb ⟨Db, rfl, Vb, bb⟩; rw [hR.out] at Vb ⊢; have zb := Vb.size; have ob := Vb.one; replace Ba := Ba.below bb Ba.lt; replace Va := Va.bel bb; replace hB := hB.trans (bb.mono hB.size)))
      | (refine atS 45 (.tmp 10) (.tmp 32) (by rfl) ?_; refine st45n (by rfl) (.tmp 10) (.tmp 32) (by rfl) wb wb.heap.size rfl (by rfl) Db (by rfl) (by rfl) zb ob ?_))
    have Bb := Arr.new wb 45 Db
    have qb := alloc_bel' wb (.cells Db 45)
    replace Va := Va.bel qb
    replace Vb := Vb.bel qb
    replace Ba := Ba.below qb Ba.lt
    replace hB := hB.alloc hB.size (.cells Db 45)
    go_wp2_with (first
      | (refine atL 45 (.tmp 7) (by rfl) ?_; refine ld45 (by rfl) (.tmp 7) (by rfl) wa.heap.size (by rfl) Da za Ba ?_)
      | (refine atL 45 (.tmp 10) (by rfl) ?_; refine ld45 (by rfl) (.tmp 10) (by rfl) wb.heap.size (by rfl) Db zb Bb ?_)
      | (go_at_call 19; go_must (refine (refSameV Va Vb).mono ?_; rintro e ws ⟨rfl, bs⟩; rw [smB_self]; replace hB := hB.trans (bs.mono hB.size)))
      | (go_at_call 16; go_must (refine (anchored_any _).mono ?_; rintro e wn ⟨rfl, bn⟩; replace hB := hB.trans (bn.mono hB.size))))
    go_ret
    exact ⟨by simp, hB⟩
end Go.Proofs.Ytnjbmffgbgbjmaa
/- Layer vm: the document's Copy of any machine; what the law VmFresh writes over. -/
namespace Go.Proofs.Ytnjbmffgbgbjmaa
open Go.RowKit
set_option maxRecDepth 100000
set_option linter.unusedVariables false
set_option linter.unusedSimpArgs false

theorem own64g {w : World} {base n : Nat} {v : Value} {L : List Int} (h : w.ownsRow base 26 1 v n (by64 L)) (hn : n ≤ 17592186044416) : ∃ sp cap, v = .slice sp n cap ∧ MS w.heap.size w sp n cap L := by
  by_cases h0 : 0 < n
  · obtain ⟨gm, cap, rfl, hl, -, hc1, hc2, hM⟩ := own64 h h0
    exact ⟨_, cap, rfl, hM.ms hl hn ⟨hc1, hc2⟩⟩
  · obtain rfl : n = 0 := by omega
    obtain ⟨hl, ⟨rfl, h1⟩ | ⟨g, cap, cur, rfl, hg, hh, hn', hm, hc, ht⟩⟩ := h
    · have hL : L = [] := List.eq_nil_of_length_eq_zero (by rw [by64_len] at hl; omega)
      subst hL
      exact ⟨none, 0, rfl, MS.nil0 _ _⟩
    · have hL : L = [] := List.eq_nil_of_length_eq_zero (by rw [by64_len] at hl; omega)
      subst hL
      exact ⟨_, cap, rfl, rfl, (fun e => by cases e), by omega, by unfold maxLen at hm; omega, by omega, fun h => absurd h (by omega)⟩
theorem set18g {m : Mc} (h : m.rg.length = 16) (sp : Option Addr) (n cap : Nat) (s : Option Addr) (c : Nat) : (mcA m sp n cap).setIfInBounds 18 (.slice s n c) = mcA m s n c := set18 h _ _ _ _
set_option maxHeartbeats 1000000 in
/-- Copy, of any machine. -/
theorem copyG (m : Mc) (sp : Option Addr) (n cap : Nat) (w : World) (hok : m.ok) (hM : MS w.heap.size w sp n cap m.me) :
    Calls Try.prog 27 #[.agg (mcA m sp n cap)] w fun e w' => ∃ sp' cap', e = .returned (.agg (mcA m sp' n cap')) ∧ MS w'.heap.size w' sp' n cap' m.me ∧ Below w.heap.size w w' := by
  have A0 := (Arr.new w 45 (mcA m sp n cap)).alloc (.cells (mcA zM none 0 0) 45)
  have A1 := Arr.new (w.alloc (.cells (mcA m sp n cap) 45)) 45 (mcA zM none 0 0)
  simp only [World.size_alloc] at A1
  have hs0 := mcA_size hok.r16 sp n cap
  have hsz := mcA_size zM_ok.r16 none 0 0
  have hb0 := (alloc_bel' w (.cells (mcA m sp n cap) 45)).alloc (by simp) (.cells (mcA zM none 0 0) 45)
  have c18A := mcA_18 hok.r16 sp n cap
  have hset : ∀ (s : Option Addr) (cp : Nat), (mcA m sp n cap).setIfInBounds 18 (.slice s n cp) = mcA m s n cp := fun s cp => set18g hok.r16 _ _ _ _ _
  have hM0 := hM.below hb0
  have hsm := hM.small
  have hs5 := fun (s : Option Addr) (cp : Nat) => mcA_size hok.r16 s n cp
  have ho5 := fun (s : Option Addr) (cp : Nat) => mcA_one m s n cp
  generalize hC : mcA m sp n cap = C at A0 A1 hb0 hset c18A hs0 hM0 ⊢
  clear hC
  obtain ⟨W, hW⟩ : ∃ W : World, W = (w.alloc (.cells C 45)).alloc (.cells (mcA zM none 0 0) 45) := ⟨_, rfl⟩
  have hWs : w.heap.size + 2 ≤ W.heap.size := by rw [hW]; simp
  have hlit : (W.alloc (.cells #[] 26)).ownsRow W.heap.size 26 1 (.slice (some ⟨W.heap.size, 0, none⟩) 0 0) 0 (by64 []) := World.ownsRow_lit _ _ _ (Nat.le_refl _) (by unfold maxLen; omega) rfl
  rw [← hW] at A0 A1 hb0 hM0
  have A0' := A0.alloc (.cells #[] 26)
  have A1' := A1.alloc (.cells #[] 26)
  have d18 := (A0'.cell 18).trans c18A
  have hM1 := (hM0.mono (show w.heap.size ≤ W.heap.size by omega)).below (alloc_bel' W (.cells #[] 26))
  go_enter Try.func27, Try.ntmps27
  go_upto_region 1 with fail
  rw [show mcA zM none 0 0 = #[.int .u64 0, .int .u64 0, .int .u64 0, .int .u64 0, .int .u64 0, .int .u64 0, .int .u64 0, .int .u64 0, .int .u64 0, .int .u64 0, .int .u64 0, .int .u64 0, .int .u64 0, .int .u64 0, .int .u64 0, .int .u64 0, .int .u64 0, .int .u8 0, .slice none 0 0] from rfl] at hW
  rw [← hW]
  clear hW
  go_upto_region 2 with (at_builtin; go_must (refine append_words (by rfl) (.tmp 3) (.tmp 5) (by rfl) W.heap.size _ (by rfl) hlit sp n cap m.me (by rfl) hM1 (by simp) ?_; intro v1 w1 hown1 hg1; have hbw : Below W.heap.size W w1 := (alloc_bel' W (.cells #[] 26)).grown hg1 (by simp) (fun k e => by simp [Value.ownBlock] at e; omega); obtain ⟨sp', cap', rfl, hMS⟩ := own64g hown1 hsm; have A02 := A0.below hbw A0.lt; have A12 := A1.below hbw A1.lt; have d18' := (A02.cell 18).trans c18A; have f18' := A02.frozen 18; have hat : Hid (0 < n → ∃ gm, sp' = some ⟨gm, 0, none⟩ ∧ W.heap.size ≤ gm ∧ MW w1 gm m.me) := Hid.mk' (fun h0 => (by obtain ⟨gm, cp, he, -, hgm, -, -, hMW⟩ := own64 hown1 h0; injection he with he1; exact ⟨gm, he1, hgm, hMW⟩))))
  have B2 : Below w.heap.size w w1 := hb0.trans (hbw.mono hb0.size)
  have A5 : Arr (w1.setCell ⟨w.heap.size, 18, none⟩ (.slice sp' n cap')) w.heap.size 45 (mcA m sp' n cap') := by have := A02.set 18 (.slice sp' n cap'); rw [hset] at this; exact this
  have A15 : Arr (w1.setCell ⟨w.heap.size, 18, none⟩ (.slice sp' n cap')) (w.heap.size + 1) 45 (mcA zM none 0 0) := A12.setOther _ (by simp)
  have B5 : Below w.heap.size w (w1.setCell ⟨w.heap.size, 18, none⟩ (.slice sp' n cap')) := B2.setCell (Nat.le_refl _) _
  have hat5 : Hid (0 < n → ∃ gm, sp' = some ⟨gm, 0, none⟩ ∧ W.heap.size ≤ gm ∧ MW (w1.setCell ⟨w.heap.size, 18, none⟩ (.slice sp' n cap')) gm m.me) := Hid.mk' (fun h0 => by
    obtain ⟨gm, he, hgm, hMW⟩ := hat.out h0
    exact ⟨gm, he, hgm, hMW.setOther _ (by show gm ≠ w.heap.size; omega)⟩)
  generalize w1.setCell ⟨w.heap.size, 18, none⟩ (.slice sp' n cap') = W5 at A5 A15 B5 hat5 ⊢
  have hs5 := hs5 sp' cap'
  have ho5 := ho5 sp' cap'
  have hMl := hMS.len
  have hMn := hMS.nil
  have hMe := hMS.le
  have hMb := hMS.big
  replace hMl := Hid.mk' hMl
  replace hMn := Hid.mk' hMn
  clear A0 A1 A0' A1' d18 A02 A12 d18' f18' hbw hset c18A hlit hM0 hM1 hown1 hMS hat
  go_wp2_with (first
    | (refine ld45 (by rfl) (.tmp 1) (by rfl) w.heap.size (by rfl) _ hs5 A5 ?_)
    | (refine st45 (by rfl) (.tmp 2) (.tmp 8) (by rfl) (w.heap.size + 1) _ (by rfl) (by rfl) hs5 ho5 _ hsz A15 ?_))
  refine bodyPost_ret (v := .agg (mcA m sp' n cap')) (res45c Try.results27 rfl hs5 (A15.setRow _)) rfl ⟨sp', cap', rfl, ⟨hMl.out, hMn.out, hMe, hMb, hsm, fun h0 => ?_⟩, below_setRow B5 (by omega) _⟩
  obtain ⟨gm, rfl, hgm, hMW⟩ := hat5.out h0
  have hMf := hMW.block (setRow_other W5 (w.heap.size + 1) gm (mcA m (some ⟨gm, 0, none⟩) n cap') (by omega))
  exact ⟨gm, 0, rfl, hMf.lt, fun t ht => by rw [Nat.zero_add]; exact hMf.cell (by rw [← hMl.out.out]; exact ht)⟩
theorem copyV {m : Mc} {C : Array Value} {w : World} (h : MV w m C) : Calls Try.prog 27 #[.agg C] w fun e w' => ∃ D, e = .returned (.agg D) ∧ MV w' m D ∧ Below w.heap.size w w' := by
  obtain ⟨sp, n, cap, rfl, hM⟩ := h.ex
  exact (copyG m sp n cap w h.ok hM).mono fun e w' ⟨sp1, cap1, he, hM1, hb⟩ => ⟨_, he, ⟨⟨sp1, n, cap1, rfl, hM1⟩, h.ok⟩, hb⟩
/-- A memory of its own, from block gm on, that is written over. -/
structure FO (B : Nat) (w : World) (sp : Option Addr) (n gm : Nat) (L : List Int) : Prop where
  len : Hid (n = L.length)
  at0 : 0 < n → sp = some ⟨gm, 0, none⟩ ∧ B ≤ gm ∧ MW w gm L
theorem FO.set {B : Nat} {w : World} {sp : Option Addr} {n gm : Nat} {L : List Int} (h : FO B w sp n gm L) {k : Nat} (hk : k < n) (x : Int) : FO B (w.setCell ⟨gm, k, none⟩ (.int .u64 x)) sp n gm (L.set k x) :=
  ⟨by show n = _; rw [List.length_set]; exact h.len.out, fun h0 => let ⟨a, b, c⟩ := h.at0 h0; ⟨a, b, c.set (by rw [← h.len.out]; exact hk) x⟩⟩
theorem FO.oth {B : Nat} {w : World} {sp : Option Addr} {n gm : Nat} {L : List Int} (h : FO B w sp n gm L) {a : Addr} (v : Value) (ha : 0 < n → gm ≠ a.block) : FO B (w.setCell a v) sp n gm L :=
  ⟨h.len, fun h0 => let ⟨a1, b, c⟩ := h.at0 h0; ⟨a1, b, c.setOther v (ha h0)⟩⟩
theorem FO.bel {B : Nat} {w w' : World} {sp : Option Addr} {n gm : Nat} {L : List Int} (h : FO B w sp n gm L) (hb : Below w.heap.size w w') : FO B w' sp n gm L :=
  ⟨h.len, fun h0 => let ⟨a, b, c⟩ := h.at0 h0; ⟨a, b, c.below hb c.lt⟩⟩
theorem FO.low {B B' : Nat} {w : World} {sp : Option Addr} {n gm : Nat} {L : List Int} (h : FO B w sp n gm L) (hB : B' ≤ B) : FO B' w sp n gm L :=
  ⟨h.len, fun h0 => let ⟨a, b, c⟩ := h.at0 h0; ⟨a, Nat.le_trans hB b, c⟩⟩
theorem FO.mk' {B : Nat} {w : World} {sp : Option Addr} {n : Nat} {L : List Int} (hl : Hid (n = L.length)) (h : 0 < n → ∃ gm, sp = some ⟨gm, 0, none⟩ ∧ B ≤ gm ∧ MW w gm L) : ∃ gm, FO B w sp n gm L := by
  by_cases h0 : 0 < n
  · obtain ⟨gm, h1⟩ := h h0
    exact ⟨gm, hl, fun _ => h1⟩
  · exact ⟨0, hl, fun h1 => absurd h1 h0⟩
theorem runF {es : List En} {m : Mc} {C : Array Value} {sq : Option Addr} {nk ck : Nat} {x : Int} {w : World} (h : MV w m C) (hS : ES w.heap.size w sq nk ck es) (hx : -9223372036854775808 ≤ x ∧ x ≤ 9223372036854775807) :
    Calls Try.prog 23 #[.agg C, .slice sq nk ck, .int .i64 x] w fun e w' => ∃ D sp n cap gm L y z, e = .returned (.tuple #[.agg D, .int .i64 y, .int .i64 z]) ∧ D.size = 19 ∧ D.all (·.oneCell') = true ∧ D[18]? = some (.slice sp n cap) ∧ n ≤ 9223372036854775807 ∧ FO w.heap.size w' sp n gm L ∧ Below w.heap.size w w' := by
  obtain ⟨sp, n, cap, rfl, hM⟩ := h.ex
  refine (run23_any m sp n cap sq nk ck x w h.ok hM hS hx).mono fun e w' ⟨sp1, n1, cap1, he, hok, hM1, hb, hg⟩ => ?_
  obtain ⟨gm, hF⟩ := FO.mk' hM1.len hg
  exact ⟨_, sp1, n1, cap1, gm, _, _, _, he, mcA_size hok.r16 _ _ _, mcA_one _ _ _ _, mcA_18 hok.r16 _ _ _, by have := hM1.small; omega, hF, hb⟩
theorem stepF {es : List En} {m : Mc} {C : Array Value} {sq : Option Addr} {nk ck : Nat} {w : World} (h : MV w m C) (hS : ES w.heap.size w sq nk ck es) :
    Calls Try.prog 17 #[.agg C, .slice sq nk ck] w fun e w' => ∃ D sp n cap gm L z, e = .returned (.tuple #[.agg D, .int .i64 z]) ∧ D.size = 19 ∧ D.all (·.oneCell') = true ∧ D[18]? = some (.slice sp n cap) ∧ n ≤ 9223372036854775807 ∧ FO w.heap.size w' sp n gm L ∧ Below w.heap.size w w' := by
  obtain ⟨sp, n, cap, rfl, hM⟩ := h.ex
  refine (step17_any m sp n cap sq nk ck w h.ok hM hS).mono fun e w' ⟨sp1, n1, cap1, he, hok, hM1, hb, hg⟩ => ?_
  obtain ⟨gm, hF⟩ := FO.mk' hM1.len hg
  exact ⟨_, sp1, n1, cap1, gm, _, _, he, mcA_size hok.r16 _ _ _, mcA_one _ _ _ _, mcA_18 hok.r16 _ _ _, by have := hM1.small; omega, hF, hb⟩
end Go.Proofs.Ytnjbmffgbgbjmaa
/- Layer vm: the law VmFresh. -/
namespace Go.Proofs.Ytnjbmffgbgbjmaa
open Go.RowKit
set_option maxRecDepth 100000
set_option linter.unusedVariables false
set_option linter.unusedSimpArgs false

set_option maxHeartbeats 4000000 in
theorem fresh_walk (m : Mc) (C : Array Value) (sq : Option Addr) (nk ck : Nat) (es : List En) (x : Int) (w : World) (V0 : MV w m C) (hS0 : ES w.heap.size w sq nk ck es) (hx : 0 ≤ x ∧ x < 256) :
    Calls Try.prog 8 #[.agg C, .slice sq nk ck, .int .u8 x] w fun e w' => e = .returned (.bool true) ∧ Below w.heap.size w w' := by
  obtain ⟨X, rfl⟩ : ∃ X : Nat, x = X := ⟨x.toNat, by omega⟩
  have hB := alloc_bel' w (.cells C 45)
  have A0 := Arr.new w 45 C
  have hS := hS0.bel hB
  have V := V0.bel hB
  have zC := V.size
  have hwx : wrap64 (X : Int) = X := by unfold wrap64; omega
  have hfx : Hid (-9223372036854775808 ≤ (X : Int) ∧ (X : Int) ≤ 9223372036854775807) := Hid.mk' (by omega)
  clear hS0 V0
  go_enter Try.func8, Try.ntmps8
  go_upto_region 2 with (first
    | (refine atL 45 (.tmp 3) (by rfl) ?_; refine ld45 (by rfl) (.tmp 3) (by rfl) w.heap.size (by rfl) C zC A0 ?_)
    | (go_at_call 27; go_must (refine (copyV V).mono ?_; rintro e wc ⟨Dc, rfl, Vc, bc⟩; have zc := Vc.size; have oc := Vc.one; replace hS := hS.bel bc; replace V := V.bel bc; replace A0 := A0.below bc A0.lt; replace hB := hB.trans (bc.mono hB.size)))
    | (refine atS 45 (.tmp 7) (.tmp 22) (by rfl) ?_; refine st45n (by rfl) (.tmp 7) (.tmp 22) (by rfl) wc wc.heap.size rfl (by rfl) Dc (by rfl) (by rfl) zc oc ?_))
  have Ac := Arr.new wc 45 Dc
  have qc := alloc_bel' wc (.cells Dc 45)
  replace Vc := Vc.bel qc
  replace hS := hS.bel qc
  replace V := V.bel qc
  replace A0 := A0.below qc A0.lt
  replace hB := hB.alloc hB.size (.cells Dc 45)
  clear qc bc
  obtain ⟨gc, hgc⟩ : ∃ gc, gc = wc.heap.size := ⟨_, rfl⟩
  rw [← hgc] at Ac ⊢
  generalize wc.alloc (.cells Dc 45) = U at Vc hS V A0 hB Ac ⊢
  clear hgc
  have hU0 : Below U.heap.size U U := Below.refl _ _
  go_upto_region 3 with (first
    | (refine atL 45 (.tmp 7) (by rfl) ?_; refine ld45 (by rfl) (.tmp 7) (by rfl) gc (by rfl) Dc zc Ac ?_)
    | (go_at_call 23; go_must (refine (runF Vc hS (x := (X : Int)) hfx.out).mono ?_; rintro e wa ⟨Da, spa, na, ca, ga, La, ya, ea, rfl, za, oa, da, sa, fa, ba⟩))
    | (refine atS 45 (.tmp 8) (.tmp 29) (by rfl) ?_; refine st45n (by rfl) (.tmp 8) (.tmp 29) (by rfl) wa wa.heap.size rfl (by rfl) Da (by rfl) (by rfl) za oa ?_))
  have Aa := Arr.new wa 45 Da
  have qa := alloc_bel' wa (.cells Da 45)
  have hfa : 0 < na → ga < wa.heap.size := fun h => (fa.at0 h).2.2.lt
  replace fa := fa.bel qa
  have hBa := ba.alloc ba.size (.cells Da 45)
  clear ba qa
  obtain ⟨g8, hg8⟩ : ∃ g8, g8 = wa.heap.size := ⟨_, rfl⟩
  have hg8a : 0 < na → ga < g8 := by rw [hg8]; exact hfa
  rw [← hg8] at Aa ⊢
  generalize wa.alloc (.cells Da 45) = Ua at Aa fa hBa ⊢
  have hg8u := Aa.lt
  clear hg8 hfa
  have Aca := Ac.below hBa Ac.lt
  have Vca := Vc.bel hBa
  have hSa := hS.bel hBa
  go_upto_region 4 with (first
    | (refine atL 45 (.tmp 7) (by rfl) ?_; refine ld45 (by rfl) (.tmp 7) (by rfl) gc (by rfl) Dc zc Aca ?_)
    | (go_at_call 17; go_must (refine (stepF Vca hSa).mono ?_; rintro e wb ⟨Db, spb, nb, cb, gb, Lb, eb, rfl, zb, ob, db, sb, fb, bb⟩))
    | (refine atS 45 (.tmp 11) (.tmp 36) (by rfl) ?_; refine st45n (by rfl) (.tmp 11) (.tmp 36) (by rfl) wb wb.heap.size rfl (by rfl) Db (by rfl) (by rfl) zb ob ?_))
  have Ab := Arr.new wb 45 Db
  have qb := alloc_bel' wb (.cells Db 45)
  have hgab : 0 < na → 0 < nb → gb ≠ ga := fun h1 h2 => by have := hg8a h1; have := (fb.at0 h2).2.1; omega
  have hfb : 0 < nb → gb < wb.heap.size := fun h => (fb.at0 h).2.2.lt
  replace fb := (fb.bel qb).low (B' := U.heap.size) hBa.size
  have hbU := bb.alloc bb.size (.cells Db 45)
  replace fa := fa.bel hbU
  replace Aa := Aa.below hbU Aa.lt
  have hBb := hBa.trans (hbU.mono hBa.size)
  have hg8b : g8 < wb.heap.size := by have := bb.size; omega
  clear bb qb hbU Aca Vca hSa
  obtain ⟨g11, hg11⟩ : ∃ g11, g11 = wb.heap.size := ⟨_, rfl⟩
  rw [← hg11] at Ab hfb hg8b ⊢
  generalize wb.alloc (.cells Db 45) = Ub at Ab Aa fa fb hBb ⊢
  clear hg11 hg8u hBa
  replace hg8a := Hid.mk' hg8a
  replace hgab := Hid.mk' hgab
  replace hfb := Hid.mk' hfb
  replace da := Hid.mk' da
  replace db := Hid.mk' db
  go_wp2_with fail
  go_loopw [13] (fun v wr => ∃ (k : Nat) (L : List Int), v = .int .i64 (k : Int) ∧ k ≤ na ∧ FO U.heap.size wr spa na ga L ∧ FO U.heap.size wr spb nb gb Lb ∧ Arr wr g8 45 Da ∧ Arr wr g11 45 Db ∧ Below U.heap.size U wr)
    (fun v _ => na - (intOf v).toNat)
  case atStart => exact ⟨0, La, rfl, by omega, fa, fb, Aa, Ab, hBb⟩
  case round =>
    clear fa fb Aa Ab hBb
    obtain ⟨k, L, rfl, hk, fa, fb, Aa, Ab, hBb⟩ := hrel
    have d18 := (Aa.cell 18).trans da.out
    by_cases hlt : k < na
    · have hI : (k : Int) < na := by omega
      obtain ⟨rfl, hga, hMW⟩ := fa.at0 (by omega)
      have hlen := fa.len
      obtain ⟨cv, hcv⟩ : ∃ v, wr.cell? ⟨ga, k, none⟩ = some v := ⟨_, hMW.cell (by rw [← hlen.out]; exact hlt)⟩
      have hfz := hMW.frozen k
      have g1 := hg8a.out (by omega)
      have n8 : g8 ≠ ga := by omega
      have n11 : g11 ≠ ga := by omega
      go_wp2_with fail
      go_roundw
      case rel => exact ⟨k + 1, _, by go_num, by omega, fa.set hlt 77, fb.oth _ (fun h => hgab.out (by omega) h), Aa.setOther _ n8, Ab.setOther _ n11, hBb.setCell hga _⟩
      case measure => simp [intOf]; omega
    · have hI : ¬ (k : Int) < na := by omega
      clear hlt
      go_wp2_with fail
      go_loopw [14] (fun v wr => ∃ (k : Nat) (L : List Int), v = .int .i64 (k : Int) ∧ k ≤ nb ∧ FO U.heap.size wr spb nb gb L ∧ Arr wr g11 45 Db ∧ Below U.heap.size U wr)
        (fun v _ => nb - (intOf v).toNat)
      case atStart => exact ⟨0, Lb, rfl, by omega, fb, Ab, hBb⟩
      case round =>
        clear fa fb Aa Ab hBb d18
        obtain ⟨k2, L2, rfl, hk2, fb, Ab, hBb⟩ := hrel
        have d18 := (Ab.cell 18).trans db.out
        by_cases hlt2 : k2 < nb
        · have hI2 : (k2 : Int) < nb := by omega
          obtain ⟨rfl, hgb, hMW⟩ := fb.at0 (by omega)
          have hlen := fb.len
          obtain ⟨cv, hcv⟩ : ∃ v, wr.cell? ⟨gb, k2, none⟩ = some v := ⟨_, hMW.cell (by rw [← hlen.out]; exact hlt2)⟩
          have hfz := hMW.frozen k2
          have g1 := hfb.out (by omega)
          have n11 : g11 ≠ gb := by omega
          go_wp2_with fail
          go_roundw
          case rel => exact ⟨k2 + 1, _, by go_num, by omega, fb.set hlt2 78, Ab.setOther _ n11, hBb.setCell hgb _⟩
          case measure => simp [intOf]; omega
        · have hI2 : ¬ (k2 : Int) < nb := by omega
          clear hlt2
          replace V := V.bel hBb
          replace Vc := Vc.bel hBb
          replace hS := hS.bel hBb
          replace A0 := A0.below hBb A0.lt
          replace Ac := Ac.below hBb Ac.lt
          replace hB := hB.trans (hBb.mono hB.size)
          clear fb Ab hBb hU0
          go_upto_region 13 with (first
            | (refine atL 45 (.tmp 7) (by rfl) ?_; refine ld45 (by rfl) (.tmp 7) (by rfl) gc (by rfl) Dc zc Ac ?_)
            | (go_at_call 23; go_must (refine (runV Vc hS (x := (X : Int)) hfx.out).mono ?_; rintro e wd ⟨Dd, rfl, Vd, bd⟩; generalize hR : rO es m (X : Int) = R at Vd ⊢; replace hR := Hid.mk' hR; have zd := Vd.size; have od := Vd.one; replace hS := hS.bel bd; replace V := V.bel bd; replace Vc := Vc.bel bd; replace A0 := A0.below bd A0.lt; replace Ac := Ac.below bd Ac.lt; replace hB := hB.trans (bd.mono hB.size)))
            | (refine atS 45 (.tmp 15) (.tmp 66) (by rfl) ?_; refine st45n (by rfl) (.tmp 15) (.tmp 66) (by rfl) wd wd.heap.size rfl (by rfl) Dd (by rfl) (by rfl) zd od ?_))
          have Ad := Arr.new wd 45 Dd
          have qd := alloc_bel' wd (.cells Dd 45)
          replace Vd := Vd.bel qd
          replace hS := hS.bel qd
          replace V := V.bel qd
          replace Vc := Vc.bel qd
          replace A0 := A0.below qd A0.lt
          replace Ac := Ac.below qd Ac.lt
          replace hB := hB.alloc hB.size (.cells Dd 45)
          go_upto_region 14 with (first
            | (refine atL 45 (.tmp 3) (by rfl) ?_; refine ld45 (by rfl) (.tmp 3) (by rfl) w.heap.size (by rfl) C zC A0 ?_)
            | (go_at_call 24; go_must (refine (refRunV V hS (x := (X : Int)) hfx.out).mono ?_; rintro e wf ⟨Df, rfl, Vf, bf⟩; rw [hR.out] at Vf ⊢; have zf := Vf.size; have of := Vf.one; replace V := V.bel bf; replace Vc := Vc.bel bf; replace A0 := A0.below bf A0.lt; replace Ac := Ac.below bf Ac.lt; replace Ad := Ad.below bf Ad.lt; replace Vd := Vd.bel bf; replace hB := hB.trans (bf.mono hB.size)))
            | (refine atS 45 (.tmp 18) (.tmp 75) (by rfl) ?_; refine st45n (by rfl) (.tmp 18) (.tmp 75) (by rfl) wf wf.heap.size rfl (by rfl) Df (by rfl) (by rfl) zf of ?_))
          have Af := Arr.new wf 45 Df
          have qf := alloc_bel' wf (.cells Df 45)
          replace Vf := Vf.bel qf
          replace V := V.bel qf
          replace Vc := Vc.bel qf
          replace Vd := Vd.bel qf
          replace A0 := A0.below qf A0.lt
          replace Ac := Ac.below qf Ac.lt
          replace Ad := Ad.below qf Ad.lt
          replace hB := hB.alloc hB.size (.cells Df 45)
          have tok : True := trivial
          go_wp2_with (first
            | (go_at_call 16; go_must (refine (anchored_any _).mono ?_; rintro e wn ⟨rfl, bn⟩; replace V := V.bel bn; replace Vc := Vc.bel bn; replace Vd := Vd.bel bn; replace Vf := Vf.bel bn; replace A0 := A0.below bn A0.lt; replace Ac := Ac.below bn Ac.lt; replace Ad := Ad.below bn Ad.lt; replace Af := Af.below bn Af.lt; replace hB := hB.trans (bn.mono hB.size)))
            | (refine atL 45 (.tmp 3) (by rfl) ?_; refine ld45g (by rfl) (.tmp 3) (by rfl) w.heap.size (by rfl) C zC A0 ?_)
            | (refine atL 45 (.tmp 7) (by rfl) ?_; refine ld45g (by rfl) (.tmp 7) (by rfl) gc (by rfl) Dc zc Ac ?_)
            | (go_at_call 19; have tk := tok; clear tok; go_must (refine (refSameV V Vc).mono ?_; rintro e ws ⟨rfl, bs⟩; rw [smB_self]; replace Vd := Vd.bel bs; replace Vf := Vf.bel bs; replace Ad := Ad.below bs Ad.lt; replace Af := Af.below bs Af.lt; replace hB := hB.trans (bs.mono hB.size)))
            | (refine atL 45 (.tmp 15) (by rfl) ?_; refine ld45g (by rfl) (.tmp 15) (by rfl) wd.heap.size (by rfl) Dd zd Ad ?_)
            | (refine atL 45 (.tmp 18) (by rfl) ?_; refine ld45g (by rfl) (.tmp 18) (by rfl) wf.heap.size (by rfl) Df zf Af ?_)
            | (go_at_call 19; go_must (refine (refSameV Vd Vf).mono ?_; rintro e wt ⟨rfl, bt⟩; rw [smB_self]; replace hB := hB.trans (bt.mono hB.size))))
          go_ret
          exact ⟨by simp, hB⟩
end Go.Proofs.Ytnjbmffgbgbjmaa
/- Layer vm: what the layers below give. -/
namespace Go.Proofs.Ytnjbmffgbgbjmaa
open Go.ChangeAt Go.ChangeShapes Go.RowKit Go.WideShapes
set_option maxRecDepth 100000
set_option linter.unusedVariables false
set_option linter.unusedSimpArgs false

theorem own : ownKnob Try.prog.godebug = none := by kernel_rfl
theorem laidOut : laidOutB Try.prog = true := by kernel_rfl
theorem bytes5 : Try.prog.bytesOf 5 = 1 := by kernel_rfl
/-- AN ARRAY OF INTEGERS BY VALUE. -/
theorem open_arr {H : Type} {enc : TypeId × Value → H} {P : Program} {w : World} {base : Nat} {spare : Nat → Bool} {held : Bool} {r : Reach} {b0 : Nat} {t e n : Nat} {k : IntKind} {v : Value} {d : DataW H} {p : List MemPlace} (hu : P.underlying t = some (.array n e)) (he : P.underlying e = some (.int k)) (hc : P.cellsOf t = n) (hce : P.cellsOf e = 1)
    (hv : Value.okWide P w r b0 t v) (h : DataW.Trod enc P w base spare held t v d p) :
    ∃ X : List Int, X.length = n ∧ v = .agg (X.map (Value.int k)).toArray ∧ ∀ x ∈ X, (Lit.int k x).wf = true := by
  unfold Value.okWide at hv
  rw [hu] at hv
  obtain ⟨cs, rfl, hsz, -⟩ := hv
  obtain ⟨fuel, hf⟩ := h
  obtain ⟨xs, m, -, hx, hl, hxs, hi⟩ := DataW.trod_array hu hf
  have key : ∀ i, i < n → ∃ z, cs[i]? = some (.int k z) ∧ (Lit.int k z).wf = true := fun i hin => by
    have := hi i hin
    rw [List.getElem?_eq_getElem (by omega), hce] at this
    obtain ⟨z, hz, -, hwf⟩ := DataW.trod_int he this
    refine ⟨z, ?_, hwf⟩
    simp only [Value.cells, Nat.mul_one] at hz
    have h2 : (List.take 1 (List.drop i cs.toList))[0]? = some (.int k z) := by rw [hz]; rfl
    simpa using h2
  refine ⟨cs.toList.map fun v => match v with | .int _ z => z | _ => 0, by simp; omega, ?_, ?_⟩
  · congr 1
    apply Array.ext_getElem?
    intro i
    by_cases hin : i < n
    · obtain ⟨z, hz, -⟩ := key i hin
      simp [hz]
    · rw [Array.getElem?_eq_none (by omega), Array.getElem?_eq_none (by simp; omega)]
  · intro x hx
    obtain ⟨v, hv, rfl⟩ := List.mem_map.1 hx
    obtain ⟨i, hin, rfl⟩ := List.mem_iff_getElem.1 hv
    obtain ⟨z, hz, hwf⟩ := key i (by simp at hin; omega)
    have : cs.toList[i]? = some (.int k z) := by simpa using hz
    rw [List.getElem?_eq_getElem hin] at this
    rw [Option.some.inj this]; exact hwf
/-- A SLICE OF BYTES THAT CAME IN. -/
theorem open_bytes {H : Type} {enc : TypeId × Value → H} {W : World} {base : Nat} {b0 : Nat} {v : Value} {d : DataW H} {p : List MemPlace} {ts : List TypeId} {ds : List (DataW H)} {j : Nat}
    (hv : Value.okWide Try.prog W .any b0 34 v) (h : DataW.Trod enc Try.prog W base (fun _ => true) true 34 v d p)
    (hsz : (DataW.weightsEach Try.prog ts ds).all (· ≤ reachBytes) = true) (ht : ts[j]? = some 34) (hd : ds[j]? = some d) :
    ∃ (sp : Option Addr) (n cap : Nat) (L : List Int), v = .slice sp n cap ∧ n = L.length ∧ (sp = none → n = 0 ∧ cap = 0) ∧ SlL W sp L ∧ n ≤ cap ∧ cap ≤ 140737488351232 ∧ ∀ x ∈ L, (Lit.int .u8 x).wf = true := by
  obtain ⟨a0, len0, cap0, rfl⟩ := okWide_slice Try.underlying34 hv
  obtain ⟨fuel, hf⟩ := h
  rcases open_ints Try.underlying34 Try.underlying5 (by kernel_rfl) hf with ⟨hcs, _⟩ | ⟨x, l, c, zs, hcs, _, hl, hm, hz, hx, hcell, hwz⟩
  · simp [Value.cells] at hcs
    obtain ⟨rfl, rfl, rfl⟩ := hcs
    exact ⟨none, 0, 0, [], rfl, rfl, fun _ => ⟨rfl, rfl⟩, fun h => absurd h (by simp), Nat.le_refl _, by omega, by simp⟩
  · simp [Value.cells] at hcs
    obtain ⟨rfl, rfl, rfl⟩ := hcs
    have hz' : zs.length = cap0 := by simpa using hz
    have hd' : d = .slice (lits .u8 (zs.take len0)) (lits .u8 (zs.drop len0)) := (Prod.ext_iff.1 hx).1
    subst hd'
    have hr := sized_slice hsz ht hd Try.underlying34
    rw [bytes5] at hr
    simp only [lits, List.length_map, List.length_take, List.length_drop, reachBytes] at hr
    refine ⟨some x, len0, cap0, zs.take len0, rfl, by simp; omega, (fun h => by cases h), ?_, hl, by omega, fun y hy => hwz y (List.mem_of_mem_take hy)⟩
    intro h0
    have h0' : 0 < zs.length := by simp at h0; omega
    obtain ⟨b, off, rfl, hc⟩ := ints_at hcell h0'
    refine ⟨b, off, rfl, fun t ht => ?_⟩
    have htl : t < len0 := by simp at ht; omega
    rw [hc t (by omega)]
    simp [bat, List.getElem?_take_of_lt htl]
end Go.Proofs.Ytnjbmffgbgbjmaa
/- Layer vm: what the layers below give. -/
namespace Go.Proofs.Ytnjbmffgbgbjmaa
open Go.ChangeAt Go.ChangeShapes Go.RowKit Go.WideShapes
set_option maxRecDepth 100000
set_option linter.unusedVariables false
set_option linter.unusedSimpArgs false

theorem exists_list {α : Type} {P : Nat → α → Prop} : ∀ (n : Nat), (∀ i, i < n → ∃ a, P i a) → ∃ l : List α, l.length = n ∧ ∀ i a, l[i]? = some a → P i a
  | 0, _ => ⟨[], rfl, fun i a h => by simp at h⟩
  | n + 1, h => by
    obtain ⟨l, hl, hP⟩ := exists_list n (fun i hi => h i (by omega))
    obtain ⟨a, ha⟩ := h n (by omega)
    refine ⟨l ++ [a], by simp [hl], fun i b hb => ?_⟩
    by_cases hi : i < n
    · rw [List.getElem?_append_left (by omega)] at hb; exact hP i b hb
    · rw [List.getElem?_append_right (by omega)] at hb
      have : i - l.length = 0 := by have := (List.getElem?_eq_some_iff.1 hb).1; simp at this; omega
      rw [this] at hb
      simp at hb
      subst hb
      obtain rfl : i = n := by omega
      exact ha
theorem weights_all {H : Type} {P : Program} {e : TypeId} {l : List (DataW H)} {d : DataW H} (hd : d ∈ l) : ∀ n ∈ d.weights P e, n ∈ DataW.weightsAll P e l := by
  induction l with
  | nil => simp at hd
  | cons x r ih =>
    intro n hn
    rw [DataW.weightsAll]
    rcases List.mem_cons.1 hd with rfl | h
    · exact List.mem_append_left _ hn
    · exact List.mem_append_right _ (ih h n hn)
/-- Nothing in it is greater than the reach. -/
def Small {H : Type} (t : TypeId) (d : DataW H) : Prop := ∀ n ∈ d.weights Try.prog t, n ≤ reachBytes
theorem bts_wf {L : List Int} (h : ∀ x ∈ L, (Lit.int .u8 x).wf = true) : Bts L := fun x hx => by
  have h1 := h x hx
  have hmin : IntKind.u8.min = 0 := rfl
  have hmax : IntKind.u8.max = 255 := rfl
  simp only [Lit.wf, Bool.and_eq_true, decide_eq_true_eq] at h1
  omega
theorem cells5 : Try.prog.cellsOf 5 = 1 := by kernel_rfl
theorem cells29 : Try.prog.cellsOf 31 = 32 := by kernel_rfl
theorem cells38 : Try.prog.cellsOf 34 = 1 := by kernel_rfl
theorem cells54 : Try.prog.cellsOf 72 = 33 := by kernel_rfl
theorem bytes54 : Try.prog.bytesOf 72 = 56 := by kernel_rfl
section
variable {H : Type} {enc : TypeId × Value → H} {W : World} {base : Nat}

set_option maxRecDepth 100000 in
theorem bs_of_trod {fuel : Nat} {cs : List Value} {x : DataW H × List MemPlace} (h : DataW.trod enc Try.prog W base (fun _ => true) true fuel 34 cs = some x) (hs : Small 34 x.1) :
    ∃ sp n cap L, cs = [.slice sp n cap] ∧ BS W.heap.size W sp n cap L := by
  rcases open_ints Try.underlying34 Try.underlying5 (by kernel_rfl) h with ⟨rfl, _⟩ | ⟨a, len, cap, zs, rfl, _, hl, hm, hz, rfl, hcell, hwz⟩
  · exact ⟨none, 0, 0, [], rfl, BS.nil0 _ _⟩
  · have hz' : zs.length = cap := by simpa using hz
    have hr := hs ((zs.take len).length + (zs.drop len).length) (by simp [DataW.weights, Try.underlying34, bytes5, lits])
    simp only [List.length_take, List.length_drop, reachBytes] at hr
    refine ⟨some a, len, cap, zs.take len, rfl, ⟨show _ = _ by simp; omega, (fun e => by cases e), hl, by unfold maxLen at hm; omega, by omega, fun h0 => ?_, bts_wf fun y hy => hwz y (List.mem_of_mem_take hy)⟩⟩
    obtain ⟨b, off, rfl, hc⟩ := ints_at hcell (by omega)
    refine ⟨b, off, rfl, block_lt_of_cell (hc 0 (by omega)), fun t ht => ?_⟩
    rw [hc t (by omega)]
    simp [bat, List.getElem?_take_of_lt ht]
theorem h_of_trod {fuel : Nat} {cs : List Value} {x : DataW H × List MemPlace} (h : DataW.trod enc Try.prog W base (fun _ => true) true fuel 31 cs = some x) : ∃ X : List Int, X.length = 32 ∧ Bts X ∧ cs = by8 X := by
  obtain ⟨xs, m, -, hx, hl, hxs, hi⟩ := DataW.trod_array Try.underlying31 h
  rw [cells29] at hl
  have key : ∀ i, i < 32 → ∃ z, cs[i]? = some (.int .u8 z) ∧ (Lit.int .u8 z).wf = true := fun i hin => by
    have := hi i hin
    rw [List.getElem?_eq_getElem (by omega), cells5] at this
    obtain ⟨z, hz, -, hw⟩ := DataW.trod_int Try.underlying5 this
    refine ⟨z, ?_, hw⟩
    simp only [Nat.mul_one] at hz
    have h2 : (List.take 1 (List.drop i cs))[0]? = some (.int .u8 z) := by rw [hz]; rfl
    simpa using h2
  refine ⟨cs.map fun v => match v with | .int _ z => z | _ => 0, by simp [hl], bts_wf fun y hy => ?_, ?_⟩
  · obtain ⟨v, hv, rfl⟩ := List.mem_map.1 hy
    obtain ⟨i, hin, rfl⟩ := List.mem_iff_getElem.1 hv
    obtain ⟨z, hz, hw⟩ := key i (by omega)
    rw [List.getElem?_eq_getElem hin] at hz
    rw [Option.some.inj hz]; exact hw
  · apply List.ext_getElem?
    intro i
    by_cases hin : i < 32
    · obtain ⟨z, hz, -⟩ := key i hin
      simp [by8, hz]
    · rw [List.getElem?_eq_none (by omega), List.getElem?_eq_none (by rw [by8_len]; simp; omega)]
/-- The cells at an address. -/
theorem cells_at {a : Addr} {k : Nat} {cs : List Value} (hk : 0 < k) (h : W.cells? base a k = some cs) : ∃ b off, a = ⟨b, off, none⟩ ∧ W.rangeAt b off cs := by
  obtain ⟨-, hl, hc⟩ := World.cells?_some h
  have h0 := hc 0 hk
  have h0' : ∃ v, cs[0]? = some v := by
    cases cs with
    | nil => simp at hl; omega
    | cons x r => exact ⟨x, rfl⟩
  obtain ⟨v0, hv0⟩ := h0'
  rw [hv0] at h0
  obtain ⟨b, off, spot⟩ := a
  have hspot : spot = none := by simpa [Addr.add] using World.cell?_spot h0
  subst hspot
  refine ⟨b, off, rfl, fun j v hv => ?_⟩
  have hj : j < k := by have := (List.getElem?_eq_some_iff.1 hv).1; omega
  have := hc j hj
  rw [Addr.add_mid] at this
  rw [this]; exact hv
set_option maxRecDepth 100000 in
theorem en_of_trod (fuel : Nat) (cs : List Value) (x : DataW H × List MemPlace) (h : DataW.trod enc Try.prog W base (fun _ => true) true fuel 72 cs = some x) (hs : Small 72 x.1) :
    ∃ e : En, cs = e.cells ∧ EnOK W.heap.size W e := by
  obtain ⟨xs, n, rfl, rfl, hl, hxl, hf⟩ := DataW.trod_struct Try.underlying72 h
  rw [cells54] at hl
  simp at hxl
  match xs, hxl with
  | [x0, x1], _ =>
  have f0 := hf 0 _ rfl
  have f1 := hf 1 _ rfl
  simp [cells38, cells29] at f0 f1
  have s0 : Small 34 x0.1 := fun m hm => hs m (by simp [DataW.weights, Try.underlying72, DataW.weightsEach, hm])
  obtain ⟨sp, m, cap, L, e0, hB⟩ := bs_of_trod f0 s0
  obtain ⟨X, hX, -, e1⟩ := h_of_trod f1
  refine ⟨⟨sp, m, cap, L, X⟩, ?_, hB, hX⟩
  match cs, hl with
  | c :: r, hl =>
    simp at e0
    subst e0
    simp at e1 hl
    rw [List.take_of_length_le (by omega)] at e1
    rw [e1]; rfl
set_option maxRecDepth 100000 in
theorem es_of_trod {fuel : Nat} {cs : List Value} {x : DataW H × List MemPlace} (h : DataW.trod enc Try.prog W base (fun _ => true) true fuel 29 cs = some x) (hs : Small 29 x.1) :
    ∃ sq k cq es, cs = [.slice sq k cq] ∧ ES W.heap.size W sq k cq es := by
  rcases DataW.trod_slice Try.underlying29 h with ⟨rfl, -⟩ | ⟨a, len, cap, elems, rest, n, rfl, rfl, rfl, hb, hlc, hm, hlen, hel, hsp, -⟩
  · exact ⟨none, 0, 0, [], rfl, ES.nil0 _ _⟩
  · obtain ⟨hrl, -⟩ := hsp rfl
    have hr := hs ((elems.length + rest.length) * 56) (by simp [DataW.weights, Try.underlying29, bytes54])
    simp only [reachBytes] at hr
    have hw : ∀ e ∈ elems, Small 72 e.1 := fun e he m hm => hs m (by
      simp only [DataW.weights, Try.underlying29]
      exact List.mem_cons_of_mem _ (List.mem_append_left _ (weights_all (List.mem_map_of_mem he) m hm)))
    have hstep : ∀ i, i < len → ∃ g off, ∃ e : En, a.add (i * 33) = ⟨g, off, none⟩ ∧ W.rangeAt g off e.cells ∧ EnOK W.heap.size W e := fun i hi => by
      have h1 := hel i hi
      rw [cells54, List.getElem?_eq_getElem (by omega), Option.bind_eq_some_iff] at h1
      obtain ⟨cs, hcs, ht⟩ := h1
      obtain ⟨g, off, e, hR⟩ := cells_at (by omega) hcs
      obtain ⟨f, hf, ho⟩ := en_of_trod n cs _ ht (hw _ (List.getElem_mem _))
      subst hf
      exact ⟨g, off, f, e, hR, ho⟩
    by_cases h0 : 0 < len
    · obtain ⟨g, off, -, e, -⟩ := hstep 0 h0
      have ha : a = ⟨g, off, none⟩ := by simpa [Addr.add] using e
      subst ha
      obtain ⟨l, hl, hP⟩ := exists_list (P := fun i (f : En) => W.rangeAt g (off + i * 33) f.cells ∧ EnOK W.heap.size W f) len (fun i hi => by
        obtain ⟨g', off', f, e', h1, ho⟩ := hstep i hi
        rw [Addr.add_mid] at e'
        cases e'
        exact ⟨f, h1, ho⟩)
      refine ⟨some ⟨g, off, none⟩, len, cap, l, rfl, ⟨show _ = _ by simp [hl], (fun e => by cases e), hlc, by unfold maxLen at hm; omega, by omega, fun _ => ⟨g, off, rfl, ?_, fun i f hf => (hP i f hf).1⟩, fun f hf => ?_⟩⟩
      · obtain ⟨p, hp⟩ : ∃ p, l[0]? = some p := ⟨l[0], List.getElem?_eq_getElem (by omega)⟩
        exact block_lt_of_cell ((hP 0 p hp).1 0 _ rfl)
      · obtain ⟨i, hi⟩ := List.mem_iff_getElem?.1 hf
        exact (hP i f hi).2
    · obtain rfl : len = 0 := by omega
      exact ⟨some a, 0, cap, [], rfl, ⟨rfl, (fun e => by cases e), by omega, by unfold maxLen at hm; omega, by omega, fun h => by omega, fun f hf => by simp at hf⟩⟩
/-- ENTRIES THAT CAME IN. -/
theorem open_entries {b0 : Nat} {v : Value} {d : DataW H} {p : List MemPlace} {ts : List TypeId} {ds : List (DataW H)} {j : Nat}
    (hv : Value.okWide Try.prog W .any b0 29 v) (h : DataW.Trod enc Try.prog W base (fun _ => true) true 29 v d p)
    (hsz : (DataW.weightsEach Try.prog ts ds).all (· ≤ reachBytes) = true) (ht : ts[j]? = some 29) (hd : ds[j]? = some d) :
    ∃ sq k cq es, v = .slice sq k cq ∧ ES W.heap.size W sq k cq es := by
  obtain ⟨a0, len0, cap0, rfl⟩ := okWide_slice Try.underlying29 hv
  obtain ⟨fuel, hf⟩ := h
  have hs : Small 29 d := fun n hn => by
    have := List.all_eq_true.1 hsz n (DataW.weights_mem_each ht hd n hn)
    simpa using this
  obtain ⟨sq, k, cq, fs, e, hi⟩ := es_of_trod (x := (d, p)) hf hs
  simp [Value.cells] at e
  obtain ⟨rfl, rfl, rfl⟩ := e
  exact ⟨_, _, _, fs, rfl, hi⟩
end
end Go.Proofs.Ytnjbmffgbgbjmaa
