/- ZSg, ZSh, NtF, NkF. -/
import Derived.Test.YtbhhbkoikocjgaaX01
import Derived.Test.YtbhhbkoikocjgaaX02
import Derived.Test.YtbhhbkoikocjgaaX03
import Derived.Test.YtbhhbkoikocjgaaX04
import Derived.Test.YtbhhbkoikocjgaaX05
import Derived.Test.YtbhhbkoikocjgaaX06
import Derived.Test.YtbhhbkoikocjgaaX07
import Derived.Test.YtbhhbkoikocjgaaX17
import Derived.Test.YtbhhbkoikocjgaaX30
import Derived.Test.YtbhhbkoikocjgaaX31
import Derived.Test.YtbhhbkoikocjgaaX32
import Derived.Test.YtbhhbkoikocjgaaX33
import Derived.Test.YtbhhbkoikocjgaaX38
import Derived.Test.YtbhhbkoikocjgaaX39
import Derived.BigQuiet
import Derived.BigRegion
import Derived.ChangeKeysEq
import Derived.Deep.DeepCutAuto
import Derived.Deep.DrawnRows
import Derived.Deep.MidRow
import Derived.Deep.QuietTactic
import Derived.Deep.RegionHeld3
import Derived.Deep.RegionLaw
import Derived.Deep.RegionWith
import Derived.Deep.WholeRow
import Derived.Great.BuildSlice
import Derived.Great.FillDense
import Derived.Laws.AppendOwnNone
import Derived.Laws.BitsLemmas
import Derived.Laws.BytesArg
import Derived.Laws.CopyOwn
import Derived.Laws.CopyRow
import Derived.Laws.MakeOwn
import Derived.Laws.OwnMore
import Derived.Laws.Tables
import Derived.Lib.SlBytesConst
import Derived.LoopIn
import Derived.LoopNIn
import Derived.Maps.AppendAt
import Derived.OwnWalkIn
import Derived.RangeFuncBound
import Derived.RangeFuncCalls
import Derived.RangeFuncLeaves
import Derived.RangeFuncNested
import Derived.RangeFuncRecord
import Derived.Shelf.Abstract
import Derived.Shelf.RegionOpen
import Derived.TacticsInMore
import Derived.WalkKit
import Derived.WalkLawsBesides
import Derived.WalkSpells
import Derived.Test.YtbhhbkoikocjgaaX08
import Derived.Test.YtbhhbkoikocjgaaX26
import Derived.Test.YtbhhbkoikocjgaaX19
import Derived.Test.YtbhhbkoikocjgaaX21
import Derived.Test.YtbhhbkoikocjgaaX34
import Derived.Lib.AppendZeros
import Derived.Test.YtbhhbkoikocjgaaX35
import Derived.Test.YtbhhbkoikocjgaaX37
import Derived.Test.YtbhhbkoikocjgaaX23
/- Layer spec: what the layers below give. -/
namespace Go.Proofs.Ytbhhbkoikocjgaa
set_option linter.unusedSectionVars false
set_option maxHeartbeats 1000000
open Go.RowKit
set_option maxRecDepth 100000
set_option linter.unusedVariables false
set_option linter.unusedSimpArgs false

variable [DecidableEq Ac] [DecidableEq Ou] [DecidableEq Mg]
theorem al_next {ps : List Ac} {j : Nat} {a : Ac} (h : ps[j]? = some a) : (al ps).take (j + 1) = (al ps).take j ++ [lf (acb a)] := by
  rw [List.take_add_one]; congr 1; simp [al, h]
theorem ol_next {ps : List Ou} {j : Nat} {a : Ou} (h : ps[j]? = some a) : (ol ps).take (j + 1) = (ol ps).take j ++ [lf (oub a)] := by
  rw [List.take_add_one]; congr 1; simp [ol, h]
/-- What the document's leaves answers. -/
def RLPost (ps : List Ac) (n : Nat) (os : List Ou) (w : World) (e : Ending) (w' : World) : Prop :=
  ∃ s1 c1 s2 c2, e = .returned (.tuple #[.slice s1 32 c1, .slice s2 n c2]) ∧ HS w'.heap.size w' s1 32 c1 (al ps) ∧ HS w'.heap.size w' s2 n c2 (ol os) ∧ Below w.heap.size w w'
set_option maxHeartbeats 2000000 in
theorem refLeaves_any (ps : List Ac) (N : Nat) (sp : Option Addr) (n cap : Nat) (os : List Ou) (w : World) (hS : SS N w ps sp n cap os) (hn : n ≤ 32) :
    Calls Try.prog 60 #[.agg (stA ps sp n cap)] w (RLPost ps n os w) := by
  have hS := hS.here
  have h1 := hS.a32.out
  have h2 := hS.l32
  have A0 := Arr.new w 30 (stA ps sp n cap)
  have hb0 := alloc_bel' w (.cells (stA ps sp n cap) 30)
  have hs0 : (w.alloc (.cells (stA ps sp n cap) 30)).heap.size = w.heap.size + 1 := by simp
  have hal32 : Hid (∀ x ∈ al ps, x.length = 32) := Hid.mk' (fun x hx => by
    obtain ⟨e, he, rfl⟩ := List.mem_map.1 hx
    exact lf_len _)
  have hol32 : Hid (∀ x ∈ ol os, x.length = 32) := Hid.mk' (fun x hx => by
    obtain ⟨e, he, rfl⟩ := List.mem_map.1 hx
    exact lf_len _)
  go_enter Try.func60, Try.ntmps60
  go_upto_region 3 with fail
  generalize w.alloc (.cells (stA ps sp n cap) 30) = W0 at *
  go_loopw [4, 6] (fun v q wr => ∃ j : Nat, q = .int .i64 (j : Int) ∧ j ≤ 32 ∧ Below W0.heap.size W0 wr ∧ wr.ownsRow W0.heap.size 24 32 v j (flat32 ((al ps).take j)))
    (fun _ q _ => 32 - (intOf q).toNat)
  case atStart => exact ⟨0, rfl, by omega, Below.refl _ _, World.ownsRow_nil _ _ _ _⟩
  case round =>
    obtain ⟨j, rfl, hj, hbl, hO⟩ := hrel
    have hszr := hbl.size
    by_cases hlt : j < 32
    · have hI : (j : Int) < 32 := by omega
      obtain ⟨a, ha⟩ : ∃ a, ps[j]? = some a := ⟨ps[j]'(by omega), List.getElem?_eq_getElem _⟩
      have hao := hS.ok.out a (List.mem_of_getElem? ha)
      have ha32 := hao.l32
      have hRa := (A0.below hbl (by omega)).stAt h2 ha
      have hnx := Hid.mk' (al_next ha)
      clear ha
      have hl32 := lf_len (acb a)
      go_upto_region 4 with (first
        | (refine ld26 (by rfl) _ (by rfl) w.heap.size (j * 34) (by rfl) a ha32 hRa ?_)
        | (go_at_call 81; go_must (refine (refAcBytes_any a _ hao).mono ?_; rintro e u1 ⟨v1, rfl, hown1, hb1⟩; have B1 := hbl.trans (hb1.mono hbl.size); have O1 := own_same hO (fun k hk => hb1.block k (hO.lt k hk).2); obtain ⟨s1, k1, rfl, hS1, -⟩ := own_bs hown1 (acb_bts hao) (by omega)))
        | (go_at_call 80; go_must (refine (refLeaf_bs s1 48 k1 _ (acb a) _ hS1 (by omega)).mono ?_; rintro e u2 ⟨rfl, hb2⟩; have B2 := B1.trans (hb2.mono B1.size); have O2 := own_same O1 (fun k hk => hb2.block k (O1.lt k hk).2); have hs2 := B2.size))
        | (refine b1L (by rfl) _ (by rfl) (lf (acb a)) (by rfl) hl32 ?_)
        | (at_builtin; go_must (refine ag24 (by rfl) (.tmp 12) (.tmp 19) (by rfl) W0.heap.size j _ _ (lf (acb a)) (by rfl) (O2.alloc _) u2.heap.size 1 (by rfl) (Arr.new u2 24 (h8 (lf (acb a)))) hl32 (by omega) (by simp; omega) ?_; intro v' w6 hO6 hG6; have hbl6 := (B2.alloc (by omega) _).grown hG6 (by simp; omega) (fun k e => own_ge O2 k e))))
      go_wp2_with fail
      go_roundw
      case rel => exact ⟨j + 1, by go_num, by omega, hbl6, by rw [hnx.out]; exact hO6⟩
      case measure => simp [intOf]; omega
    · have hjI : (j : Int) = 32 := by omega
      simp only [hjI]
      clear hjI
      obtain rfl : j = 32 := by omega
      have ht : Hid ((al ps).take 32 = al ps) := Hid.mk' (List.take_of_length_le (by rw [al_len, h1]; exact Nat.le_refl _))
      rw [ht.out] at hO
      obtain ⟨s6, c6, rfl, hH6, hg6⟩ := own_hs hO hal32.out (by rw [al_len, h1]) (by omega)
      have B1 : Below w.heap.size w wr := hb0.trans (hbl.mono (by omega))
      have cO := (A0.below hbl (by omega)).stOut h1 h2
      have hA1 := A0.below hbl (by omega)
      clear hO ht hg6 A0
      obtain ⟨W1, hW1⟩ : ∃ W1, W1 = wr := ⟨_, rfl⟩
      subst hW1
      go_upto_region 7 with fail
      go_loopw [5, 7] (fun v q wr => ∃ j : Nat, q = .int .i64 (j : Int) ∧ j ≤ n ∧ Below W1.heap.size W1 wr ∧ wr.ownsRow W1.heap.size 24 32 v j (flat32 ((ol os).take j)))
        (fun _ q _ => n - (intOf q).toNat)
      case atStart => exact ⟨0, rfl, by omega, Below.refl _ _, World.ownsRow_nil _ _ _ _⟩
      case round =>
        obtain ⟨j, rfl, hj, hbl2, hO⟩ := hrel
        have hszr2 := hbl2.size
        have cO2 := (hA1.below hbl2 (by omega)).stOut h1 h2
        by_cases hlt : j < n
        · have hI : (j : Int) < n := by omega
          obtain ⟨go, oo, rfl, hgo0, hRo⟩ := hS.outs.at0 (by omega)
          obtain ⟨a, ha⟩ : ∃ q, os[j]? = some q := ⟨os[j]'(by rw [← hS.outs.len.out]; exact hlt), List.getElem?_eq_getElem _⟩
          have rO := range_below (hRo j a ha) (B1.trans (hbl2.mono B1.size)) hgo0
          have hnx := Hid.mk' (ol_next ha)
          clear ha hRo
          have hl32 := lf_len (oub a)
          go_upto_region 8 with (first
            | (refine ld53 (by rfl) _ (by rfl) go (oo + j * 2) (by rfl) a rO ?_)
            | (go_at_call 82; go_must (refine (refOuBytes_any a _).mono ?_; rintro e u1 ⟨v1, rfl, hown1, hb1⟩; have B2 := hbl2.trans (hb1.mono hbl2.size); have O1 := own_same hO (fun k hk => hb1.block k (hO.lt k hk).2); obtain ⟨s1, k1, rfl, hS1, -⟩ := own_bs hown1 (oub_bts a) (by omega)))
            | (go_at_call 80; go_must (refine (refLeaf_bs s1 16 k1 _ (oub a) _ hS1 (by omega)).mono ?_; rintro e u2 ⟨rfl, hb2⟩; have B3 := B2.trans (hb2.mono B2.size); have O2 := own_same O1 (fun k hk => hb2.block k (O1.lt k hk).2); have hs2 := B3.size))
            | (refine b1L (by rfl) _ (by rfl) (lf (oub a)) (by rfl) hl32 ?_)
            | (at_builtin; go_must (refine ag24 (by rfl) (.tmp 28) (.tmp 36) (by rfl) W1.heap.size j _ _ (lf (oub a)) (by rfl) (O2.alloc _) u2.heap.size 1 (by rfl) (Arr.new u2 24 (h8 (lf (oub a)))) hl32 (by omega) (by simp; omega) ?_; intro v' w6 hO6 hG6; have hbl6 := (B3.alloc (by omega) _).grown hG6 (by simp; omega) (fun k e => own_ge O2 k e))))
          go_wp2_with fail
          go_roundw
          case rel => exact ⟨j + 1, by go_num, by omega, hbl6, by rw [hnx.out]; exact hO6⟩
          case measure => simp [intOf]; omega
        · obtain rfl : j = n := by omega
          have hI : ¬ (j : Int) < j := by omega
          have ht : Hid ((ol os).take j = ol os) := Hid.mk' (List.take_of_length_le (by rw [ol_len, ← hS.outs.len.out]; exact Nat.le_refl _))
          rw [ht.out] at hO
          obtain ⟨s7, c7, rfl, hH7, hg7⟩ := own_hs hO hol32.out (by rw [ol_len]; exact hS.outs.len.out) (by omega)
          go_wp2_with fail
          go_ret2
          exact ⟨s6, c6, s7, c7, rfl, (hH6.below hbl2).here, hH7, B1.trans (hbl2.mono B1.size)⟩
end Go.Proofs.Ytbhhbkoikocjgaa
/- Layer spec: what the layers below give. -/
namespace Go.Proofs.Ytbhhbkoikocjgaa
set_option linter.unusedSectionVars false
set_option maxHeartbeats 1000000
open Go.RowKit
set_option maxRecDepth 100000
set_option linter.unusedVariables false
set_option linter.unusedSimpArgs false

variable [DecidableEq Ac] [DecidableEq Ou] [DecidableEq Mg]
theorem r5 {ls : List (List Int)} (h : ls.length ≤ 32) : rE 5 ls.length = 0 ∧ rR 5 ls = tr 5 ls := by
  have e : rE 5 ls.length = 0 := by
    unfold rE
    rw [if_pos ⟨by omega, by omega⟩, if_pos (show ls.length ≤ 2 ^ Int.toNat 5 from h)]
  refine ⟨e, ?_⟩
  unfold rR
  rw [if_pos e]; rfl
theorem refRoot5 (N : Nat) (sp : Option Addr) (n cap : Nat) (ls : List (List Int)) (w : World) (hS : HS N w sp n cap ls) (hn : n ≤ 32) :
    Calls Try.prog 61 #[.int .i64 5, .slice sp n cap] w fun e w' => e = .returned (.tuple #[.agg (h8 (tr 5 ls)), .int .i64 0]) ∧ Below w.heap.size w w' := by
  have h := refRoot_any 5 N sp n cap ls w hS
  have hl : ls.length ≤ 32 := by rw [← hS.len.out]; exact hn
  rw [(r5 hl).1, (r5 hl).2] at h
  exact h
set_option maxHeartbeats 2000000 in
theorem refSroot_ok (ps : List Ac) (N : Nat) (sp : Option Addr) (n cap : Nat) (os : List Ou) (w : World) (hS : SS N w ps sp n cap os) (hm : may ps n = true) :
    Calls Try.prog 39 #[.agg (stA ps sp n cap)] w fun e w' => e = .returned (.tuple #[.agg (h8 (rtS ps os)), .int .i64 0]) ∧ Below w.heap.size w w' := by
  have h1 := hS.a32.out
  have h2 := hS.l32
  have hok := hS.ok.out
  have hn32 := may_le hm
  have hnl := hS.outs.len
  have hS := hS.here
  have A0 := (Arr.new w 30 (stA ps sp n cap)).alloc (.cells (h8 Z32) 24)
  have Z0 := Arr.new (w.alloc (.cells (stA ps sp n cap) 30)) 24 (h8 Z32)
  rw [World.size_alloc] at Z0
  have B0 := (alloc_bel' w (.cells (stA ps sp n cap) 30)).alloc (by simp) (.cells (h8 Z32) 24)
  have hM := refMay_any ps sp n cap ((w.alloc (.cells (stA ps sp n cap) 30)).alloc (.cells (h8 Z32) 24)) h1 hok (by omega)
  rw [hm] at hM
  have hA32 := tr5_len (al_32 ps)
  have hO32 := tr5_len (ol_32 os)
  have hR : (rtS ps os).length = 32 := rtS_len ps os
  have hRe : Hid (rtS ps os = jn (tr 5 (al ps)) (tr 5 (ol os)) n) := Hid.mk' (by unfold rtS; rw [hnl.out])
  have hwn : (n : Int) % 18446744073709551616 = n := by omega
  replace hM := Hid.mk' hM
  go_enter Try.func39, Try.ntmps39
  go_upto_region 3 with (first
    | (refine ld30 (by rfl) _ (by rfl) w.heap.size 30 (by rfl) ps sp n cap h1 h2 A0 ?_)
    | (go_at_call 19; go_must (refine hM.out.mono ?_; rintro e w1 ⟨rfl, hbM⟩)))
  have B1 := B0.trans (hbM.mono B0.size)
  have A1 := A0.below hbM A0.lt
  have Z1 := Z0.below hbM Z0.lt
  clear A0 B0 Z0 hM hm hbM
  go_upto_region 4 with (first
    | (refine ld30 (by rfl) _ (by rfl) w.heap.size 30 (by rfl) ps sp n cap h1 h2 A1 ?_)
    | (go_at_call 60; go_must (refine (refLeaves_any ps _ sp n cap os _ (hS.below B1) hn32).mono ?_; rintro e w2 ⟨s1, c1, s2, c2, rfl, hH1, hH2, hb2⟩; have B2 := B1.trans (hb2.mono B1.size); have Z2 := Z1.below hb2 Z1.lt)))
  go_upto_region 5 with (first
    | (go_at_call 61; go_must (refine (refRoot5 _ s1 32 c1 _ _ hH1 (by omega)).mono ?_; rintro e w3 ⟨rfl, hb3⟩))
    | (refine st24n (by rfl) _ _ (by rfl) w3 w3.heap.size rfl (by rfl) (tr 5 (al ps)) (by rfl) (by rfl) hA32 ?_))
  have B3 := (B2.trans (hb3.mono B2.size)).alloc (Nat.le_trans B2.size hb3.size) (.cells (h8 (tr 5 (al ps))) 24)
  have Z3 := (Z2.below hb3 Z2.lt).alloc (.cells (h8 (tr 5 (al ps))) 24)
  have X3 := Arr.new w3 24 (h8 (tr 5 (al ps)))
  have hH3 := (hH2.below hb3).below ((alloc_bel' w3 (.cells (h8 (tr 5 (al ps))) 24)).mono hb3.size)
  have hgx : w.heap.size + 1 < w3.heap.size := (Z2.below hb3 Z2.lt).lt
  obtain ⟨gx, hgxe⟩ : ∃ g, g = w3.heap.size := ⟨_, rfl⟩
  rw [← hgxe] at X3 hgx ⊢
  clear hgxe
  generalize w3.alloc (.cells (h8 (tr 5 (al ps))) 24) = W3 at *
  go_upto_region 6 with (first
    | (go_at_call 61; go_must (refine (refRoot5 _ s2 n c2 _ _ hH3 hn32).mono ?_; rintro e w4 ⟨rfl, hb4⟩))
    | (refine st24n (by rfl) _ _ (by rfl) w4 w4.heap.size rfl (by rfl) (tr 5 (ol os)) (by rfl) (by rfl) hO32 ?_))
  have B4 := (B3.trans (hb4.mono B3.size)).alloc (Nat.le_trans B3.size hb4.size) (.cells (h8 (tr 5 (ol os))) 24)
  have Z4 := (Z3.below hb4 Z3.lt).alloc (.cells (h8 (tr 5 (ol os))) 24)
  have X4 := (X3.below hb4 X3.lt).alloc (.cells (h8 (tr 5 (ol os))) 24)
  have Y4 := Arr.new w4 24 (h8 (tr 5 (ol os)))
  obtain ⟨gy, hgye⟩ : ∃ g, g = w4.heap.size := ⟨_, rfl⟩
  rw [← hgye] at Y4 ⊢
  clear hgye
  generalize w4.alloc (.cells (h8 (tr 5 (ol os))) 24) = W4 at *
  have hJ := joined_any (tr 5 (al ps)) (tr 5 (ol os)) n W4 hA32 hO32
  rw [← hRe.out] at hJ
  clear hRe
  generalize tr 5 (al ps) = T1 at *
  generalize tr 5 (ol os) = T2 at *
  obtain ⟨R, hRR⟩ : ∃ R, R = rtS ps os := ⟨_, rfl⟩
  rw [← hRR] at hJ hR
  replace hRR := Hid.mk' hRR
  go_wp2_with (first
    | (refine ld24 (by rfl) _ (by rfl) gx 0 (by rfl) T1 hA32 X4.range ?_)
    | (refine ld24 (by rfl) _ (by rfl) gy 0 (by rfl) T2 hO32 Y4.range ?_)
    | (go_at_call 62; go_must (refine hJ.mono ?_; rintro e w5 ⟨rfl, hb5⟩; have B5 := B4.trans (hb5.mono B4.size); have Z5 := Z4.below hb5 Z4.lt))
    | (refine st24 (by rfl) _ _ (by rfl) (w.heap.size + 1) R Z32 (by rfl) (by rfl) hR Z32_len Z5 ?_))
  exact bodyPost_ret (v := .tuple #[.agg (h8 R), .int .i64 0]) (resP Try.results39 rfl rfl hR (Z5.setRow _)) rfl ⟨by rw [hRR.out], below_setRow B5 (by omega) _⟩
theorem refSroot_no (ps : List Ac) (sp : Option Addr) (n cap : Nat) (w : World) (h1 : ps.length = 32) (hok : ∀ a ∈ ps, AcOK a) (hn : n ≤ 140737488355328) (hm : may ps n = false) :
    Calls Try.prog 39 #[.agg (stA ps sp n cap)] w fun e w' => e = .returned (.tuple #[.agg (h8 Z32), .int .i64 2]) ∧ Below w.heap.size w w' := by
  have h2 : ∀ a ∈ ps, a.lk.length = 32 := fun a ha => (hok a ha).l32
  have A0 := (Arr.new w 30 (stA ps sp n cap)).alloc (.cells (h8 Z32) 24)
  have Z0 := Arr.new (w.alloc (.cells (stA ps sp n cap) 30)) 24 (h8 Z32)
  rw [World.size_alloc] at Z0
  have B0 := (alloc_bel' w (.cells (stA ps sp n cap) 30)).alloc (by simp) (.cells (h8 Z32) 24)
  have hM := refMay_any ps sp n cap ((w.alloc (.cells (stA ps sp n cap) 30)).alloc (.cells (h8 Z32) 24)) h1 hok hn
  rw [hm] at hM
  go_enter Try.func39, Try.ntmps39
  go_wp2_with (first
    | (refine ld30 (by rfl) _ (by rfl) w.heap.size 30 (by rfl) ps sp n cap h1 h2 A0 ?_)
    | (go_at_call 19; go_must (refine hM.mono ?_; rintro e w1 ⟨rfl, hbM⟩; have Z1 := Z0.below hbM Z0.lt))
    | (refine st24 (by rfl) _ _ (by rfl) (w.heap.size + 1) Z32 Z32 (by rfl) (by rfl) Z32_len Z32_len Z1 ?_))
  exact bodyPost_ret (v := .tuple #[.agg (h8 Z32), .int .i64 2]) (resP Try.results39 rfl rfl Z32_len (Z1.setRow _)) rfl ⟨rfl, below_setRow (B0.trans (hbM.mono B0.size)) (by omega) _⟩
theorem refSroot_any (ps : List Ac) (N : Nat) (sp : Option Addr) (n cap : Nat) (os : List Ou) (w : World) (hS : SS N w ps sp n cap os) :
    Calls Try.prog 39 #[.agg (stA ps sp n cap)] w fun e w' => e = .returned (.tuple #[.agg (h8 (rtV ps os)), .int .i64 (rtE ps os)]) ∧ Below w.heap.size w w' := by
  have hl := hS.outs.len.out
  cases hm : may ps n with
  | true =>
    have e1 : rtV ps os = rtS ps os := by unfold rtV; rw [← hl, if_pos hm]
    have e2 : rtE ps os = 0 := by unfold rtE; rw [← hl, if_pos hm]
    rw [e1, e2]; exact refSroot_ok ps N sp n cap os w hS hm
  | false =>
    have e1 : rtV ps os = Z32 := by unfold rtV; rw [← hl, hm]; rfl
    have e2 : rtE ps os = 2 := by unfold rtE; rw [← hl, hm]; rfl
    rw [e1, e2]; exact refSroot_no ps sp n cap w hS.a32.out hS.ok.out hS.outs.small hm
end Go.Proofs.Ytbhhbkoikocjgaa
/- Layer spec: the Roots of the document. -/
namespace Go.Proofs.Ytbhhbkoikocjgaa
set_option linter.unusedSectionVars false
set_option maxHeartbeats 1000000
open Go.RowKit Go.Shelf
set_option maxRecDepth 100000
set_option linter.unusedVariables false
set_option linter.unusedSimpArgs false


variable [DecidableEq Ac] [DecidableEq Ou] [DecidableEq Mg]
set_option maxHeartbeats 4000000 in
theorem refRoots_any (ps : List Ac) (N : Nat) (sp : Option Addr) (n cap : Nat) (os : List Ou) (sl : Option Addr) (nl cl Nl : Nat) (es : List Bz) (w : World) (hS : SS N w ps sp n cap os) (hL : BL Nl w sl nl cl es) (hNl : Nl ≤ w.heap.size) :
    Calls Try.prog 17 #[.agg (stA ps sp n cap), .slice sl nl cl] w (RootsPost (zR ps os (bzs es) nl) (xE ps os) w) := by
  have hL := hL.mono hNl
  have hS := hS.here
  have h1 := hS.a32.out
  have h2 := hS.l32
  have hok := hS.ok
  have hnn := hS.outs.len
  have hns := hS.outs.small
  have A0 := Arr.new w 30 (stA ps sp n cap)
  have B0 := alloc_bel' w (.cells (stA ps sp n cap) 30)
  have hmay := fun u => refMay_any ps sp n cap u h1 hok.out hns
  cases hm : may ps n with
  | false =>
    have hm' : may ps os.length = false := by rw [← hnn.out]; exact hm
    rw [hm] at hmay
    go_enter Try.func17, Try.ntmps17
    go_wp2_with (first
      | (refine atL 30 (.tmp 2) ?_; refine ld30 (by rfl) _ (by rfl) w.heap.size 30 (by rfl) ps sp n cap h1 h2 A0 ?_)
      | (go_at_call 19; go_must (refine (hmay _).mono ?_; rintro r w1 ⟨rfl, hb1⟩)))
    exact bodyPost_ret (v := .tuple #[.slice none 0 0, .int .i64 2]) (results_tmp2 Try.results17 _ _ _) rfl (RootsPost.no hm' (B0.trans (hb1.mono B0.size)))
  | true =>
    have hm' : may ps os.length = true := by rw [← hnn.out]; exact hm
    rw [hm] at hmay
    rw [zR_yes hm', xE_yes hm']
    have hrok := rnA_ok (Ls := bzs es) h1 hok.out hS.outs.ok hL.bts
    have hsm := hL.small
    have hnlI : (nl : Int) ≤ 9223372036854775000 := by omega
    have hz30 := zeroValue30
    have hzsz : (stA zs none 0 0).size = 1089 := stA_size zs_len zs_l32
    generalize stA zs none 0 0 = Z at hz30 hzsz
    have hAf := Hid.mk' (fun u (k : Nat) (hk : k ≤ nl) (hb : Below w.heap.size w u) => by
      have h := refAfter_any ps w.heap.size sp n cap os sl nl cl w.heap.size es (k : Int) u (hS.below hb) (hL.below hb) hb.size
      obtain ⟨-, ea, ee⟩ := aR_yes (Ls := bzs es) hm' hk
      rw [ea, ee] at h
      exact h)
    unfold AfterPost at hAf
    go_enter Try.func17, Try.ntmps17
    go_upto_region 3 with (first
      | (refine atL 30 (.tmp 2) ?_; refine ld30 (by rfl) _ (by rfl) w.heap.size 30 (by rfl) ps sp n cap h1 h2 A0 ?_)
      | (go_at_call 19; go_must (refine (hmay _).mono ?_; rintro r w1 ⟨rfl, hb1⟩)))
    have A1 := A0.below hb1 A0.lt
    have B1 := B0.trans (hb1.mono B0.size)
    clear A0 B0 hb1
    go_upto_region 5 with fail
    go_loopw [6, 7] (fun v d wr => ∃ (j : Nat) (sv : Option Addr) (cv : Nat), v = .slice sv j cv ∧ d = .int .i64 (j : Int) ∧ j ≤ nl + 1 ∧ Below w.heap.size w wr ∧ Arr wr w.heap.size 30 (stA ps sp n cap) ∧ wr.ownsRow w.heap.size 24 32 (.slice sv j cv) j (flat32 (rts ps os (bzs es) j))) (fun _ d _ => nl + 1 - (intOf d).toNat)
    case atStart => exact ⟨0, none, 0, rfl, rfl, by omega, B1, A1, World.ownsRow_nil _ _ _ _⟩
    case round =>
      obtain ⟨j, sv, cv, rfl, rfl, hj, hbr, Ar, rowr⟩ := hrel
      clear A1 B1
      by_cases hlt : j ≤ nl
      · have hI : (j : Int) ≤ nl := by omega
        have hp1 := (hrok j).a32
        have hp2 : ∀ a ∈ (rnA ps os (bzs es) j).P, a.lk.length = 32 := fun a ha => ((hrok j).ok a ha).l32
        have hX := rtV_len (rnA ps os (bzs es) j).P (rnA ps os (bzs es) j).O
        have hsc := Hid.mk' (rts_succ ps os (bzs es) j)
        have hRt := Hid.mk' (fun N s n c u h => refSroot_any (rnA ps os (bzs es) j).P N s n c (rnA ps os (bzs es) j).O u h)
        have hAj := Hid.mk' (fun u hb => hAf.out u j hlt hb)
        generalize rtV (rnA ps os (bzs es) j).P (rnA ps os (bzs es) j).O = X at *
        generalize rtE (rnA ps os (bzs es) j).P (rnA ps os (bzs es) j).O = re at *
        generalize rnA ps os (bzs es) j = r at *
        go_upto_region 8 with (first
          | (refine atL 30 (.tmp 2) ?_; refine ld30 (by rfl) _ (by rfl) w.heap.size 30 (by rfl) ps sp n cap h1 h2 Ar ?_)
          | (go_at_call 12; go_must (refine (hAj.out _ hbr).mono ?_; rintro rr w2 ⟨s2, n2, c2, rfl, hst2, hb2⟩))
          | (refine atS 30 (.tmp 8) (.tmp 26) ?_; refine st30n (by rfl) _ _ (by rfl) w2 w2.heap.size rfl hzsz r.P s2 n2 c2 (by rfl) (by rfl) hp1 hp2 ?_))
        have bb := alloc_bel' w2 (.cells (stA r.P s2 n2 c2) 30)
        have A2 := (Ar.below hb2 Ar.lt).alloc (.cells (stA r.P s2 n2 c2) 30)
        have B2 := (hbr.trans (hb2.mono hbr.size)).alloc (Nat.le_trans hbr.size hb2.size) (.cells (stA r.P s2 n2 c2) 30)
        have T2 := Arr.new w2 30 (stA r.P s2 n2 c2)
        have S2 := (hst2.ss.below bb).here
        have row2 := (own_same rowr (fun b hb => hb2.block b (own_lt rowr hb))).alloc (.cells (stA r.P s2 n2 c2) 30)
        generalize w2.alloc (.cells (stA r.P s2 n2 c2) 30) = W2 at *
        generalize w2.heap.size = G2 at *
        clear hb2 hst2 bb Ar hbr rowr
        go_upto_region 9 with (first
          | (refine atL 30 (.tmp 8) ?_; refine ld30 (by rfl) _ (by rfl) G2 30 (by rfl) r.P s2 n2 c2 hp1 hp2 T2 ?_)
          | (go_at_call 39; go_must (refine (hRt.out _ s2 n2 c2 _ S2).mono ?_; rintro rr w3 ⟨rfl, hb3⟩))
          | (refine atS 24 (.tmp 10) (.tmp 31) ?_; refine st24n (by rfl) _ _ (by rfl) w3 w3.heap.size rfl (by rfl) X (by rfl) (by rfl) hX ?_))
        have A3 := (A2.below hb3 A2.lt).alloc (.cells (h8 X) 24)
        have B3 := (B2.trans (hb3.mono B2.size)).alloc (Nat.le_trans B2.size hb3.size) (.cells (h8 X) 24)
        have E3 := Arr.new w3 24 (h8 X)
        have row3 := (own_same row2 (fun b hb => hb3.block b (own_lt row2 hb))).alloc (.cells (h8 X) 24)
        generalize w3.alloc (.cells (h8 X) 24) = W3 at *
        generalize w3.heap.size = G3 at *
        clear A2 B2 T2 S2 row2 hb3
        have A4 := A3.alloc (.cells (h8 X) 24)
        have B4 := B3.alloc B3.size (.cells (h8 X) 24)
        have E4 := Arr.new W3 24 (h8 X)
        have row4 := row3.alloc (.cells (h8 X) 24)
        have fin : Hid (∀ v5 W5, W5.ownsRow w.heap.size 24 32 v5 (j + 1) (flat32 (rts ps os (bzs es) j ++ [X])) → (W3.alloc (.cells (h8 X) 24)).grownBy W5 (Value.slice sv j cv).ownBlock → Below w.heap.size w W5 ∧ Arr W5 w.heap.size 30 (stA ps sp n cap) ∧ W5.ownsRow w.heap.size 24 32 v5 (j + 1) (flat32 (rts ps os (bzs es) (j + 1)))) := Hid.mk' (fun v5 W5 h5 hg5 => by
          refine ⟨B4.grown hg5 B4.size (fun k hk => by have := own_ge row4 k hk; omega), A4.grown hg5 (fun e => own_other row4 A4 (by decide) _ e.symm rfl), ?_⟩
          rw [hsc.out]; exact h5)
        go_wp2_with (first
          | (refine atL 24 (.tmp 10) ?_; refine ld24 (by rfl) _ (by rfl) G3 0 (by rfl) X hX E3.range ?_)
          | (refine atBS 49 ?_; refine b1P (by rfl) (.tmp 34) (by rfl) X (by rfl) hX ?_)
          | (refine atA (.tmp 33) (.tmp 35) ?_; go_must (refine a1P (by rfl) (.tmp 33) (.tmp 35) (by rfl) w.heap.size _ j (rts ps os (bzs es) j) (by rfl) row4 W3.heap.size X (by rfl) E4 hX (by omega) (Nat.le_trans B3.size (by simp)) ?_; intro v5 W5 h5 hg5; obtain ⟨b5, a5, o5⟩ := fin.out v5 W5 h5 hg5; obtain ⟨gd5, cd5, rfl⟩ := own_some h5)))
        go_roundw
        case rel => exact ⟨j + 1, _, _, rfl, by go_num, by omega, b5, a5, o5⟩
        case measure => simp [intOf]; omega
      · obtain rfl : j = nl + 1 := by omega
        have hI : ¬ ((nl : Int) + 1 ≤ nl) := by omega
        have hcast : ((nl + 1 : Nat) : Int) = (nl : Int) + 1 := by omega
        rw [hcast]
        go_wp2_with fail
        exact bodyPost_ret (v := .tuple #[.slice sv (nl + 1) cv, .int .i64 0]) (results_tmp2 Try.results17 _ _ _) rfl ⟨sv, nl + 1, cv, rfl, Hid.mk' (rts_len _ _ _ _).symm, rowr, hbr⟩
end Go.Proofs.Ytbhhbkoikocjgaa
/- Layer spec: Flow. -/
namespace Go.Proofs.Ytbhhbkoikocjgaa
set_option linter.unusedSectionVars false
set_option maxHeartbeats 1000000
open Go.RowKit Go.Shelf
set_option maxRecDepth 100000
set_option linter.unusedVariables false
set_option linter.unusedSimpArgs false


variable [DecidableEq Ac] [DecidableEq Ou] [DecidableEq Mg]
theorem res3 {f : Func} {w : World} {tmps : Array Value} {t k l : Nat} {x v u : Value} (hf : f.results = #[.tmp t, .tmp k, .tmp l]) (hp : tmps.getD t undef = x) (hk : tmps.getD k undef = v) (hl : tmps.getD l undef = u) :
    (results f tmps).run Try.prog w = .ok (.tuple #[x, v, u]) w := by
  have hp' : tmps[t]?.getD undef = x := by simpa using hp
  have hk' : tmps[k]?.getD undef = v := by simpa using hk
  have hll : tmps[l]?.getD undef = u := by simpa using hl
  simp [results, hf, hp', hk', hll]

set_option maxHeartbeats 2000000 in
theorem flow_any (ps : List Ac) (N : Nat) (sp : Option Addr) (n cap : Nat) (os : List Ou) (sl : Option Addr) (nl cl Nl : Nat) (es : List Bz) (w : World) (hS : SS N w ps sp n cap os) (hL : BL Nl w sl nl cl es) (hNl : Nl ≤ w.heap.size) :
    Calls Try.prog 13 #[.agg (stA ps sp n cap), .slice sl nl cl] w fun r w' => r = .returned (.tuple #[.int .u64 (yR ps os (bzs es) nl).I, .int .u64 (yR ps os (bzs es) nl).U, .int .i64 (xE ps os)]) ∧ Below w.heap.size w w' := by
  have hL := hL.mono hNl
  have hS := hS.here
  have h1 := hS.a32.out
  have h2 := hS.l32
  have hok := hS.ok
  have hnn := hS.outs.len
  have hns := hS.outs.small
  have A0 := Arr.new w 30 (stA ps sp n cap)
  have B0 := alloc_bel' w (.cells (stA ps sp n cap) 30)
  have hmay := fun u => may_any ps sp n cap u h1 hok.out hns
  cases hm : may ps n with
  | false =>
    have hm' : may ps os.length = false := by rw [← hnn.out]; exact hm
    have e1 : yR ps os (bzs es) nl = ⟨zs, [], [], 0, 0⟩ := by unfold yR; rw [hm']; rfl
    have e2 : xE ps os = 2 := by unfold xE; rw [hm']; rfl
    rw [e1, e2]
    rw [hm] at hmay
    go_enter Try.func13, Try.ntmps13
    go_wp2_with (first
      | (refine atL 30 (.tmp 2) ?_; refine ld30 (by rfl) _ (by rfl) w.heap.size 30 (by rfl) ps sp n cap h1 h2 A0 ?_)
      | (go_at_call 24; go_must (refine (hmay _).mono ?_; rintro r w1 ⟨rfl, hb1⟩)))
    exact bodyPost_ret (res3 Try.results13 rfl rfl rfl) rfl ⟨rfl, B0.trans (hb1.mono B0.size)⟩
  | true =>
    have hm' : may ps os.length = true := by rw [← hnn.out]; exact hm
    rw [yR_yes hm', xE_yes hm']
    rw [hm] at hmay
    have hrok := rnA_ok (Ls := bzs es) h1 hok.out hS.outs.ok hL.bts
    have hz82 := zeroValue82N
    have hzs82 := zsize82
    generalize zero82N = Z9 at hz82 hzs82
    have hb82 := built82a (ps := ps) (sp := sp) (n := n) (cap := cap) h1 h2
    go_enter Try.func13, Try.ntmps13
    go_upto_region 1 with fail
    generalize w.alloc (.cells (stA ps sp n cap) 30) = V at A0 B0 ⊢
    go_upto_region 3 with (first
      | (refine atL 30 (.tmp 2) ?_; refine ld30 (by rfl) _ (by rfl) w.heap.size 30 (by rfl) ps sp n cap h1 h2 A0 ?_)
      | (go_at_call 24; go_must (refine (hmay _).mono ?_; rintro r w1 ⟨rfl, hb1⟩)))
    have A1 := A0.below hb1 A0.lt
    have B1 := B0.trans (hb1.mono B0.size)
    have hfin := finF ps sp n cap os sl nl cl es w1 ((hS.below B1).mono B1.size) ((hL.below B1).mono B1.size)
    clear A0 B0 hb1
    go_upto_region 4 with (first
      | (refine atL 30 (.tmp 2) ?_; refine ld30 (by rfl) _ (by rfl) w.heap.size 30 (by rfl) ps sp n cap h1 h2 A1 ?_)
      | (refine atB 82 ?_; refine bdT (by rfl) 82 #[(0, .tmp 12)] (by rfl) (by rfl) hb82 ?_)
      | (go_at_call 34; go_must (refine (fold34_any sl nl cl (flA ps sp n cap 0 0) w1).mono ?_; rintro r w3 ⟨rfl, rfl⟩))
      | (go_at_call 33; go_must (refine hfin.mono ?_; rintro r w4 ⟨C4, rfl, hT4, hb4⟩; obtain ⟨s4, n4, c4, rfl, hR4⟩ := hT4))
      | (refine atS 82 (.tmp 7) (.tmp 15) ?_; refine stBn (by rfl) 82 1091 _ _ (by rfl) w4 w4.heap.size 82 rfl (flA (rnA ps os (bzs es) nl).P s4 n4 c4 (rnA ps os (bzs es) nl).I (rnA ps os (bzs es) nl).U) (by rfl) (by rfl) (flA_size (hrok nl).a32 (fun a ha => ((hrok nl).ok a ha).l32)) (flA_one _ _ _ _ _ _) hzs82 size82N ?_))
    have hq1 := (hrok nl).a32
    have hq2 : ∀ a ∈ (rnA ps os (bzs es) nl).P, a.lk.length = 32 := fun a ha => ((hrok nl).ok a ha).l32
    have B4 := B1.trans (hb4.mono B1.size)
    have A5 := (Arr.new w4 82 (flA (rnA ps os (bzs es) nl).P s4 n4 c4 (rnA ps os (bzs es) nl).I (rnA ps os (bzs es) nl).U)).drew
    have B5 := (B4.alloc B4.size (.cells (flA (rnA ps os (bzs es) nl).P s4 n4 c4 (rnA ps os (bzs es) nl).I (rnA ps os (bzs es) nl).U) 82)).drew
    clear hb4 hR4 hrok
    generalize hre : rnA ps os (bzs es) nl = R at *
    replace hre := Hid.mk' hre
    refine wp_region_held_drew (S := fun u => Arr u w4.heap.size 82 (flA R.P s4 n4 c4 R.I R.U)) (by kernel_rfl) A5 (fun hHeld => ?_)
    generalize (w4.alloc (.cells (flA R.P s4 n4 c4 R.I R.U) 82)).drew = W5 at *
    generalize w4.heap.size = G4 at *
    refine wpAnyH_take (i := 0) (oi := ⟨_, _, _, _, _, _⟩) (v := ?_) rfl (by kernel_rfl) (by kernel_rfl) (by kernel_rfl) (fun _ _ _ h => h) (Or.inl ⟨by rfl, ?_⟩) (by assumption) ?_
    rotate_left
    · intro u hSw
      go_simp
      try (with_reducible rfl)
    try simp only [Act.put, List.setIfInBounds_toArray, List.set_cons_zero, List.set_cons_succ]
    refine wpAnyH_take (i := 1) (oi := ⟨_, _, _, _, _, _⟩) (v := ?_) rfl (by kernel_rfl) (by kernel_rfl) (by kernel_rfl) (fun _ _ _ h => h) (Or.inl ⟨by rfl, ?_⟩) (by assumption) ?_
    rotate_left
    · intro u hSw
      have cc := Arr.flI hSw hq1 hq2
      go_simp
      try (with_reducible rfl)
    try simp only [Act.put, List.setIfInBounds_toArray, List.set_cons_zero, List.set_cons_succ]
    refine wpAnyH_take (i := 2) (oi := ⟨_, _, _, _, _, _⟩) (v := ?_) rfl (by kernel_rfl) (by kernel_rfl) (by kernel_rfl) (fun _ _ _ h => h) (Or.inl ⟨by rfl, ?_⟩) (by assumption) ?_
    rotate_left
    · intro u hSw
      go_simp
      try (with_reducible rfl)
    try simp only [Act.put, List.setIfInBounds_toArray, List.set_cons_zero, List.set_cons_succ]
    refine wpAnyH_take (i := 3) (oi := ⟨_, _, _, _, _, _⟩) (v := ?_) rfl (by kernel_rfl) (by kernel_rfl) (by kernel_rfl) (fun _ _ _ h => h) (Or.inl ⟨by rfl, ?_⟩) (by assumption) ?_
    rotate_left
    · intro u hSw
      have cc := Arr.flU hSw hq1 hq2
      go_simp
      try (with_reducible rfl)
    try simp only [Act.put, List.setIfInBounds_toArray, List.set_cons_zero, List.set_cons_succ]
    refine wpAnyH_take (i := 4) (oi := ⟨_, _, _, _, _, _⟩) (v := ?_) rfl (by kernel_rfl) (by kernel_rfl) (by kernel_rfl) (fun _ _ _ h => h) (Or.inl ⟨by rfl, ?_⟩) (by assumption) ?_
    rotate_left
    · intro u hSw
      go_simp
      try (with_reducible rfl)
    try simp only [Act.put, List.setIfInBounds_toArray, List.set_cons_zero, List.set_cons_succ]
    refine wpAnyH_take (i := 5) (oi := ⟨_, _, _, _, _, _⟩) (v := ?_) rfl (by kernel_rfl) (by kernel_rfl) (by kernel_rfl) (fun _ _ _ h => h) (Or.inl ⟨by rfl, ?_⟩) (by assumption) ?_
    rotate_left
    · intro u hSw
      go_simp
      try (with_reducible rfl)
    try simp only [Act.put, List.setIfInBounds_toArray, List.set_cons_zero, List.set_cons_succ]
    refine wpAnyH_take (i := 6) (oi := ⟨_, _, _, _, _, _⟩) (v := ?_) rfl (by kernel_rfl) (by kernel_rfl) (by kernel_rfl) (fun _ _ _ h => h) (Or.inl ⟨by rfl, ?_⟩) (by assumption) ?_
    rotate_left
    · intro u hSw
      go_simp
      try (with_reducible rfl)
    try simp only [Act.put, List.setIfInBounds_toArray, List.set_cons_zero, List.set_cons_succ]
    refine wpAnyH_done (by kernel_rfl) ?_ _
    go_wp2_with fail
    have hre0 := hre.out
    clear hre
    subst hre0
    exact bodyPost_ret (v := .tuple #[.int .u64 (rnA ps os (bzs es) nl).I, .int .u64 (rnA ps os (bzs es) nl).U, .int .i64 0]) (res3 Try.results13 rfl rfl rfl) rfl ⟨rfl, B5⟩
end Go.Proofs.Ytbhhbkoikocjgaa
