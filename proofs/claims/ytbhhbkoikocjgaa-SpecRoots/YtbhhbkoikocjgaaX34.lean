/- ZPf, ZPg. -/
import Derived.Test.YtbhhbkoikocjgaaX01
import Derived.Test.YtbhhbkoikocjgaaX02
import Derived.Test.YtbhhbkoikocjgaaX03
import Derived.Test.YtbhhbkoikocjgaaX04
import Derived.Test.YtbhhbkoikocjgaaX05
import Derived.Test.YtbhhbkoikocjgaaX08
import Derived.Test.YtbhhbkoikocjgaaX06
import Derived.Test.YtbhhbkoikocjgaaX07
import Derived.Test.YtbhhbkoikocjgaaX26
import Derived.Test.YtbhhbkoikocjgaaX12
import Derived.Test.YtbhhbkoikocjgaaX17
import Derived.Test.YtbhhbkoikocjgaaX25
import Derived.Test.YtbhhbkoikocjgaaX27
import Derived.Test.YtbhhbkoikocjgaaX30
import Derived.Test.YtbhhbkoikocjgaaX31
import Derived.Test.YtbhhbkoikocjgaaX32
import Derived.Test.YtbhhbkoikocjgaaX33
import Derived.BigQuiet
import Derived.BigRegion
import Derived.ChangeKeysEq
import Derived.Deep.DeepCutAuto
import Derived.Deep.DrawnRows
import Derived.Deep.MidRow
import Derived.Deep.QuietTactic
import Derived.Deep.RegionHeld3
import Derived.Deep.RegionLaw
import Derived.Deep.RegionWith
import Derived.Deep.WholeRow
import Derived.Great.BuildSlice
import Derived.Great.FillDense
import Derived.Laws.AppendOwnNone
import Derived.Laws.BitsLemmas
import Derived.Laws.BytesArg
import Derived.Laws.CopyOwn
import Derived.Laws.CopyRow
import Derived.Laws.MakeOwn
import Derived.Laws.OwnMore
import Derived.Laws.Tables
import Derived.Lib.SlBytesConst
import Derived.LoopIn
import Derived.LoopNIn
import Derived.Maps.AppendAt
import Derived.OwnWalkIn
import Derived.RangeFuncBound
import Derived.RangeFuncCalls
import Derived.RangeFuncLeaves
import Derived.RangeFuncNested
import Derived.RangeFuncRecord
import Derived.Shelf.Abstract
import Derived.Shelf.RegionOpen
import Derived.TacticsInMore
import Derived.WalkKit
import Derived.WalkLawsBesides
import Derived.WalkSpells
import Derived.Test.YtbhhbkoikocjgaaX10
import Derived.Test.YtbhhbkoikocjgaaX21
import Derived.Test.YtbhhbkoikocjgaaX29
/- Layer spec: what the layers below give. -/
namespace Go.Proofs.Ytbhhbkoikocjgaa
set_option linter.unusedSectionVars false
set_option maxHeartbeats 1000000
open Go.RowKit
set_option maxRecDepth 100000
set_option linter.unusedVariables false
set_option linter.unusedSimpArgs false

variable [DecidableEq Ac] [DecidableEq Ou] [DecidableEq Mg]
theorem TR.up {base base' : Nat} {w : World} {v : Value} {es : List En} {bs : List (List Int)} (h : TR base w v es bs) (hb : base' ≤ base) : TR base' w v es bs :=
  ⟨⟨own_monoS h.eo.own hb, h.eo.ok, fun e he b off hs => by
    obtain ⟨h1, h2, h3, h4⟩ := h.eo.ap e he b off hs
    exact ⟨by omega, h2, h3, by omega⟩⟩, h.bs, h.sm⟩
theorem TR.es {base : Nat} {w : World} {v : Value} {es : List En} {bs : List (List Int)} (h : TR base w v es bs) (hn : bs.length ≤ 32) : ∃ sp cap, v = .slice sp bs.length cap ∧ ES w.heap.size w sp bs.length cap es := by
  have hl : es.length = bs.length := by rw [← h.bs.out, List.length_map]
  rw [← hl]
  exact h.eo.es (by omega)
theorem TR.sums {base : Nat} {w : World} {v : Value} {es : List En} {bs : List (List Int)} (h : TR base w v es bs) : es.map En.sm = bs.map shl := by
  rw [← h.bs.out, List.map_map]
  exact List.map_congr_left (fun e he => h.sm.out e he)
set_option maxHeartbeats 1000000 in
theorem accountsOf_any (ps : List Ac) (sp : Option Addr) (n cap : Nat) (w : World) (h1 : ps.length = 32) (hok : ∀ a ∈ ps, AcOK a) :
    Calls Try.prog 55 #[.agg (stA ps sp n cap)] w (TPost (ps.map fun a => 0 :: acb a) w) := by
  have h2 : ∀ a ∈ ps, a.lk.length = 32 := fun a ha => (hok a ha).l32
  have A0 := Arr.new w 30 (stA ps sp n cap)
  have hb0 := alloc_bel' w (.cells (stA ps sp n cap) 30)
  have hT := Hid.mk' (treeA_any ps 32 32 (w.alloc (.cells (stA ps sp n cap) 30)) (some ⟨w.heap.size, 0, none⟩) hok h1.symm (by omega) (fun _ => ⟨w.heap.size, 0, rfl, by simp, fun i a ha => by rw [Nat.zero_add]; exact A0.stAt h2 ha⟩))
  go_enter Try.func55, Try.ntmps55
  go_wp2_with (go_at_call 73; go_must (refine hT.out.mono ?_; rintro e w1 ⟨v, es, rfl, hR, hb1⟩))
  go_ret
  exact ⟨v, es, rfl, hR.up (by simp), hb0.trans (hb1.mono (by simp))⟩
set_option maxHeartbeats 1000000 in
theorem outsOf_any (ps : List Ac) (N : Nat) (sp : Option Addr) (n cap : Nat) (os : List Ou) (w : World) (hS : SS N w ps sp n cap os) (hn : n ≤ 32) :
    Calls Try.prog 57 #[.agg (stA ps sp n cap)] w (TPost (os.map fun a => 0 :: oub a) w) := by
  have h1 := hS.a32.out
  have h2 := hS.l32
  have A0 := Arr.new w 30 (stA ps sp n cap)
  have hb0 := alloc_bel' w (.cells (stA ps sp n cap) 30)
  have hO := (hS.here.below hb0).outs
  have hT := Hid.mk' (treeO_any os n cap (w.alloc (.cells (stA ps sp n cap) 30)) sp hO.ok hO.len.out hn (fun h0 => by obtain ⟨g, off, e, hg, hr⟩ := hO.at0 h0; exact ⟨g, off, e, by simp; omega, hr⟩))
  have c1 := A0.stOut h1 h2
  clear hO hS h1 h2
  go_enter Try.func57, Try.ntmps57
  go_wp2_with (go_at_call 77; go_must (refine hT.out.mono ?_; rintro e w1 ⟨v, es, rfl, hR, hb1⟩))
  go_ret
  exact ⟨v, es, rfl, hR.up (by simp), hb0.trans (hb1.mono (by simp))⟩
/-- What leaves answers. -/
def LPost (n : Nat) (ls : List (List Int)) (w : World) (e : Ending) (w' : World) : Prop := ∃ sp cap, e = .returned (.slice sp n cap) ∧ HS w'.heap.size w' sp n cap ls ∧ (∀ b off, sp = some ⟨b, off, none⟩ → w.heap.size ≤ b) ∧ Below w.heap.size w w'
set_option maxHeartbeats 1000000 in
theorem leaves_any (N : Nat) (sp : Option Addr) (n cap : Nat) (es : List En) (w : World) (hS : ES N w sp n cap es) (hn : n ≤ 32) :
    Calls Try.prog 76 #[.slice sp n cap] w (LPost n (es.map En.sm) w) := by
  obtain ⟨i0, hi, hz0, hz1, hz2⟩ := info_parts info24
  have hl := hS.len
  have hS := hS.here
  have h32 : Hid (∀ x ∈ es.map En.sm, x.length = 32) := Hid.mk' (fun x hx => by
    obtain ⟨e, he, rfl⟩ := List.mem_map.1 hx
    exact (hS.ok e he).s32)
  go_enter Try.func76, Try.ntmps76
  go_upto_region 2 with (at_make; go_must (refine wpList_make_own _ (by rfl) (.const (.int .i64 0)) (.tmp 7) 49 (by rfl) w.heap.size 24 i0 (.agg (h8 Z32)) 32 Try.underlying49 hi hz0 hz1 .i64 .i64 _ n (by rfl) (by rfl) (by omega) (by rw [hz2]; omega) (by unfold maxLen; omega) (Nat.le_refl _) ?_; intro w3 hown3 hg3))
  have hB3 := (Below.refl w.heap.size w).grown hg3 (Nat.le_refl _) (by simp)
  have hown3' : w3.ownsRow w.heap.size 24 32 (.slice (some ⟨w.heap.size, 0, none⟩) 0 n) 0 (flat32 []) := hown3
  clear hown3 hg3
  go_upto_region 3 with fail
  go_loopw [3, 11] (fun v q wr => ∃ j : Nat, q = .int .i64 (j : Int) ∧ j ≤ n ∧ Below w.heap.size w wr ∧ wr.ownsRow w.heap.size 24 32 v j (flat32 ((es.map En.sm).take j)))
    (fun _ q _ => n - (intOf q).toNat)
  case atStart => exact ⟨0, rfl, by omega, hB3, by simpa using hown3'⟩
  case round =>
    obtain ⟨j, rfl, hj, hbl, hO⟩ := hrel
    clear hown3' hB3
    by_cases hlt : j < n
    · have hI : (j : Int) < n := by omega
      have hSr := hS.below hbl
      obtain ⟨g, off, rfl, hgN, hR⟩ := hSr.at0 (by omega)
      obtain ⟨e, he⟩ : ∃ e, es[j]? = some e := ⟨es[j]'(by rw [← hl.out]; exact hlt), List.getElem?_eq_getElem _⟩
      have he32 := (hS.ok e (List.mem_of_getElem? he)).s32
      have hRe := hR j e he
      have hnx : Hid ((es.map En.sm).take (j + 1) = (es.map En.sm).take j ++ [e.sm]) := Hid.mk' (by rw [List.take_add_one]; congr 1; simp [he])
      clear he hR
      have A1 := Arr.new wr 160 e.arr
      have hO1 := hO.alloc (.cells e.arr 160)
      have hbl1 := hbl.alloc hbl.size (.cells e.arr 160)
      have hrs := range_sm (rangeE A1)
      have hs0 := hbl.size
      go_upto_region 5 with (first
        | (refine ld54 (by rfl) _ (by rfl) g (off + j * 33) (by rfl) e he32 hRe ?_)
        | (refine st54n (by rfl) _ _ (by rfl) wr wr.heap.size rfl (by rfl) e (by rfl) (by rfl) he32 ?_))
      have hs1 : (wr.alloc (.cells e.arr 160)).heap.size = wr.heap.size + 1 := by simp
      generalize wr.alloc (.cells e.arr 160) = wa at *
      go_upto_region 6 with (first
        | (refine ld24 (by rfl) _ (by rfl) wr.heap.size (0 + 1) (by rfl) e.sm he32 hrs ?_)
        | (refine b1L (by rfl) _ (by rfl) e.sm (by rfl) he32 ?_)
        | (at_builtin; go_must (refine ag24 (by rfl) (.tmp 15) (.tmp 18) (by rfl) w.heap.size j _ _ e.sm (by rfl) (hO1.alloc _) wa.heap.size 1 (by rfl) (Arr.new wa 24 (h8 e.sm)) he32 (by omega) (by simp; omega) ?_; intro v' w6 hO6 hG6; have hbl6 := (hbl1.alloc (by omega) _).grown hG6 (by simp; omega) (fun k e => own_ge hO k e))))
      go_wp2_with fail
      go_roundw
      case rel => exact ⟨j + 1, by go_num, by omega, hbl6, by rw [hnx.out]; exact hO6⟩
      case measure => simp [intOf]; omega
    · obtain rfl : j = n := by omega
      have hI : ¬ (j : Int) < j := by omega
      have ht : Hid ((es.map En.sm).take j = es.map En.sm) := Hid.mk' (List.take_of_length_le (by rw [List.length_map, ← hl.out]; exact Nat.le_refl _))
      rw [ht.out] at hO
      obtain ⟨sp6, cp6, rfl, hH, hb⟩ := own_hs hO h32.out (by rw [List.length_map]; exact hl.out) (by omega)
      go_wp2_with fail
      go_ret
      exact ⟨sp6, cp6, rfl, hH, hb, hbl⟩
theorem tr5_len {ls : List (List Int)} (h : ∀ x ∈ ls, x.length = 32) : (tr 5 ls).length = 32 := tr_len 5 ls h
set_option maxHeartbeats 1000000 in
theorem troot_any (N : Nat) (sp : Option Addr) (n cap : Nat) (es : List En) (w : World) (hS : ES N w sp n cap es) (hn : n ≤ 32) :
    Calls Try.prog 56 #[.slice sp n cap] w fun e w' => e = .returned (.agg (h8 (tr 5 (es.map En.sm)))) ∧ Below w.heap.size w w' := by
  have A0 := Arr.new w 24 (h8 Z32)
  have hb0 := alloc_bel' w (.cells (h8 Z32) 24)
  have hl := hS.len
  have h32 : Hid (∀ x ∈ es.map En.sm, x.length = 32) := Hid.mk' (fun x hx => by
    obtain ⟨e, he, rfl⟩ := List.mem_map.1 hx
    exact (hS.ok e he).s32)
  have hT32 := tr5_len h32.out
  have hok : Hid (rE 5 (es.map En.sm).length = 0 ∧ rR 5 (es.map En.sm) = tr 5 (es.map En.sm)) := Hid.mk' (rR_ok (m := 5) (by omega) (by rw [List.length_map, ← hl.out]; exact hn))
  have hL := leaves_any _ sp n cap es _ (hS.here.below hb0) hn
  go_enter Try.func56, Try.ntmps56
  go_upto_region 2 with (first
    | (go_at_call 76; go_must (refine hL.mono ?_; rintro e w1 ⟨sp1, cp1, rfl, hH1, -, hb1⟩; have hR := root_any 5 _ sp1 n cp1 _ _ hH1; rw [hok.out.1, hok.out.2] at hR))
    | (go_at_call 75; go_must (refine hR.mono ?_; rintro e w2 ⟨rfl, hb2⟩))
    | (refine st24n (by rfl) _ _ (by rfl) w2 w2.heap.size rfl (by rfl) _ (by rfl) (by rfl) hT32 ?_))
  have hb12 := hb1.trans (hb2.mono hb1.size)
  have hB2 := hb0.trans (hb12.mono (by simp))
  have A2 := A0.below hb12 (by simp)
  have A2' := A2.alloc (.cells (h8 (tr 5 (es.map En.sm))) 24)
  have A3 := Arr.new w2 24 (h8 (tr 5 (es.map En.sm)))
  have hB3 := hB2.alloc hB2.size (.cells (h8 (tr 5 (es.map En.sm))) 24)
  go_wp2_with (first
    | (refine ld24 (by rfl) _ (by rfl) w2.heap.size 0 (by rfl) _ hT32 A3.range ?_)
    | (refine st24 (by rfl) _ _ (by rfl) w.heap.size _ Z32 (by rfl) (by rfl) hT32 Z32_len A2' ?_))
  exact bodyPost_ret (v := .agg (h8 (tr 5 (es.map En.sm)))) (res24 Try.results56 rfl hT32 (A2'.setRow _)) rfl ⟨rfl, below_setRow hB3 (Nat.le_refl _) _⟩
set_option maxHeartbeats 1000000 in
theorem countSum_any (n : Int) (w : World) :
    Calls Try.prog 58 #[.int .u64 n] w fun e w' => e = .returned (.agg (h8 (cnt n))) ∧ Below w.heap.size w w' := by
  have A0 := Arr.new w 24 (h8 Z32)
  have hb0 := alloc_bel' w (.cells (h8 Z32) 24)
  have hc := cnt_len n
  have hF := fun w => from_any _ (w4 n) w (w4_cells n)
  rw [from_cnt] at hF
  replace hF := Hid.mk' hF
  go_enter Try.func58, Try.ntmps58
  go_wp2_with (first
    | (refine bdTS (by rfl) 135 _ (by rfl) (by rfl) (built112 n) ?_)
    | (go_at_call 79; go_must (refine (hF.out _).mono ?_; rintro e w2 ⟨rfl, hb2⟩; have A2 := A0.below hb2 (by simp)))
    | (refine st24 (by rfl) _ _ (by rfl) w.heap.size _ Z32 (by rfl) (by rfl) hc Z32_len A2 ?_))
  have hB2 := hb0.trans (hb2.mono (by simp))
  exact bodyPost_ret (v := .agg (h8 (cnt n))) (res24 Try.results58 rfl hc (A2.setRow _)) rfl ⟨rfl, below_setRow hB2 (Nat.le_refl _) _⟩
set_option maxHeartbeats 1000000 in
theorem count_any (ps : List Ac) (sp : Option Addr) (n cap : Nat) (w : World) (h1 : ps.length = 32) (h2 : ∀ a ∈ ps, a.lk.length = 32) (hn : n ≤ 140737488355328) :
    Calls Try.prog 59 #[.agg (stA ps sp n cap)] w fun e w' => e = .returned (.int .u64 n) ∧ Below w.heap.size w w' := by
  have A0 := Arr.new w 30 (stA ps sp n cap)
  have hb0 := alloc_bel' w (.cells (stA ps sp n cap) 30)
  have c1 := A0.stOut h1 h2
  have hw : (n : Int) % 18446744073709551616 = n := by omega
  go_enter Try.func59, Try.ntmps59
  go_wp2_with fail
  go_ret
  exact ⟨by simp [hw], hb0⟩
end Go.Proofs.Ytbhhbkoikocjgaa
/- Layer spec: what the layers below give. -/
namespace Go.Proofs.Ytbhhbkoikocjgaa
set_option linter.unusedSectionVars false
set_option maxHeartbeats 1000000
open Go.RowKit
set_option maxRecDepth 100000
set_option linter.unusedVariables false
set_option linter.unusedSimpArgs false

variable [DecidableEq Ac] [DecidableEq Ou] [DecidableEq Mg]
/-- What Root answers. -/
def rtV (ps : List Ac) (os : List Ou) : List Int := if may ps os.length = true then rtS ps os else Z32
def rtE (ps : List Ac) (os : List Ou) : Int := if may ps os.length = true then 0 else 2
theorem rtS_len (ps : List Ac) (os : List Ou) : (rtS ps os).length = 32 := jn_len _ _ _
theorem fo_two (a o c : List Int) : fo 0 a [o, c] = pr (pr a o) c := by simp [fo]
theorem al_map (ps : List Ac) : (ps.map fun a => 0 :: acb a).map shl = al ps := by simp [al, lf]
theorem ol_map (os : List Ou) : (os.map fun a => 0 :: oub a).map shl = ol os := by simp [ol, lf]
/-- A tree, as a slice of entries. -/
def TP (n : Nat) (bs : List (List Int)) (ls : List (List Int)) (w : World) (r : Ending) (w' : World) : Prop :=
  ∃ sp cap es, r = .returned (.slice sp n cap) ∧ ES w'.heap.size w' sp n cap es ∧ Hid (es.map En.sm = ls) ∧ TR w.heap.size w' (.slice sp n cap) es bs ∧ Below w.heap.size w w'
theorem TPost.tp {bs ls : List (List Int)} {n : Nat} {w w' : World} {r : Ending} (h : TPost bs w r w') (hn : n = bs.length) (h32 : n ≤ 32) (hl : bs.map shl = ls) : TP n bs ls w r w' := by
  obtain ⟨v, es, rfl, hR, hb⟩ := h
  obtain ⟨sp, cap, rfl, hE⟩ := hR.es (by omega)
  subst hn
  exact ⟨sp, cap, es, rfl, hE, Hid.mk' (by rw [hR.sums, hl]), hR, hb⟩
theorem accs_any (ps : List Ac) (sp : Option Addr) (n cap : Nat) (w : World) (h1 : ps.length = 32) (hok : ∀ a ∈ ps, AcOK a) :
    Calls Try.prog 55 #[.agg (stA ps sp n cap)] w (TP 32 (ps.map fun a => 0 :: acb a) (al ps) w) :=
  (accountsOf_any ps sp n cap w h1 hok).mono fun r w' h => h.tp (by simp [h1]) (by omega) (al_map ps)
theorem outs_any (ps : List Ac) (N : Nat) (sp : Option Addr) (n cap : Nat) (os : List Ou) (w : World) (hS : SS N w ps sp n cap os) (hn : n ≤ 32) :
    Calls Try.prog 57 #[.agg (stA ps sp n cap)] w (TP n (os.map fun a => 0 :: oub a) (ol os) w) :=
  (outsOf_any ps N sp n cap os w hS hn).mono fun r w' h => h.tp (by rw [List.length_map]; exact hS.outs.len.out) hn (ol_map os)
theorem troot_ls (N : Nat) (sp : Option Addr) (n cap : Nat) (es : List En) (ls : List (List Int)) (w : World) (hS : ES N w sp n cap es) (hl : Hid (es.map En.sm = ls)) (hn : n ≤ 32) :
    Calls Try.prog 56 #[.slice sp n cap] w fun e w' => e = .returned (.agg (h8 (tr 5 ls))) ∧ Below w.heap.size w w' := by
  have h := troot_any N sp n cap es w hS hn
  rw [hl.out] at h
  exact h
theorem two32 {A B : List Int} (hA : A.length = 32) (hB : B.length = 32) : ∀ x ∈ [A, B], x.length = 32 := by
  intro x hx
  simp only [List.mem_cons, List.mem_nil_iff, or_false] at hx
  rcases hx with rfl | rfl <;> assumption
set_option maxHeartbeats 2000000 in
theorem root_ok (ps : List Ac) (N : Nat) (sp : Option Addr) (n cap : Nat) (os : List Ou) (w : World) (hS : SS N w ps sp n cap os) (hm : may ps n = true) :
    Calls Try.prog 38 #[.agg (stA ps sp n cap)] w fun e w' => e = .returned (.tuple #[.agg (h8 (rtS ps os)), .int .i64 0]) ∧ Below w.heap.size w w' := by
  have h1 := hS.a32.out
  have h2 := hS.l32
  have hok := hS.ok.out
  have hn32 := may_le hm
  have hnl := hS.outs.len
  have hS := hS.here
  have A0 := (Arr.new w 30 (stA ps sp n cap)).alloc (.cells (h8 Z32) 24)
  have Z0 := Arr.new (w.alloc (.cells (stA ps sp n cap) 30)) 24 (h8 Z32)
  rw [World.size_alloc] at Z0
  have B0 := (alloc_bel' w (.cells (stA ps sp n cap) 30)).alloc (by simp) (.cells (h8 Z32) 24)
  have hM := may_any ps sp n cap ((w.alloc (.cells (stA ps sp n cap) 30)).alloc (.cells (h8 Z32) 24)) h1 hok (by omega)
  rw [hm] at hM
  have hA32 := tr5_len (al_32 ps)
  have hO32 := tr5_len (ol_32 os)
  have hC32 := cnt_len n
  have hRe : Hid (rtS ps os = pr (pr (tr 5 (al ps)) (tr 5 (ol os))) (cnt n)) := Hid.mk' (by unfold rtS jn; rw [hnl.out])
  obtain ⟨R, hRR⟩ : ∃ R, R = pr (pr (tr 5 (al ps)) (tr 5 (ol os))) (cnt n) := ⟨_, rfl⟩
  have hR : R.length = 32 := by rw [hRR]; exact pr_len _ _
  rw [hRe.out, ← hRR]
  replace hRR := Hid.mk' hRR
  replace hok := Hid.mk' hok
  go_enter Try.func38, Try.ntmps38
  go_upto_region 3 with (first
    | (refine ld30 (by rfl) _ (by rfl) w.heap.size 30 (by rfl) ps sp n cap h1 h2 A0 ?_)
    | (go_at_call 24; go_must (refine hM.mono ?_; rintro e w1 ⟨rfl, hbM⟩)))
  replace B0 := (B0.trans (hbM.mono B0.size)).drew
  replace A0 := (A0.below hbM A0.lt).drew
  replace Z0 := (Z0.below hbM Z0.lt).drew
  replace hok := hok.out
  clear hM
  refine wp_region_held_drew (S := fun u => Below w.heap.size w u ∧ Arr u w.heap.size 30 (stA ps sp n cap)) (by kernel_rfl) (⟨B0, A0⟩) (fun hHeld => ?_)
  refine wpAnyH_take (i := 0) (oi := ⟨_, _, _, _, _, _⟩) rfl (by kernel_rfl) (by kernel_rfl) (by kernel_rfl) (fun _ _ _ h => h) (y30 (by rfl) (.tmp 1) rfl w.heap.size 30 rfl ps sp n cap h1 h2 (fun u hu => hu.2)) (by assumption) ?_
  try simp only [Act.put, List.setIfInBounds_toArray, List.set_cons_zero, List.set_cons_succ]
  refine wpAnyH_take (i := 3) (oi := ⟨_, _, _, _, _, _⟩) rfl (by kernel_rfl) (by kernel_rfl) (by kernel_rfl) (fun _ _ _ h => h) (y30 (by rfl) (.tmp 1) rfl w.heap.size 30 rfl ps sp n cap h1 h2 (fun u hu => hu.2)) (by assumption) ?_
  try simp only [Act.put, List.setIfInBounds_toArray, List.set_cons_zero, List.set_cons_succ]
  refine wpAnyH_take (i := 6) (oi := ⟨_, _, _, _, _, _⟩) rfl (by kernel_rfl) (by kernel_rfl) (by kernel_rfl) (fun _ _ _ h => h) (y30 (by rfl) (.tmp 1) rfl w.heap.size 30 rfl ps sp n cap h1 h2 (fun u hu => hu.2)) (by assumption) ?_
  try simp only [Act.put, List.setIfInBounds_toArray, List.set_cons_zero, List.set_cons_succ]
  refine wpAnyH_ready (rs := [1]) (by kernel_rfl) (by simp) ?_
  refine AllReadyH.cons (o := ⟨_, _, _, _, _, _⟩) rfl (fun K hK => ?_) AllReadyH.nil
  go_simp
  refine (accs_any ps sp n cap _ h1 hok).mono ?_; rintro e u1 ⟨s1, c1, es1, rfl, hE1, hm1, -, hb1⟩; have B1 := B0.trans (hb1.mono B0.size); have A1 := A0.below hb1 A0.lt; have Z1 := Z0.below hb1 Z0.lt
  go_wp2_with fail
  refine hK.out _ _ ⟨B1, A1⟩ (fun hHeld => ?_)
  clear hK K
  try simp only [Act.put, List.setIfInBounds_toArray, List.set_cons_zero, List.set_cons_succ]
  refine wpAnyH_ready (rs := [2]) (by kernel_rfl) (by simp) ?_
  refine AllReadyH.cons (o := ⟨_, _, _, _, _, _⟩) rfl (fun K hK => ?_) AllReadyH.nil
  go_simp
  refine (troot_ls _ s1 32 c1 es1 _ _ hE1 hm1 (by omega)).mono ?_; rintro e u2 ⟨rfl, hb2⟩; have B2 := B1.trans (hb2.mono B1.size); have A2 := A1.below hb2 A1.lt; have Z2 := Z1.below hb2 Z1.lt
  go_wp2_with fail
  refine hK.out _ _ ⟨B2, A2⟩ (fun hHeld => ?_)
  clear hK K
  try simp only [Act.put, List.setIfInBounds_toArray, List.set_cons_zero, List.set_cons_succ]
  refine wpAnyH_ready (rs := [4]) (by kernel_rfl) (by simp) ?_
  refine AllReadyH.cons (o := ⟨_, _, _, _, _, _⟩) rfl (fun K hK => ?_) AllReadyH.nil
  go_simp
  refine (outs_any ps _ sp n cap os _ (hS.below B2) hn32).mono ?_; rintro e u3 ⟨s3, c3, es3, rfl, hE3, hm3, -, hb3⟩; have B3 := B2.trans (hb3.mono B2.size); have A3 := A2.below hb3 A2.lt; have Z3 := Z2.below hb3 Z2.lt
  go_wp2_with fail
  refine hK.out _ _ ⟨B3, A3⟩ (fun hHeld => ?_)
  clear hK K
  try simp only [Act.put, List.setIfInBounds_toArray, List.set_cons_zero, List.set_cons_succ]
  refine wpAnyH_ready (rs := [5]) (by kernel_rfl) (by simp) ?_
  refine AllReadyH.cons (o := ⟨_, _, _, _, _, _⟩) rfl (fun K hK => ?_) AllReadyH.nil
  go_simp
  refine (troot_ls _ s3 n c3 es3 _ _ hE3 hm3 hn32).mono ?_; rintro e u4 ⟨rfl, hb4⟩; have B4 := B3.trans (hb4.mono B3.size); have A4 := A3.below hb4 A3.lt; have Z4 := Z3.below hb4 Z3.lt
  go_wp2_with fail
  refine hK.out _ _ ⟨B4, A4⟩ (fun hHeld => ?_)
  clear hK K
  try simp only [Act.put, List.setIfInBounds_toArray, List.set_cons_zero, List.set_cons_succ]
  refine wpAnyH_ready (rs := [7]) (by kernel_rfl) (by simp) ?_
  refine AllReadyH.cons (o := ⟨_, _, _, _, _, _⟩) rfl (fun K hK => ?_) AllReadyH.nil
  go_simp
  refine (count_any ps sp n cap _ h1 h2 (by omega)).mono ?_; rintro e u5 ⟨rfl, hb5⟩; have B5 := B4.trans (hb5.mono B4.size); have A5 := A4.below hb5 A4.lt; have Z5 := Z4.below hb5 Z4.lt
  go_wp2_with fail
  refine hK.out _ _ ⟨B5, A5⟩ (fun hHeld => ?_)
  clear hK K
  try simp only [Act.put, List.setIfInBounds_toArray, List.set_cons_zero, List.set_cons_succ]
  refine wpAnyH_ready (rs := [8]) (by kernel_rfl) (by simp) ?_
  refine AllReadyH.cons (o := ⟨_, _, _, _, _, _⟩) rfl (fun K hK => ?_) AllReadyH.nil
  go_simp
  refine (countSum_any n _).mono ?_; rintro e u6 ⟨rfl, hb6⟩; have B6 := B5.trans (hb6.mono B5.size); have A6 := A5.below hb6 A5.lt; have Z6 := Z5.below hb6 Z5.lt
  go_wp2_with fail
  refine hK.out _ _ ⟨B6, A6⟩ (fun hHeld => ?_)
  clear hK K
  try simp only [Act.put, List.setIfInBounds_toArray, List.set_cons_zero, List.set_cons_succ]
  refine wpAnyH_ready (rs := [9]) (by kernel_rfl) (by simp) ?_
  refine AllReadyH.cons (o := ⟨_, _, _, _, _, _⟩) rfl (fun K hK => ?_) AllReadyH.nil
  refine step_want rfl (wp_bld2 (.tmp 13) (.tmp 16) rfl (tr 5 (ol os)) (cnt n) rfl rfl hO32 hC32 ?_)
  refine hK.out _ _ ⟨B6.alloc B6.size _, A6.alloc _⟩ (fun hHeld => ?_)
  clear hK K
  try simp only [Act.put, List.setIfInBounds_toArray, List.set_cons_zero, List.set_cons_succ]
  have hH7 := hs_lit (Arr.new u6 24 (flat32 [tr 5 (ol os), cnt n]).toArray) (two32 hO32 hC32) (m := 2) rfl (by omega)
  have hfo := fold_ok 0 (tr 5 (al ps)) _ _ 2 2 _ _ hA32 hH7 (by omega) (by decide)
  rw [fo_two, ← hRR.out, Int.natCast_zero] at hfo
  have B7 := B6.alloc B6.size (.cells (flat32 [tr 5 (ol os), cnt n]).toArray 24)
  have A7 := A6.alloc (.cells (flat32 [tr 5 (ol os), cnt n]).toArray 24)
  have Z7 := Z6.alloc (.cells (flat32 [tr 5 (ol os), cnt n]).toArray 24)
  refine wpAnyH_ready (rs := [10]) (by kernel_rfl) (by simp) ?_
  refine AllReadyH.cons (o := ⟨_, _, _, _, _, _⟩) rfl (fun K hK => ?_) AllReadyH.nil
  go_simp
  refine (hfo).mono ?_; rintro e u8 ⟨rfl, hb8⟩; have B8 := B7.trans (hb8.mono B7.size); have A8 := A7.below hb8 A7.lt; have Z8 := Z7.below hb8 Z7.lt
  go_wp2_with fail
  refine hK.out _ _ ⟨B8, A8⟩ (fun hHeld => ?_)
  clear hK K
  try simp only [Act.put, List.setIfInBounds_toArray, List.set_cons_zero, List.set_cons_succ]
  refine wpAnyH_take (i := 11) (oi := ⟨_, _, _, _, _, _⟩) (v := ?_) rfl (by kernel_rfl) (by kernel_rfl) (by kernel_rfl) (fun _ _ _ h => h) (Or.inl ⟨by rfl, ?_⟩) (by assumption) ?_
  rotate_left
  · intro u hSw
    go_simp
    try (with_reducible rfl)
  try simp only [Act.put, List.setIfInBounds_toArray, List.set_cons_zero, List.set_cons_succ]
  refine wpAnyH_take (i := 12) (oi := ⟨_, _, _, _, _, _⟩) (v := ?_) rfl (by kernel_rfl) (by kernel_rfl) (by kernel_rfl) (fun _ _ _ h => h) (Or.inl ⟨by rfl, ?_⟩) (by assumption) ?_
  rotate_left
  · intro u hSw
    go_simp
    try (with_reducible rfl)
  try simp only [Act.put, List.setIfInBounds_toArray, List.set_cons_zero, List.set_cons_succ]
  refine wpAnyH_ready (rs := [13]) (by kernel_rfl) (by simp) ?_
  refine AllReadyH.cons (o := ⟨_, _, _, _, _, _⟩) rfl (fun K hK => ?_) AllReadyH.nil
  refine step_want rfl (wp_store_row 24 (.tmp 2) (.tmp 19) rfl (w.heap.size + 1) (h8 R) rfl rfl 24 _ Z8 (s24h8 hR) (by rw [h8_size, h8_size, hR, Z32_len]) (h8_one _) ?_)
  refine hK.out _ _ ⟨below_setRow B8 (by omega) _, A8.setRowOther (k := w.heap.size + 1) _ (by omega)⟩ (fun hHeld => ?_)
  clear hK K
  try simp only [Act.put, List.setIfInBounds_toArray, List.set_cons_zero, List.set_cons_succ]
  refine wpAnyH_take (i := 14) (oi := ⟨_, _, _, _, _, _⟩) (v := ?_) rfl (by kernel_rfl) (by kernel_rfl) (by kernel_rfl) (fun _ _ _ h => h) (Or.inl ⟨by rfl, ?_⟩) (by assumption) ?_
  rotate_left
  · intro u hSw
    go_simp
    try (with_reducible rfl)
  try simp only [Act.put, List.setIfInBounds_toArray, List.set_cons_zero, List.set_cons_succ]
  refine wpAnyH_done (by kernel_rfl) ?_ _

  go_wp2_with fail
  exact bodyPost_ret (v := .tuple #[.agg (h8 R), .int .i64 0]) (resP Try.results38 rfl rfl hR (Z8.setRow _)) rfl ⟨rfl, below_setRow B8 (by omega) _⟩
set_option maxHeartbeats 1000000 in
theorem root_no (ps : List Ac) (sp : Option Addr) (n cap : Nat) (w : World) (h1 : ps.length = 32) (hok : ∀ a ∈ ps, AcOK a) (hn : n ≤ 140737488355328) (hm : may ps n = false) :
    Calls Try.prog 38 #[.agg (stA ps sp n cap)] w fun e w' => e = .returned (.tuple #[.agg (h8 Z32), .int .i64 2]) ∧ Below w.heap.size w w' := by
  have h2 : ∀ a ∈ ps, a.lk.length = 32 := fun a ha => (hok a ha).l32
  have A0 := (Arr.new w 30 (stA ps sp n cap)).alloc (.cells (h8 Z32) 24)
  have Z0 := Arr.new (w.alloc (.cells (stA ps sp n cap) 30)) 24 (h8 Z32)
  rw [World.size_alloc] at Z0
  have B0 := (alloc_bel' w (.cells (stA ps sp n cap) 30)).alloc (by simp) (.cells (h8 Z32) 24)
  have hM := may_any ps sp n cap ((w.alloc (.cells (stA ps sp n cap) 30)).alloc (.cells (h8 Z32) 24)) h1 hok hn
  rw [hm] at hM
  go_enter Try.func38, Try.ntmps38
  go_wp2_with (first
    | (refine ld30 (by rfl) _ (by rfl) w.heap.size 30 (by rfl) ps sp n cap h1 h2 A0 ?_)
    | (go_at_call 24; go_must (refine hM.mono ?_; rintro e w1 ⟨rfl, hbM⟩; have Z1 := Z0.below hbM Z0.lt))
    | (refine st24 (by rfl) _ _ (by rfl) (w.heap.size + 1) Z32 Z32 (by rfl) (by rfl) Z32_len Z32_len Z1 ?_))
  exact bodyPost_ret (v := .tuple #[.agg (h8 Z32), .int .i64 2]) (resP Try.results38 rfl rfl Z32_len (Z1.setRow _)) rfl ⟨rfl, below_setRow (B0.trans (hbM.mono B0.size)) (by omega) _⟩
theorem sroot_any (ps : List Ac) (N : Nat) (sp : Option Addr) (n cap : Nat) (os : List Ou) (w : World) (hS : SS N w ps sp n cap os) :
    Calls Try.prog 38 #[.agg (stA ps sp n cap)] w fun e w' => e = .returned (.tuple #[.agg (h8 (rtV ps os)), .int .i64 (rtE ps os)]) ∧ Below w.heap.size w w' := by
  have hl := hS.outs.len.out
  cases hm : may ps n with
  | true =>
    have e1 : rtV ps os = rtS ps os := by unfold rtV; rw [← hl, if_pos hm]
    have e2 : rtE ps os = 0 := by unfold rtE; rw [← hl, if_pos hm]
    rw [e1, e2]; exact root_ok ps N sp n cap os w hS hm
  | false =>
    have e1 : rtV ps os = Z32 := by unfold rtV; rw [← hl, hm]; rfl
    have e2 : rtE ps os = 2 := by unfold rtE; rw [← hl, hm]; rfl
    rw [e1, e2]; exact root_no ps sp n cap w hS.a32.out hS.ok.out hS.outs.small hm
end Go.Proofs.Ytbhhbkoikocjgaa
