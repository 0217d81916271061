/- Nw, Nq, Ek. -/
import Derived.Test.YtbhhbkoikocjgaaX37
import Derived.Test.YtbhhbkoikocjgaaX34
import Derived.Test.YtbhhbkoikocjgaaX38
import Derived.Deep.QuietTactic
import Derived.BigQuiet
import Derived.WalkSmall
import Derived.Test.YtbhhbkoikocjgaaX14
import Derived.Test.YtbhhbkoikocjgaaX15
import Derived.Test.YtbhhbkoikocjgaaX04
import Derived.Test.YtbhhbkoikocjgaaX02
import Derived.Test.YtbhhbkoikocjgaaX05
import Derived.Test.YtbhhbkoikocjgaaX06
import Derived.Test.YtbhhbkoikocjgaaX07
import Derived.Test.YtbhhbkoikocjgaaX12
import Derived.BigRegion
import Derived.ChangeKeysEq
import Derived.ChangeOld
import Derived.Deep.DeepCutAuto
import Derived.Deep.DrawnRows
import Derived.Deep.MidRow
import Derived.Deep.RegionHeld3
import Derived.Deep.RegionLaw
import Derived.Deep.RegionWith
import Derived.Deep.WholeRow
import Derived.Great.BuildSlice
import Derived.Great.FillDense
import Derived.JoinedTies
import Derived.KernelRfl
import Derived.Laws.AppendOwnNone
import Derived.Laws.BitsLemmas
import Derived.Laws.BytesArg
import Derived.Laws.CopyOwn
import Derived.Laws.CopyRow
import Derived.Laws.MakeOwn
import Derived.Laws.OwnMore
import Derived.Laws.ResultCell
import Derived.Laws.Tables
import Derived.Lib.AppendZeros
import Derived.Lib.SlBytesConst
import Derived.LoopIn
import Derived.LoopNIn
import Derived.Maps.AppendAt
import Derived.OpenShut
import Derived.OwnWalkIn
import Derived.ProofKit
import Derived.RangeFuncBound
import Derived.RangeFuncCalls
import Derived.RangeFuncLeaves
import Derived.RangeFuncNested
import Derived.RangeFuncRecord
import Derived.Shelf.Abstract
import Derived.Shelf.RegionOpen
import Derived.ShutString
import Derived.SizedLaws
import Derived.TacticsInMore
import Derived.WalkKit
import Derived.WalkLawsBesides
import Derived.WalkSpells
import Derived.WideWitness
import GoSem.Claim
import GoSem.ClaimJoined
import GoSem.ClaimMapViews
/- Layer spec: the law SpecFresh. -/
namespace Go.Proofs.Ytbhhbkoikocjgaa
set_option linter.unusedSectionVars false
set_option maxHeartbeats 1000000
open Go.RowKit Go.Shelf
set_option maxRecDepth 100000
set_option linter.unusedVariables false
set_option linter.unusedSimpArgs false
variable [DecidableEq Ac] [DecidableEq Ou] [DecidableEq Mg]
attribute [local go_sem] Oper.semAt_some


theorem RA_mk {P : List Ac} {s : Option Addr} {n c b : Nat} (h1 : P.length = 32) (h2 : ∀ a ∈ P, a.lk.length = 32) (h : s = some ⟨b, 0, none⟩) : RA (stA P s n c) b := by
  subst h
  have hl : (acF P).length = 1088 := by rw [acF_len h2, h1]
  refine ⟨n, c, ?_⟩
  simp only [stA, stC, List.getElem?_toArray]
  rw [List.getElem?_append_right (by omega), hl]
  simp
theorem bzs_eq {es fs : List Bz} {i : Nat} {e f : Bz} (h : bzs fs = bzs es) (he : es[i]? = some e) (hf : fs[i]? = some f) : f.bs = e.bs := by
  have h1 := bzs_get he
  have h2 := bzs_get hf
  rw [h, h1] at h2
  simpa using h2.symm

set_option maxHeartbeats 8000000 in
theorem fresh_walk (ps : List Ac) (sp : Option Addr) (n cap : Nat) (os : List Ou) (sl : Option Addr) (nl cl : Nat) (es : List Bz) (w : World) (hS : SS w.heap.size w ps sp n cap os) (hL : BL w.heap.size w sl nl cl es) (h16 : n * 16 ≤ 140737488351232) :
    Calls Try.prog 7 #[.agg (stA ps sp n cap), .slice sl nl cl] w fun e w' => e = .returned (.bool true) ∧ Below w.heap.size w w' := by
  have h1 := hS.a32.out
  have h2 := hS.l32
  have hoo := hS.outs.ok
  have hlen := hS.outs.len
  have hnsm := hS.outs.small
  have hsm := hL.small
  have hln := hL.len
  have hnlI : (nl : Int) ≤ 9223372036854775000 := by omega
  have hz30 := zeroValue30
  have hzsz : (stA zs none 0 0).size = 1089 := stA_size zs_len zs_l32
  generalize stA zs none 0 0 = Z at hz30 hzsz
  have A0 := Arr.new w 30 (stA ps sp n cap)
  have B0 := alloc_bel' w (.cells (stA ps sp n cap) 30)
  have hrok := rnA_ok (Ls := bzs es) h1 hS.ok.out hS.outs.ok hL.bts
  obtain ⟨hq1, hq3, -⟩ := yR_ok (hrok nl)
  have hq2 : ∀ a ∈ (yR ps os (bzs es) nl).P, a.lk.length = 32 := fun a ha => (hq3 a ha).l32
  have hR8 := Hid.mk' (fun N sp cap sl cl Nl (fs : List Bz) (hbz : bzs fs = bzs es) u (h : SS N u ps sp n cap os) (h' : BL Nl u sl nl cl fs) (hN : Nl ≤ u.heap.size) => by
    have h := run_any ps N sp n cap os sl nl cl Nl fs u h h' hN
    rw [hbz] at h
    exact h)
  have hR9 := Hid.mk' (fun u (hb : Below w.heap.size w u) => refRun_any ps w.heap.size sp n cap os sl nl cl w.heap.size es u (hS.below hb) (hL.below hb) hb.size)
  unfold RunPost at hR8 hR9
  generalize yR ps os (bzs es) nl = R at *
  generalize xE ps os = e at *
  have hsR := Hid.mk' (smB_self R.P R.O)
  have hs0 := Hid.mk' (smB_self ps os)
  have hnf := run_fnil
  have hee : (e == e) = true := by simp
  have hb98 := built98
  have hb97 := built97
  refine (callsIn_wide (n := 9)).1 ?_
  refine callsIn_of_wp_marks Try.func7 rfl trivial ?_ rfl
  simp only [Try.ntmps7, List.size_toArray, List.length_cons, List.length_nil, Nat.reduceAdd, Nat.reduceSub, Array.replicate_succ, Array.replicate_zero, List.push_toArray, List.append_toArray, List.nil_append, List.cons_append]
  refine wpIn_wide.2 ?_
  go_upto_region 2 with (first
    | (refine atL 30 (.tmp 2) ?_; refine ld30 (by rfl) _ (by rfl) w.heap.size 30 (by rfl) ps sp n cap h1 h2 A0 ?_)
    | (go_at_call 21; go_must (refine (copyO_any ps _ sp n cap os _ (hS.below B0) h16).mono ?_; rintro r w1 ⟨s1, c1, rfl, own1, hb1⟩; have B1 := B0.trans (hb1.mono (by simp))))
    | (refine atS 30 (.tmp 5) (.tmp 24) ?_; refine st30n (by rfl) _ _ (by rfl) w1 w1.heap.size rfl hzsz ps s1 n c1 (by rfl) (by rfl) h1 h2 ?_))
  have hz1 : w.heap.size + 1 ≤ w1.heap.size := by have := hb1.size; simpa using this
  have O1 := os_own own1 hlen.out hnsm hoo
  have bb1 := alloc_bel' w1 (.cells (stA ps s1 n c1) 30)
  have S2 : SS w1.heap.size (w1.alloc (.cells (stA ps s1 n c1) 30)) ps s1 n c1 os := ⟨hS.a32, hS.ok, O1.below bb1⟩
  have A2 := (A0.below hb1 A0.lt).alloc (.cells (stA ps s1 n c1) 30)
  have T2 := Arr.new w1 30 (stA ps s1 n c1)
  have B2 := B1.alloc (by omega) (.cells (stA ps s1 n c1) 30)
  have hW2 : w1.heap.size + 1 ≤ (w1.alloc (.cells (stA ps s1 n c1) 30)).heap.size := by simp
  generalize w1.alloc (.cells (stA ps s1 n c1) 30) = W2 at *
  generalize w1.heap.size = G5 at *
  clear A0 B0 B1 hb1 own1 O1 bb1
  have hC0 : CI es W2 0 none 0 W2 := ⟨Below.refl _ _, [], rfl, rfl, World.ownsRow_nil _ _ _ _, fun f hf => by cases hf⟩
  go_wp2_with fail
  go_loopw [6, 7] (fun v d wr => ∃ (j : Nat) (sv : Option Addr) (cv : Nat), v = .slice sv j cv ∧ d = .int .i64 (j : Int) ∧ j ≤ nl ∧ CI es W2 j sv cv wr) (fun _ d _ => nl - (intOf d).toNat)
  case atStart => exact ⟨0, _, _, rfl, rfl, by omega, hC0⟩
  case round =>
    obtain ⟨j, sv, cv, rfl, rfl, hj, hCI⟩ := hrel
    clear hC0
    by_cases hlt : j < nl
    · have hI : (j : Int) < nl := by omega
      have hLr := (hL.below B2).below (hCI.bel.mono B2.size)
      obtain ⟨g, off, ee, rfl, he, hce, hBe⟩ := hLr.get hlt
      obtain ⟨fs, hl, hbz, hrow, hok⟩ := hCI.cop
      have hcl := copy01F_any ee.sp ee.n ee.cap ee.bs _ wr hBe
      have hzz := hCI.bel.size
      replace he := Hid.mk' he
      replace hl := Hid.mk' hl
      replace hbz := Hid.mk' hbz
      replace hok := Hid.mk' hok
      clear hR8 hR9
      go_wp2_with (first
        | (go_at_call 22; go_must (refine hcl.mono ?_; rintro r w1 ⟨s3, c3, rfl, hB1, hf1, hb1⟩; have row1 := (own_same hrow (fun b hb => hb1.block b (own_lt hrow hb))).alloc (.cells #[.slice s3 ee.n c3] 63); have E1 := Arr.new w1 63 #[.slice s3 ee.n c3]; have hz3 := hb1.size; replace hf1 := Hid.mk' hf1))
        | (refine atA (.tmp 31) (.tmp 37) ?_; go_must (refine ap31 (by rfl) (.tmp 31) (.tmp 37) (by rfl) W2.heap.size _ j fs (by rfl) row1 w1.heap.size ⟨s3, ee.n, c3, ee.bs⟩ (by rfl) E1 (by omega) (by simp; omega) ?_; intro v3 W3 h3 hg3 hw3; obtain ⟨sv', cv', rfl, hCI3⟩ := hCI.step he.out hb1 hB1 hf1.out fs hl.out hbz.out hrow hok.out h3 hg3 hw3)))
      go_roundw
      case rel => exact ⟨j + 1, sv', cv', rfl, by go_num, by omega, hCI3⟩
      case measure => simp [intOf]; omega
    · obtain rfl : j = nl := by omega
      have hI : ¬ (j : Int) < j := by omega
      obtain ⟨fs, hbz, hBL⟩ := hCI.bl hln.out hsm
      have S3 := S2.below (hCI.bel.mono (by omega))
      have A3 := A2.below hCI.bel A2.lt
      have T3 := T2.below hCI.bel T2.lt
      have B3 := B2.trans (hCI.bel.mono B2.size)
      have hz3 := hCI.bel.size
      generalize wr = W3 at *
      clear hCI S2 A2 T2 B2
      have hg5 : G5 < W3.heap.size := by omega
      clear hz3 hW2
      replace hbz := Hid.mk' hbz
      go_upto_region 8 with (first
        | (refine atL 30 (.tmp 5) ?_; refine ld30 (by rfl) _ (by rfl) G5 30 (by rfl) ps s1 n c1 h1 h2 T3 ?_)
        | (go_at_call 8; go_must (refine (hR8.out _ _ _ _ _ _ fs hbz.out W3 S3 hBL (Nat.le_refl _)).mono ?_; rintro r w4 ⟨s4, n4, c4, sd4, k4, cd4, rfl, N4, -, -, hb4⟩))
        | (refine atS 30 (.tmp 8) (.tmp 43) ?_; refine st30n (by rfl) _ _ (by rfl) w4 w4.heap.size rfl hzsz R.P s4 n4 c4 (by rfl) (by rfl) hq1 hq2 ?_))
      have hz4 := hb4.size
      have hn4 := N4.le
      have hn4c := N4.ss.outs.le
      have hn4b := N4.ss.outs.big
      have bb4 := alloc_bel' w4 (.cells (stA R.P s4 n4 c4) 30)
      have hp0 : 0 < n4 → ∃ g, s4 = some ⟨g, 0, none⟩ ∧ W3.heap.size ≤ g ∧ g < w4.heap.size ∧ w4.there g 0 (n4 * 2) := own_thereO N4.own
      have hth4 : ∀ g, w4.there g 0 (n4 * 2) → g < w4.heap.size → (w4.alloc (.cells (stA R.P s4 n4 c4) 30)).there g 0 (n4 * 2) := fun g h hg => there_block h (bb4.block g hg)
      have U4 := Arr.new w4 30 (stA R.P s4 n4 c4)
      have b34 := hb4.trans (bb4.mono hz4)
      have hW4 : w4.heap.size < (w4.alloc (.cells (stA R.P s4 n4 c4) 30)).heap.size := by simp
      generalize w4.alloc (.cells (stA R.P s4 n4 c4) 30) = W4 at *
      generalize w4.heap.size = G8 at *
      clear bb4 hb4 N4
      go_wp2_with fail
      go_loopw [11] (fun q wr => ∃ i : Nat, q = .int .i64 (i : Int) ∧ i ≤ n4 ∧ Chg (fun b => 0 < n4 ∧ s4 = some ⟨b, 0, none⟩) W4 wr ∧ (∀ g, W4.there g 0 (n4 * 2) → wr.there g 0 (n4 * 2))) (fun q _ => n4 - (intOf q).toNat)
      case atStart => exact ⟨0, rfl, by omega, Chg.refl _ _, fun _ h => h⟩
      case round =>
        obtain ⟨i, rfl, hi, hch, hth⟩ := hrel
        have hSb : ∀ b, (0 < n4 ∧ s4 = some ⟨b, 0, none⟩) → W3.heap.size ≤ b ∧ b < G8 := fun b ⟨h0, e⟩ => by
          obtain ⟨g, e', a1, a2, -⟩ := hp0 h0
          rw [e] at e'; cases e'
          exact ⟨a1, a2⟩
        have U5 := hch.arr U4 (fun h => by have := hSb _ h; omega)
        have cU := U5.stOut hq1 hq2
        by_cases hlt : i < n4
        · have hI4 : (i : Int) < n4 := by omega
          obtain ⟨g, rfl, hg, hg2', ht⟩ := hp0 (by omega)
          have ht' := hth g (hth4 g ht hg2')
          have ht2 : wr.there g (i * 2) (Ou.arr ⟨98, 0⟩).size := fun t h => by
            have := ht' (i * 2 + t) (by have h : t < 2 := h; omega)
            rwa [Nat.zero_add] at this
          replace hp0 := Hid.mk' hp0
          replace hSb := Hid.mk' hSb
          clear hR8 hR9
          go_wp2_with (first
            | (refine atB 66 ?_; refine bdT (by rfl) 66 #[(0, .const (.int .u64 98))] (by rfl) (by rfl) hb98 ?_)
            | (refine atS 66 (.tmp 57) (.tmp 56) ?_; refine wpList_store_mid (by rfl) 66 (.tmp 57) (.tmp 56) (by rfl) g (i * 2) (Ou.arr ⟨98, 0⟩) (by rfl) (by rfl) ht2 (s53 _) (Ou.oneA _) ?_))
          go_roundw
          case rel => exact ⟨i + 1, by go_num, by omega, Chg.setCells _ hch (fun _ => ⟨by omega, rfl⟩), fun g' h' => World.there_setCells (hth g' h') _ _ _⟩
          case measure => simp [intOf]; omega
        · obtain rfl : i = n4 := by omega
          have hI4 : ¬ (i : Int) < i := by omega
          have b45 : Below W3.heap.size W4 wr := hch.below (fun i hi => ⟨by omega, fun h => by have := hSb _ h; omega⟩)
          have b35 := b34.trans b45
          generalize wr = W5 at *
          have S5 := S3.below (b35.mono (by omega))
          have A5 := A3.below b35 A3.lt
          have T5 := T3.below b35 T3.lt
          have B5 := B3.trans (b35.mono B3.size)
          have L5 := hBL.below b35
          have hz5 := b35.size
          clear b34 b45 hth hth4 hch hSb hp0 U4 S3 A3 T3 B3 b35 U5
          have tok5 : Hid (0 = 0) := Hid.mk' rfl
          go_wp2_with (first
            | (refine atL 30 (.tmp 5) ?_; refine ld30 (by rfl) _ (by rfl) G5 30 (by rfl) ps s1 n c1 h1 h2 T5 ?_)
            | (go_at_call 18; have htok := tok5; go_must (refine (all_any ps _ s1 n c1 os _ _ _ _ fs _ S5 L5 hz5).mono ?_; rintro r w6 ⟨f, lb, rfl, hAG, hb6⟩)))
          have S6 := S5.below (hb6.mono (by omega))
          have A6 := A5.below hb6 A5.lt
          have T6 := T5.below hb6 T5.lt
          have B6 := B5.trans (hb6.mono B5.size)
          have L6 := L5.below (hb6.mono (by omega))
          have hz6 := hb6.size
          clear S5 A5 T5 B5 L5 hb6 cU hn4c hn4b tok5
          have hrok6 : ∀ k, RnOK (rnA ps os (bzs fs) k) := by rw [hbz.out]; exact hrok
          refine (wpIn_wide (n := 9)).1 ?_
          refine range_all w6.heap.size rfl ps n os j fs f lb hAG rfl hrok6 ?rnd ?fin
          case rnd =>
            intro k C U hBU hTU hsU m
            have hR := hrok6 k
            have hp1 := hR.a32
            have hp2 : ∀ a ∈ (rnA ps os (bzs fs) k).P, a.lk.length = 32 := fun a ha => (hR.ok a ha).l32
            have hC : C.size = 1089 := by
              obtain ⟨s, nt, c, rfl, -⟩ := hTU
              exact stA_size hp1 hp2
            have hC1 : C.all (·.oneCell') = true := by
              obtain ⟨s, nt, c, rfl, -⟩ := hTU
              exact stA_one _ _ _ _
            clear hR8 hR9 hrok hrok6 S6 A6 T6 B6 L6 hAG
            gi_wp2_with (refine atSi 30 (.tmp 14) (.tmp 65) ?_; refine stBnr (by rfl) 30 1089 _ _ (by rfl) U U.heap.size 30 rfl C (by rfl) (by rfl) hC hC1 hzsz size30N ?_)
            refine ⟨alloc_bel' U _, fun w2 hb2 hk2 hs2 hB2 hT2 => ?_⟩
            have E2 : Arr w2 U.heap.size 30 C := (hk2 _ (by omega)).trans (Arr.new U 30 C)
            simp only [World.size_alloc] at hs2
            obtain ⟨s, nt, c, rfl, hnt, hnt3, hown⟩ := hT2
            have hp0 : 0 < nt → ∃ g, s = some ⟨g, 0, none⟩ ∧ w6.heap.size + 2 ≤ g ∧ g < w2.heap.size ∧ w2.there g 0 (nt * 2) := own_thereO hown
            have hoo' := own_other hown E2 (by omega)
            have hOS := os_own hown hnt.out (by omega) hR.ou
            have hntc := hOS.le
            have hntb := hOS.big
            clear hOS hR
            have hSb : ∀ b, (0 < nt ∧ s = some ⟨b, 0, none⟩) → w6.heap.size + 2 ≤ b ∧ b ≠ U.heap.size ∧ RA (stA (rnA ps os (bzs fs) k).P s nt c) b := fun b ⟨h0, e⟩ => by
              obtain ⟨g, e', a1, a2, -⟩ := hp0 h0
              refine ⟨?_, hoo' b (by rw [e]; rfl), RA_mk hp1 hp2 e⟩
              rw [e] at e'; cases e'
              exact a1
            clear hTU hBU hown hoo' hk2 hb2
            gi_wp2
            gi_loopw [15] (fun q wr => ∃ i : Nat, q = .int .i64 (i : Int) ∧ i ≤ nt ∧ Chg (fun b => 0 < nt ∧ s = some ⟨b, 0, none⟩) w2 wr ∧ (∀ g, w2.there g 0 (nt * 2) → wr.there g 0 (nt * 2))) (fun q _ => nt - (intOf q).toNat)
            case atStart => exact ⟨0, rfl, by omega, Chg.refl _ _, fun _ h => h⟩
            case round =>
              obtain ⟨i', rfl, hi', hch, hth⟩ := hrel
              have U5 := hch.arr E2 (fun h => (hSb _ h).2.1 rfl)
              have cU := U5.stOut hp1 hp2
              by_cases hlt : i' < nt
              · have hI4 : (i' : Int) < nt := by omega
                obtain ⟨g, rfl, hg, hg2', ht⟩ := hp0 (by omega)
                have ht' := hth g ht
                have ht2 : wr.there g (i' * 2) (Ou.arr ⟨97, 0⟩).size := fun t h => by
                  have := ht' (i' * 2 + t) (by have h : t < 2 := h; omega)
                  rwa [Nat.zero_add] at this
                replace hp0 := Hid.mk' hp0
                replace hSb := Hid.mk' hSb
                gi_wp2_with (first
                  | (refine atBi 66 ?_; refine bdTi (by rfl) 66 #[(0, .const (.int .u64 97))] (by rfl) (by rfl) hb97 ?_)
                  | (refine atSi 66 (.tmp 77) (.tmp 76) ?_; refine stMi (by rfl) 66 (.tmp 77) (.tmp 76) (by rfl) g (i' * 2) (Ou.arr ⟨97, 0⟩) (by rfl) (by rfl) ht2 (s53 _) (Ou.oneA _) ?_))
                go_roundw
                case rel => exact ⟨i' + 1, by go_num, by omega, Chg.setCells _ hch (fun _ => ⟨by omega, rfl⟩), fun g' h' => World.there_setCells (hth g' h') _ _ _⟩
                case measure => simp [intOf]; omega
              · obtain rfl : i' = nt := by omega
                have hI4 : ¬ (i' : Int) < i' := by omega
                gi_wp2
                exact ⟨hB2.trans (hch.below (fun x hx => ⟨by omega, fun h => by have := (hSb _ h).1; omega⟩)), by have := hch.size; omega, fun b hb1 hb2 hr => hch.block b (by omega) (fun h => hr (hSb _ h).2.2)⟩
          case fin =>
            intro X6 bX zX dX
            have S7 := S6.below (bX.mono (by omega))
            have A7 := A6.below bX A6.lt
            have T7 := T6.below bX T6.lt
            have B7 := B6.trans (bX.mono B6.size)
            have L7 := L6.below (bX.mono (by omega))
            clear S6 A6 T6 B6 L6 bX hAG hrok6
            go_wp2_with fail
            go_loopw [16] (fun q wr => ∃ i : Nat, q = .int .i64 (i : Int) ∧ i ≤ j ∧ Below X6.heap.size X6 wr) (fun q _ => j - (intOf q).toNat)
            case atStart => exact ⟨0, rfl, by omega, Below.refl _ _⟩
            case round =>
              obtain ⟨i', rfl, hi', hb⟩ := hrel
              by_cases hlt : i' < j
              · have hI4 : (i' : Int) < j := by omega
                have La := (hL.below B7).below (hb.mono B7.size)
                have Lb := L7.below (hb.mono (by omega))
                obtain ⟨g, off, ea, rfl, hea, hca, hBa⟩ := La.get hlt
                obtain ⟨g', off', eb, rfl, heb, hcb, hBb⟩ := Lb.get hlt
                have hq := bzs_eq hbz.out hea heb
                rw [hq] at hBb
                replace hea := Hid.mk' hea
                replace heb := Hid.mk' heb
                clear hR8 hR9 hrok
                go_wp2_with fail
                go_quiet ((go_at_call 23; exact Calls.quiet_of_same (same01_self _ _ _ _ _ _ ea.bs _ _ _ (hBb.below (below_drewN (Below.refl _ _) _)) (hBa.below (below_drewN (Below.refl _ _) _)))))
                go_wp2_with fail
                go_roundw
                case rel => exact ⟨i' + 1, by go_num, by omega, below_drewN hb _⟩
                case measure => simp [intOf]; omega
              · obtain rfl : j = i' := by omega
                have hI4 : ¬ (j : Int) < j := by omega
                have hzr := hb.size
                have S8 := S7.below (hb.mono (by omega))
                have A8 := A7.below hb A7.lt
                have T8 := T7.below hb T7.lt
                have B8 := B7.trans (hb.mono B7.size)
                have L8 := L7.below (hb.mono (by omega))
                have M8 : wr.heap[w6.heap.size]? = some (.deferred (some [])) := (hb.block _ (by omega)).trans dX
                have h68 : w6.heap.size < wr.heap.size := by omega
                have h38 : W3.heap.size ≤ wr.heap.size := by omega
                have hw6 : w.heap.size ≤ w6.heap.size := by have := B7.size; omega
                clear S7 A7 T7 B7 L7 dX hb zX hzr
                generalize wr = W8 at *
                generalize w6.heap.size = D6 at *
                go_upto_region 27 with (first
                  | (refine atL 30 (.tmp 5) ?_; refine ld30 (by rfl) _ (by rfl) G5 30 (by rfl) ps s1 n c1 h1 h2 T8 ?_)
                  | (go_at_call 8; go_must (refine (hR8.out _ _ _ _ _ _ fs hbz.out W8 S8 L8 h38).mono ?_; rintro r w9 ⟨s9, n9, c9, sd9, k9, cd9, rfl, N9, -, -, hb9⟩))
                  | (refine atS 30 (.tmp 17) (.tmp 98) ?_; refine st30n (by rfl) _ _ (by rfl) w9 w9.heap.size rfl hzsz R.P s9 n9 c9 (by rfl) (by rfl) hq1 hq2 ?_))
                have hz9 := hb9.size
                have bb9 := alloc_bel' w9 (.cells (stA R.P s9 n9 c9) 30)
                have b89 := hb9.trans (bb9.mono hz9)
                have V9 := Arr.new w9 30 (stA R.P s9 n9 c9)
                have Q9 := N9.ss.below bb9
                have S9 := S8.below (b89.mono (by omega))
                have A9 := A8.below b89 A8.lt
                have T9 := T8.below b89 T8.lt
                have B9 := B8.trans (b89.mono B8.size)
                have M9 := (b89.block _ h68).trans M8
                have hW9 : w9.heap.size < (w9.alloc (.cells (stA R.P s9 n9 c9) 30)).heap.size := by simp
                generalize w9.alloc (.cells (stA R.P s9 n9 c9) 30) = W9 at *
                generalize w9.heap.size = G17 at *
                clear S8 A8 T8 B8 L8 M8 hb9 bb9 b89 N9
                go_upto_region 28 with (first
                  | (refine atL 30 (.tmp 2) ?_; refine ld30 (by rfl) _ (by rfl) w.heap.size 30 (by rfl) ps sp n cap h1 h2 A9 ?_)
                  | (go_at_call 9; go_must (refine (hR9.out _ B9).mono ?_; rintro r w10 ⟨s10, n10, c10, sd10, k10, cd10, rfl, N10, -, -, hb10⟩))
                  | (refine atS 30 (.tmp 20) (.tmp 105) ?_; refine st30n (by rfl) _ _ (by rfl) w10 w10.heap.size rfl hzsz R.P s10 n10 c10 (by rfl) (by rfl) hq1 hq2 ?_))
                have hz10 := hb10.size
                have bb10 := alloc_bel' w10 (.cells (stA R.P s10 n10 c10) 30)
                have b9a := hb10.trans (bb10.mono hz10)
                have X10 := Arr.new w10 30 (stA R.P s10 n10 c10)
                have Q10 := N10.ss.below bb10
                have Q9a := Q9.below (b9a.mono (by omega))
                have S10 := S9.below (b9a.mono (by omega))
                have A10 := A9.below b9a A9.lt
                have T10 := T9.below b9a T9.lt
                have V10 := V9.below b9a V9.lt
                have B10 := B9.trans (b9a.mono B9.size)
                have M10 := (b9a.block _ (by omega)).trans M9
                have hW10 : w10.heap.size < (w10.alloc (.cells (stA R.P s10 n10 c10) 30)).heap.size := by simp
                generalize w10.alloc (.cells (stA R.P s10 n10 c10) 30) = W10 at *
                generalize w10.heap.size = G20 at *
                clear S9 A9 T9 B9 V9 Q9 M9 hb10 bb10 b9a N10
                have tok : Hid (0 = 0) := Hid.mk' rfl
                go_wp2_with (first
                  | (go_at_call 15; go_must (refine (anchored_any _).mono ?_; rintro r w11 ⟨rfl, hb11⟩; have hz11 := hb11.size; have B11 := B10.trans (hb11.mono B10.size); have A11 := A10.below hb11 A10.lt; have T11 := T10.below hb11 T10.lt; have V11 := V10.below hb11 V10.lt; have X11 := X10.below hb11 X10.lt; have S11 := S10.below (hb11.mono (by omega)); have Q9b := Q9a.below (hb11.mono (by omega)); have Q10b := Q10.below (hb11.mono (by omega)); have M11 := (hb11.block _ (by omega)).trans M10))
                  | (refine atL 30 (.tmp 2) ?_; refine ld30g (by rfl) _ (by rfl) w.heap.size 30 (by rfl) ps sp n cap h1 h2 A11 ?_)
                  | (refine atL 30 (.tmp 5) ?_; refine ld30g (by rfl) _ (by rfl) G5 30 (by rfl) ps s1 n c1 h1 h2 T11 ?_)
                  | (refine atL 30 (.tmp 17) ?_; refine ld30g (by rfl) _ (by rfl) G17 30 (by rfl) R.P s9 n9 c9 hq1 hq2 V12 ?_)
                  | (refine atL 30 (.tmp 20) ?_; refine ld30g (by rfl) _ (by rfl) G20 30 (by rfl) R.P s10 n10 c10 hq1 hq2 X12 ?_)
                  | (go_at_call 10; (first
                    | (have hzz := tok; clear tok hzz; refine (refSsame_any ps _ sp n cap os ps _ s1 n c1 os _ (hS.below B11) S11).mono ?_; rw [hs0.out]; rintro r w12 ⟨rfl, hb12⟩; have hz12 := hb12.size; have B12 := B11.trans (hb12.mono B11.size); have V12 := V11.below hb12 V11.lt; have X12 := X11.below hb12 X11.lt; have Q9c := Q9b.below (hb12.mono (by omega)); have Q10c := Q10b.below (hb12.mono (by omega)); have M12 := (hb12.block _ (by omega)).trans M11)
                    | (refine (refSsame_any R.P _ s9 n9 c9 R.O R.P _ s10 n10 c10 R.O _ Q9c Q10c).mono ?_; rw [hsR.out]; rintro r w13 ⟨rfl, hb13⟩; have B13 := B12.trans (hb13.mono B12.size); have M13 := (hb13.block _ (by omega)).trans M12))))
                refine ⟨by simp, .inl ⟨_, _, rfl, run_takeDeferred M13, ?_⟩⟩
                exact ⟨_, results_tmp rfl _ _ _, rfl, bel_put B13 hw6 _⟩
end Go.Proofs.Ytbhhbkoikocjgaa
/- Layer spec: an input of three values; what came in. -/
namespace Go.Proofs.Ytbhhbkoikocjgaa
set_option linter.unusedSectionVars false
set_option maxHeartbeats 1000000
open Go.RowKit
set_option maxRecDepth 100000
set_option linter.unusedVariables false
set_option linter.unusedSimpArgs false


variable [DecidableEq Ac] [DecidableEq Ou] [DecidableEq Mg]
theorem okIn3 {P : Program} {w : World} {f : FuncId} {fn : Func} {t0 t1 t2 : TypeId} {v0 v1 v2 : Value} (hf : P.funcs[f]? = some fn) (hi : (P.inits.idxOf? f).isNone = true) (hb : (fn.body.isSome && !fn.ours && fn.nfree == 0) = true) (hp : fn.params = #[t0, t1, t2]) (h0 : Value.okWideB P w t0 v0 = true) (h1 : Value.okWideB P w t1 v1 = true) (h2 : Value.okWideB P w t2 v2 = true) : Input.okWideB P w f ⟨#[], #[v0, v1, v2], []⟩ = true := by
  unfold Input.okWideB
  simp only [hf, hp]
  rw [hi]
  simp only [Bool.and_eq_true] at hb
  simp [List.range_succ, h0, h1, h2, hb.1.1, hb.1.2, hb.2]
end Go.Proofs.Ytbhhbkoikocjgaa
/- Layer spec: what the layers below give. -/
namespace Go.Proofs.Ytbhhbkoikocjgaa
set_option linter.unusedSectionVars false
set_option maxHeartbeats 1000000
open Go.ChangeAt Go.ChangeShapes Go.RowKit Go.WideShapes
set_option maxRecDepth 100000
set_option linter.unusedVariables false
set_option linter.unusedSimpArgs false

variable [DecidableEq Ac] [DecidableEq Ou] [DecidableEq Mg]
theorem laidOut : laidOutB Try.prog = true := by kernel_rfl
section
variable {H : Type} {enc : TypeId × Value → H} {W : World} {base : Nat}
/-- AN ACCOUNT THAT CAME IN. -/
theorem open_acc {b0 : Nat} {v : Value} {d : DataW H} {p : List MemPlace}
    (hv : Value.okWide Try.prog W .any b0 26 v) (h : DataW.Trod enc Try.prog W base (fun _ => true) true 26 v d p) :
    ∃ a : Ac, v = .agg a.arr ∧ AcOK a := by
  unfold Value.okWide at hv
  rw [Try.underlying26] at hv
  obtain ⟨cs, rfl, hc, -⟩ := hv
  obtain ⟨fuel, hf⟩ := h
  obtain ⟨a, e, h⟩ := ac_of_trod _ _ _ hf
  refine ⟨a, ?_, h⟩
  congr 1
  apply Array.toList_inj.1
  exact e
end
end Go.Proofs.Ytbhhbkoikocjgaa
