/- Aq, Ar, W4, W6. -/
import Derived.Test.YtneihkegipcakaaGreatX01
import Derived.Test.YtneihkegipcakaaGreatX02
import Derived.Test.YtneihkegipcakaaGreatX03
import Derived.Test.YtneihkegipcakaaGreatX05
import Derived.Test.YtneihkegipcakaaGreatX06
import Derived.Test.YtneihkegipcakaaGreatX20
import Derived.Test.YtneihkegipcakaaGreatX21
import Derived.Test.YtneihkegipcakaaGreatX22
import Derived.BigQuiet
import Derived.BigRegion
import Derived.ChangeKeysEq
import Derived.ChangeOld
import Derived.Deep.DeepCutAuto
import Derived.Deep.DrawnRows
import Derived.Deep.MidRow
import Derived.Deep.OwnRows
import Derived.Deep.QuietTactic
import Derived.Deep.RegionHeld3
import Derived.Deep.RegionLaw
import Derived.Deep.RegionWith
import Derived.Deep.WholeRow
import Derived.DeepKeys3
import Derived.Great.BuildSlice
import Derived.Great.FillDense
import Derived.Laws.AppendOwnNone
import Derived.Laws.BitsLemmas
import Derived.Laws.BytesArg
import Derived.Laws.CopyOwn
import Derived.Laws.CopyRow
import Derived.Laws.DeepBits32
import Derived.Laws.MakeOwn
import Derived.Laws.OwnMore
import Derived.Laws.ResultCell
import Derived.Laws.Tables
import Derived.Lib.AppendZeros
import Derived.Lib.SlBytesConst
import Derived.LoopIn
import Derived.LoopNIn
import Derived.Maps.AppendAt
import Derived.OpenShut
import Derived.OwnWalkIn
import Derived.ProofKit
import Derived.RangeFuncBound
import Derived.RangeFuncCalls
import Derived.RangeFuncLeaves
import Derived.RangeFuncNested
import Derived.RangeFuncRecord
import Derived.Recover
import Derived.Shelf.Abstract
import Derived.Shelf.RegionOpen
import Derived.ShutString
import Derived.SizedLaws
import Derived.TacticsInMore
import Derived.WalkKit
import Derived.WalkLawsBesides
import Derived.WalkSpells
import Derived.Test.YtneihkegipcakaaGreatX04
import Derived.Test.YtneihkegipcakaaGreatX08
import Derived.Test.YtneihkegipcakaaGreatX19
/- Layer trace: what the layers below give. -/
namespace Go.Proofs.YtneihkegipcakaaGreat
open Go.RowKit
set_option maxRecDepth 100000
set_option linter.unusedVariables false
set_option linter.unusedSimpArgs false

set_option maxHeartbeats 2000000 in
theorem refParts_ok (pc : Int) (rg : List Int) (s d : Int) (R : List Int) (w : World) (hrg : rg.length = 16) (hR : R.length = 32) (hs : 0 ≤ s ∧ s < 256) (hd : 0 ≤ d ∧ d ≤ 12) (hs2 : s ≤ 2) : Calls Tryz.prog 43 #[.int .u64 pc, .agg (rgA rg), .int .u8 s, .int .i64 d, .agg (h8 R)] w fun e w' => e = .returned (.tuple #[.agg (h8 (cmt pc rg s d R)), .int .i64 0]) ∧ Below w.heap.size w w' := by
  have hs3 : ¬ 2 < s := by omega
  have hd1 : ¬ d < 0 := by omega
  have hd2 : ¬ 12 < d := by omega
  have hd8 : d % 256 = d := by omega
  have hd8' : IntKind.u8.wrap d = d := by simp [IntKind.wrap, IntKind.bits, IntKind.signed]; omega
  have hlen := cmB_len (pc := pc) (s := s) (d := d) hrg hR
  have hsum := fun (sp : Option Addr) (c : Nat) (U : World) (h1 : sp = none → 171 = 0 ∧ c = 0) (h2 : SlL U sp (cmB pc rg s d R)) => refSum_any sp 171 c (cmB pc rg s d R) U hlen.symm h1 h2 (by omega)
  simp only [sha_h8] at hsum
  have hC32 : (cmt pc rg s d R).length = 32 := shl_len _
  rw [show shl (cmB pc rg s d R) = cmt pc rg s d R from rfl] at hsum
  have hcm : Hid (([2] ++ e8 pc ++ rg.flatMap e8) ++ [s, d] ++ R = cmB pc rg s d R) := Hid.mk' rfl
  generalize cmt pc rg s d R = CC at *
  generalize cmB pc rg s d R = BB at *

  have A0 := ((Arr.new w 23 (rgA rg)).alloc (.cells (h8 R) 40)).alloc (.cells (h8 Z32) 40)
  have A1 := (Arr.new (w.alloc (.cells (rgA rg) 23)) 40 (h8 R)).alloc (.cells (h8 Z32) 40)
  have A2 := Arr.new ((w.alloc (.cells (rgA rg) 23)).alloc (.cells (h8 R) 40)) 40 (h8 Z32)
  simp only [World.size_alloc] at A1 A2
  have hb0 : Below w.heap.size w (((w.alloc (.cells (rgA rg) 23)).alloc (.cells (h8 R) 40)).alloc (.cells (h8 Z32) 40)) := ((alloc_bel' w _).alloc (by simp) _).alloc (by simp; omega) _
  rw [h8_Z] at A0 A1 A2 hb0
  have hat := fun (k : Nat) (hk : k < 16) => rgA_at (rg := rg) (k := k) (by omega)
  generalize hCg : rgA rg = CR at *
  clear hCg
  go_enter Tryz.func43, Tryz.ntmps43
  go_upto_region 3 with fail
  generalize hV : World.alloc _ (.cells _ 40) = V at *
  have hVs : w.heap.size + 3 ≤ V.heap.size := by rw [← hV]; simp
  clear hV
  have hlit : (V.alloc (.cells #[.int .u8 2] 5)).ownsRow V.heap.size 5 1 (.slice (some ⟨V.heap.size, 0, none⟩) 1 1) 1 (by8 [2]) := World.ownsRow_lit _ _ _ (Nat.le_refl _) (by unfold maxLen; omega) rfl
  have hBl := alloc_bel' V (.cells #[.int .u8 2] 5)
  go_upto_region 4 with (first
    | (go_at_call 71; go_must (refine (eight_any pc _).mono ?_; rintro e w2 ⟨v2, rfl, hown2, hb2⟩; obtain ⟨g2, c2, rfl, -, hc2, hgb2, hSl2⟩ := sl_of_own hown2 (by omega); have hB2 := hBl.trans (hb2.mono (by simp)); have hlit2 := own_same hlit (fun k hk => hb2.block k (own_lt hlit hk))))
    | (refine atA (.tmp 25) (.tmp 27) ?_; go_must (refine append_bytes (by rfl) (.tmp 25) (.tmp 27) (by rfl) V.heap.size _ 1 [2] (by rfl) hlit2 (some ⟨g2, 0, none⟩) 8 c2 (e8 pc) (by rfl) (by rw [e8_len]) (fun h => by cases h) hSl2 (by omega) hB2.size ?_; intro v3 w3 hown3 hg3; have hB3 : Below V.heap.size V w3 := hB2.grown hg3 hB2.size (fun k e => own_ge hlit2 k e))))
  clear hlit hBl hlit2 hown2 hb2 hSl2 hB2 hg3
  go_wp2_with fail
  go_loopw [12, 13] (fun v q wr => ∃ (j k : Nat), q = .int .i64 (j : Int) ∧ j ≤ 16 ∧ Hid (k = 9 + 8 * j) ∧ Below V.heap.size V wr ∧ wr.ownsRow V.heap.size 5 1 v k (by8 ([2] ++ e8 pc ++ (rg.take j).flatMap e8))) (fun _ q _ => 16 - (intOf q).toNat)
  case atStart => exact ⟨0, 9, rfl, by omega, Hid.mk' rfl, hB3, by simpa using hown3⟩
  case round =>
    clear hown3 hB3
    obtain ⟨j, k, rfl, hj, hk, hbl, hown⟩ := hrel
    have hbs := hbl.size
    by_cases hlt : j < 16
    · have hI : (j : Int) < 16 := by omega
      have hcj := ((A0.below hbl A0.lt).cell j).trans (hat j hlt)
      clear hat
      have hft : Hid ([2] ++ e8 pc ++ (rg.take (j + 1)).flatMap e8 = [2] ++ e8 pc ++ (rg.take j).flatMap e8 ++ e8 (rg.getD j 0)) := Hid.mk' (by rw [flatMap_take (by omega)]; simp only [List.append_assoc])
      generalize rg.getD j 0 = y at *
      have hk10 : k ≤ 1000 := by have := hk.out; omega
      generalize [2] ++ e8 pc ++ (rg.take j).flatMap e8 = B0 at *
      go_wp2_with (first
        | (go_at_call 71; go_must (refine (eight_any y _).mono ?_; rintro e w4 ⟨v4, rfl, hown4, hb4⟩; obtain ⟨g4, c4, rfl, -, hc4, hgb4, hSl4⟩ := sl_of_own hown4 (by omega); have hB4 := hbl.trans (hb4.mono hbs); have own4 := own_same hown (fun k hk => hb4.block k (own_lt hown hk))))
        | (refine atA (.tmp 33) (.tmp 37) ?_; go_must (refine append_bytes (by rfl) (.tmp 33) (.tmp 37) (by rfl) V.heap.size _ k B0 (by rfl) own4 (some ⟨g4, 0, none⟩) 8 c4 (e8 y) (by rfl) (by rw [e8_len]) (fun h => by cases h) hSl4 (by omega) hB4.size ?_; intro v5 w5 hown5 hg5; have hB5 : Below V.heap.size V w5 := hB4.grown hg5 hB4.size (fun k e => own_ge own4 k e))))
      go_roundw
      case rel => exact ⟨j + 1, k + 8, by go_num, by omega, Hid.mk' (by have := hk.out; omega), hB5, by rw [hft.out]; exact hown5⟩
      case measure => simp [intOf]; omega
    · obtain rfl : j = 16 := by omega
      have hI : ¬ ((16 : Nat) : Int) < 16 := by omega
      obtain rfl : k = 137 := hk.out
      rw [List.take_of_length_le (by omega)] at hown
      generalize [2] ++ e8 pc ++ rg.flatMap e8 = B0 at *
      clear hk hat
      go_wp2_with (first
        | (refine atA (.tmp 39) (.tmp 43) ?_; go_must (refine append_bytes (by rfl) (.tmp 39) (.tmp 43) (by rfl) V.heap.size _ 137 B0 (by rfl) (hown.alloc _) (some ⟨wr.heap.size, 0, none⟩) 2 2 [s, d] (by rfl) (by rfl) (fun h => by cases h) (Arr.sl (Arr.new wr 5 _)) (by omega) (by simp; omega) ?_; intro v5 w5 hown5 hg5; have hB5 : Below V.heap.size V w5 := (hbl.alloc hbs _).grown hg5 (by simp; omega) (fun k e => own_ge hown k e); have Q15 := A1.below hB5 A1.lt; have Q25 := A2.below hB5 A2.lt))
        | (refine atA (.tmp 45) (.tmp 46) ?_; go_must (refine append_bytes (by rfl) (.tmp 45) (.tmp 46) (by rfl) V.heap.size _ 139 (B0 ++ [s, d]) (by rfl) hown5 (some ⟨w.heap.size + 1, 0, none⟩) 32 32 R (by rfl) hR.symm (fun h => by cases h) (h8_sl Q15) (by omega) hB5.size ?_; intro v6 w6 hown6 hg6; rw [hcm.out] at hown6; have hB6 : Below V.heap.size V w6 := hB5.grown hg6 hB5.size (fun k e => own_ge hown5 k e); have Q26 := A2.below hB6 A2.lt; obtain ⟨g6, c6, rfl, -, hc6, -, hSl6⟩ := sl_of_own hown6 (by omega)))
        | (go_at_call 72; go_must (refine (hsum _ _ _ (fun h => by cases h) hSl6).mono ?_; rintro e w7 ⟨rfl, hb7⟩; have Q27 := Q26.below hb7 Q26.lt; have hB7 := hB6.trans (hb7.mono hB6.size)))
        | (refine st24 (by rfl) _ _ (by rfl) (w.heap.size + 1 + 1) CC Z32 (by rfl) (by rfl) hC32 Z32_len Q27 ?_))
      exact bodyPost_ret (v := .tuple #[.agg (h8 CC), .int .i64 0]) (resP Tryz.results43 rfl rfl hC32 (Q27.setRow _)) rfl ⟨rfl, below_setRow (hb0.trans (hB7.mono (by omega))) (by omega) _⟩
theorem parts_any (pc : Int) (rg : List Int) (s d : Int) (R : List Int) (w : World) (hrg : rg.length = 16) (hR : R.length = 32) (hs : 0 ≤ s ∧ s < 256) : Calls Tryz.prog 85 #[.int .u64 pc, .agg (rgA rg), .int .u8 s, .int .i64 d, .agg (h8 R)] w fun e w' => e = .returned (.tuple #[.agg (h8 (cmR pc rg s d R)), .int .i64 (cmE s d)]) ∧ Below w.heap.size w w' := by
  unfold cmR cmE
  by_cases h : 0 ≤ d ∧ d ≤ 12
  · by_cases h2 : s ≤ 2
    · rw [if_pos (show cOK s d from ⟨h.1, h.2, h2⟩), if_pos (show cOK s d from ⟨h.1, h.2, h2⟩)]; exact parts_ok pc rg s d R w hrg hR hs h h2
    · rw [if_neg (fun hh : cOK s d => h2 hh.2.2), if_neg (fun hh : cOK s d => h2 hh.2.2)]; exact parts_no2 pc rg s d R w hrg hR hs h h2
  · rw [if_neg (fun hh : cOK s d => h ⟨hh.1, hh.2.1⟩), if_neg (fun hh : cOK s d => h ⟨hh.1, hh.2.1⟩)]; exact parts_no1 pc rg s d R w hrg hR hs h
theorem refParts_any (pc : Int) (rg : List Int) (s d : Int) (R : List Int) (w : World) (hrg : rg.length = 16) (hR : R.length = 32) (hs : 0 ≤ s ∧ s < 256) : Calls Tryz.prog 43 #[.int .u64 pc, .agg (rgA rg), .int .u8 s, .int .i64 d, .agg (h8 R)] w fun e w' => e = .returned (.tuple #[.agg (h8 (cmR pc rg s d R)), .int .i64 (cmE s d)]) ∧ Below w.heap.size w w' := by
  unfold cmR cmE
  by_cases h : 0 ≤ d ∧ d ≤ 12
  · by_cases h2 : s ≤ 2
    · rw [if_pos (show cOK s d from ⟨h.1, h.2, h2⟩), if_pos (show cOK s d from ⟨h.1, h.2, h2⟩)]; exact refParts_ok pc rg s d R w hrg hR hs h h2
    · rw [if_neg (fun hh : cOK s d => h2 hh.2.2), if_neg (fun hh : cOK s d => h2 hh.2.2)]; exact refParts_no3 pc rg s d R w hrg hR hs (by omega) (by omega) (by omega)
  · rw [if_neg (fun hh : cOK s d => h ⟨hh.1, hh.2.1⟩), if_neg (fun hh : cOK s d => h ⟨hh.1, hh.2.1⟩)]
    by_cases h0 : d < 0
    · exact refParts_no1 pc rg s d R w hrg hR hs h0
    · exact refParts_no2 pc rg s d R w hrg hR hs h0 (by omega)
end Go.Proofs.YtneihkegipcakaaGreat
/- Layer trace: what the layers below give. -/
namespace Go.Proofs.YtneihkegipcakaaGreat
open Go.RowKit
set_option maxRecDepth 100000
set_option linter.unusedVariables false
set_option linter.unusedSimpArgs false

theorem mcA_rg {w : World} {g ty : Nat} {m : Mc} {sp : Option Addr} {n cap : Nat} (h : Arr w g ty (mcA m sp n cap)) : w.rangeAt g 1 (by64 m.rg) := fun j u hu => by
  rw [h.cell]
  simp only [mcA, mcL, List.getElem?_toArray]
  rw [show 1 + j = j + 1 by omega, List.getElem?_cons_succ, List.getElem?_append_left (List.getElem?_eq_some_iff.1 hu).1]
  exact hu
theorem y58 {ops : Array Oper} {S : World → Prop} {op : Oper} {a : Act} (hw : Region.wanted op (yielded ops a.tmps) = true) (x : Operand) (ho : op.op = .load 23 x)
    (b o : Nat) (hx : a.eval x = .pointer (some ⟨b, o, none⟩)) (rg : List Int) (hX : rg.length = 16) (hS : ∀ w, S w → w.rangeAt b o (by64 rg)) : YieldsIf Tryz.prog ops S op (.agg (rgA rg)) a :=
  yieldsIf_load_mid hw 23 x ho b o hx (by64 rg) _ hS Tryz.underlying23 rfl (by rw [by64_len, hX]; exact size58)
/-- A machine's commitment: what is answered. -/
def coR (m : Mc) : List Int := if mayM m = true then cmt m.pc m.rg m.st (Nat.log2 m.me.length : Nat) (rW m.me) else Z32
def coE (m : Mc) : Int := if mayM m = true then 0 else 2
set_option maxHeartbeats 2000000 in
theorem commit_any (m : Mc) (sp : Option Addr) (n cap : Nat) (N : Nat) (w : World) (hok : m.ok) (hM : MS N w sp n cap m.me) :
    Calls Tryz.prog 53 #[.agg (mcA m sp n cap)] w fun e w' => e = .returned (.tuple #[.agg (h8 (coR m)), .int .i64 (coE m)]) ∧ Below w.heap.size w w' := by
  have A0 := (Arr.new w 27 (mcA m sp n cap)).alloc (.cells (h8 Z32) 40)
  have A1 := Arr.new (w.alloc (.cells (mcA m sp n cap) 27)) 40 (h8 Z32)
  simp only [World.size_alloc] at A1
  have hb0 := (alloc_bel' w (.cells (mcA m sp n cap) 27)).alloc (by simp) (.cells (h8 Z32) 40)
  rw [h8_Z] at A0 A1 hb0
  have hmay := fun U => may_anyV m sp n cap U hok hM.len hM.small
  have hs0 := mcA_size hok.r16 sp n cap
  have e0 := mcA_0 m sp n cap
  have e17 := mcA_17 hok.r16 sp n cap
  have e18 := mcA_18 hok.r16 sp n cap
  have hrg := fun (u : World) (h : Arr u w.heap.size 27 (mcA m sp n cap)) => mcA_rg h
  have hMh := hM.here
  unfold coR coE
  cases hmm : mayM m with
  | false =>
    rw [hmm] at hmay
    rw [if_neg (by decide), if_neg (by decide)]
    generalize mcA m sp n cap = C at *
    clear hmm
    go_enter Tryz.func53, Tryz.ntmps53
    go_wp2_with (first
      | (refine ld45 (by rfl) (.tmp 1) (by rfl) w.heap.size (by rfl) C hs0 A0 ?_)
      | (go_at_call 26; go_must (refine (hmay _).mono ?_; rintro e w1 ⟨rfl, hb1⟩; have A11 := A1.below hb1 A1.lt; have hB1 := hb0.trans (hb1.mono (by simp; omega))))
      | (refine st24 (by rfl) _ _ (by rfl) (w.heap.size + 1) Z32 Z32 (by rfl) (by rfl) Z32_len Z32_len A11 ?_))
    exact bodyPost_ret (v := .tuple #[.agg (h8 Z32), .int .i64 2]) (resP Tryz.results53 rfl rfl Z32_len (A11.setRow _)) rfl ⟨rfl, below_setRow hB1 (by omega) _⟩
  | true =>
    rw [hmm] at hmay
    rw [if_pos rfl, if_pos rfl]
    have hmm' := hmm
    unfold mayM at hmm'
    rw [Bool.and_eq_true, decide_eq_true_eq] at hmm'
    obtain ⟨hsb, hst⟩ := hmm'
    obtain ⟨d, hd, he⟩ := szB_pow hsb
    have hn : Hid (n = 2 ^ d) := Hid.mk' (by rw [hM.len.out, he])
    rw [he, Nat.log2_two_pow]
    have hn4 : n ≤ 4096 := by rw [hn.out]; exact pow12 hd
    have hdep := fun U => depthOf_any d n hd hn U
    have hroot := fun U (h : MS w.heap.size U sp n cap m.me) => rootM_any sp n cap m.me w.heap.size U h hok.me
    rw [(rW_pow hd he).2] at hroot
    have hRl := rW_len m.me
    have hpt := fun U => parts_any m.pc m.rg m.st (d : Nat) (rW m.me) U hok.r16 hRl hok.st
    have hcOK : cOK m.st (d : Nat) := ⟨by omega, by omega, hst⟩
    have hcm : cmR m.pc m.rg m.st (d : Nat) (rW m.me) = cmt m.pc m.rg m.st (d : Nat) (rW m.me) ∧ cmE m.st (d : Nat) = 0 := by unfold cmR cmE; rw [if_pos hcOK, if_pos hcOK]; exact ⟨rfl, rfl⟩
    rw [hcm.1, hcm.2] at hpt
    have hC32 : (cmt m.pc m.rg m.st (d : Nat) (rW m.me)).length = 32 := shl_len _
    generalize cmt m.pc m.rg m.st (d : Nat) (rW m.me) = CC at *
    clear hcm hcOK he hsb hmm
    have h16 := hok.r16
    generalize rW m.me = R at *
    generalize mcA m sp n cap = C at *
    go_enter Tryz.func53, Tryz.ntmps53
    go_upto_region 4 with (first
      | (refine ld45 (by rfl) (.tmp 1) (by rfl) w.heap.size (by rfl) C hs0 A0 ?_)
      | (go_at_call 26; go_must (refine (hmay _).mono ?_; rintro e w1 ⟨rfl, hb1⟩; have A01 := A0.below hb1 A0.lt; have A11 := A1.below hb1 A1.lt; have hB1 := hb0.trans (hb1.mono (by simp; omega)); have c18 := (A01.cell 18).trans e18))
      | (go_at_call 84; go_must (refine (hroot _ (hMh.below hB1)).mono ?_; rintro e w2 ⟨rfl, hb2⟩; have hs2 := hb2.size; have A02 := (A01.below hb2 A01.lt).alloc (.cells (h8 R) 40); have A12 := (A11.below hb2 A11.lt).alloc (.cells (h8 R) 40); have Q2 := Arr.new w2 40 (h8 R); have hB2 := (hB1.trans (hb2.mono (by have := hB1.size; omega))).alloc (by have := hB1.size; omega) (.cells (h8 R) 40)))
      | (refine st24n (by rfl) _ _ (by rfl) w2 w2.heap.size rfl (by rfl) R (by rfl) (by rfl) hRl ?_))
    generalize hV : w2.alloc (.cells (h8 R) 40) = V at *
    clear hV c18
    have hgR : w.heap.size + 2 ≤ w2.heap.size := by have := A11.lt; omega
    generalize w2.heap.size = gR at *
    have hVs := hB2.size
    refine wp_region_held_drew (S := fun u => Arr u w.heap.size 27 C ∧ Arr u gR 40 (h8 R)) (by kernel_rfl) ⟨A02, Q2⟩ (fun hHeld => ?_)
    refine wpAnyH_take (i := 0) (oi := ⟨_, _, _, _, _, _⟩) (v := ?_) rfl (by kernel_rfl) (by kernel_rfl) (by kernel_rfl) (fun _ _ _ h => h) (Or.inl ⟨by rfl, ?_⟩) (by assumption) ?_
    rotate_left
    · intro u hSw
      go_simp
      try (with_reducible rfl)
    try simp only [Act.put, List.setIfInBounds_toArray, List.set_cons_zero, List.set_cons_succ]
    refine wpAnyH_take (i := 1) (oi := ⟨_, _, _, _, _, _⟩) (v := ?_) rfl (by kernel_rfl) (by kernel_rfl) (by kernel_rfl) (fun _ _ _ h => h) (Or.inl ⟨by rfl, ?_⟩) (by assumption) ?_
    rotate_left
    · intro u hSw
      have hc := (hSw.1.cell 0).trans e0
      go_simp
      try (with_reducible rfl)
    try simp only [Act.put, List.setIfInBounds_toArray, List.set_cons_zero, List.set_cons_succ]
    refine wpAnyH_take (i := 2) (oi := ⟨_, _, _, _, _, _⟩) (v := ?_) rfl (by kernel_rfl) (by kernel_rfl) (by kernel_rfl) (fun _ _ _ h => h) (Or.inl ⟨by rfl, ?_⟩) (by assumption) ?_
    rotate_left
    · intro u hSw
      go_simp
      try (with_reducible rfl)
    try simp only [Act.put, List.setIfInBounds_toArray, List.set_cons_zero, List.set_cons_succ]
    refine wpAnyH_take (i := 3) (oi := ⟨_, _, _, _, _, _⟩) rfl (by kernel_rfl) (by kernel_rfl) (by kernel_rfl) (fun _ _ _ h => h) (y58 (by rfl) (.tmp 18) rfl w.heap.size 1 rfl m.rg h16 (fun u hu => hrg u hu.1)) (by assumption) ?_
    try simp only [Act.put, List.setIfInBounds_toArray, List.set_cons_zero, List.set_cons_succ]
    refine wpAnyH_take (i := 4) (oi := ⟨_, _, _, _, _, _⟩) (v := ?_) rfl (by kernel_rfl) (by kernel_rfl) (by kernel_rfl) (fun _ _ _ h => h) (Or.inl ⟨by rfl, ?_⟩) (by assumption) ?_
    rotate_left
    · intro u hSw
      go_simp
      try (with_reducible rfl)
    try simp only [Act.put, List.setIfInBounds_toArray, List.set_cons_zero, List.set_cons_succ]
    refine wpAnyH_take (i := 5) (oi := ⟨_, _, _, _, _, _⟩) (v := ?_) rfl (by kernel_rfl) (by kernel_rfl) (by kernel_rfl) (fun _ _ _ h => h) (Or.inl ⟨by rfl, ?_⟩) (by assumption) ?_
    rotate_left
    · intro u hSw
      have hc := (hSw.1.cell 17).trans e17
      go_simp
      try (with_reducible rfl)
    try simp only [Act.put, List.setIfInBounds_toArray, List.set_cons_zero, List.set_cons_succ]
    refine wpAnyH_take (i := 6) (oi := ⟨_, _, _, _, _, _⟩) (v := ?_) rfl (by kernel_rfl) (by kernel_rfl) (by kernel_rfl) (fun _ _ _ h => h) (Or.inl ⟨by rfl, ?_⟩) (by assumption) ?_
    rotate_left
    · intro u hSw
      go_simp
      try (with_reducible rfl)
    try simp only [Act.put, List.setIfInBounds_toArray, List.set_cons_zero, List.set_cons_succ]
    refine wpAnyH_take (i := 7) (oi := ⟨_, _, _, _, _, _⟩) (v := ?_) rfl (by kernel_rfl) (by kernel_rfl) (by kernel_rfl) (fun _ _ _ h => h) (Or.inl ⟨by rfl, ?_⟩) (by assumption) ?_
    rotate_left
    · intro u hSw
      have hc := (hSw.1.cell 18).trans e18
      go_simp
      try (with_reducible rfl)
    try simp only [Act.put, List.setIfInBounds_toArray, List.set_cons_zero, List.set_cons_succ]
    refine wpAnyH_take (i := 8) (oi := ⟨_, _, _, _, _, _⟩) (v := ?_) rfl (by kernel_rfl) (by kernel_rfl) (by kernel_rfl) (fun _ _ _ h => h) (Or.inl ⟨by rfl, ?_⟩) (by assumption) ?_
    rotate_left
    · intro u hSw
      go_simp
      try (with_reducible rfl)
    try simp only [Act.put, List.setIfInBounds_toArray, List.set_cons_zero, List.set_cons_succ]
    refine wpAnyH_take (i := 10) (oi := ⟨_, _, _, _, _, _⟩) rfl (by kernel_rfl) (by kernel_rfl) (by kernel_rfl) (fun _ _ _ h => h) (y24 (by rfl) (.tmp 4) rfl (gR) (0) rfl R hRl (fun u hu => hu.2.range)) (by assumption) ?_
    try simp only [Act.put, List.setIfInBounds_toArray, List.set_cons_zero, List.set_cons_succ]
    refine wpAnyH_ready (rs := [9]) (by kernel_rfl) (by simp) ?_
    refine AllReadyH.cons (o := ⟨_, _, _, _, _, _⟩) rfl (fun K hK => ?_) AllReadyH.nil
    go_simp
    refine (hdep _).mono ?_; rintro e u1 ⟨rfl, h⟩; replace h := h.symm; subst h
    go_wp2_with fail
    refine hK.out _ _ ⟨A02, Q2⟩ (fun hHeld => ?_)
    clear hK K
    try simp only [Act.put, List.setIfInBounds_toArray, List.set_cons_zero, List.set_cons_succ]
    refine wpAnyH_ready (rs := [11]) (by kernel_rfl) (by simp) ?_
    refine AllReadyH.cons (o := ⟨_, _, _, _, _, _⟩) rfl (fun K hK => ?_) AllReadyH.nil
    go_simp
    refine (hpt _).mono ?_; rintro e u2 ⟨rfl, hb3⟩; have D : Below V.heap.size V u2 := ((Below.refl _ _).drew).trans (hb3.mono (by simp)); have A03 := A02.below D A02.lt; have Q3 := Q2.below D Q2.lt; have A13 := A12.below D A12.lt
    go_wp2_with fail
    refine hK.out _ _ ⟨A03, Q3⟩ (fun hHeld => ?_)
    clear hK K
    try simp only [Act.put, List.setIfInBounds_toArray, List.set_cons_zero, List.set_cons_succ]
    refine wpAnyH_take (i := 12) (oi := ⟨_, _, _, _, _, _⟩) (v := ?_) rfl (by kernel_rfl) (by kernel_rfl) (by kernel_rfl) (fun _ _ _ h => h) (Or.inl ⟨by rfl, ?_⟩) (by assumption) ?_
    rotate_left
    · intro u hSw
      go_simp
      try (with_reducible rfl)
    try simp only [Act.put, List.setIfInBounds_toArray, List.set_cons_zero, List.set_cons_succ]
    refine wpAnyH_take (i := 13) (oi := ⟨_, _, _, _, _, _⟩) (v := ?_) rfl (by kernel_rfl) (by kernel_rfl) (by kernel_rfl) (fun _ _ _ h => h) (Or.inl ⟨by rfl, ?_⟩) (by assumption) ?_
    rotate_left
    · intro u hSw
      go_simp
      try (with_reducible rfl)
    try simp only [Act.put, List.setIfInBounds_toArray, List.set_cons_zero, List.set_cons_succ]
    refine wpAnyH_ready (rs := [14]) (by kernel_rfl) (by simp) ?_
    refine AllReadyH.cons (o := ⟨_, _, _, _, _, _⟩) rfl (fun K hK => ?_) AllReadyH.nil
    refine step_want rfl (wp_store_row 40 (.tmp 2) (.tmp 28) rfl (w.heap.size + 1) (h8 CC) rfl rfl 40 _ A13 (s24h8 hC32) (by rw [h8_size, hC32]; rfl) (h8_one CC) ?_)
    refine hK.out _ _ ⟨A03.setRowOther _ (by omega), Q3.setRowOther _ (by omega)⟩ (fun hHeld => ?_)
    clear hK K
    try simp only [Act.put, List.setIfInBounds_toArray, List.set_cons_zero, List.set_cons_succ]
    refine wpAnyH_take (i := 15) (oi := ⟨_, _, _, _, _, _⟩) (v := ?_) rfl (by kernel_rfl) (by kernel_rfl) (by kernel_rfl) (fun _ _ _ h => h) (Or.inl ⟨by rfl, ?_⟩) (by assumption) ?_
    rotate_left
    · intro u hSw
      go_simp
      try (with_reducible rfl)
    try simp only [Act.put, List.setIfInBounds_toArray, List.set_cons_zero, List.set_cons_succ]
    refine wpAnyH_done (by kernel_rfl) ?_ _
    go_wp2_with fail
    exact bodyPost_ret (v := .tuple #[.agg (h8 CC), .int .i64 0]) (resP Tryz.results53 rfl rfl hC32 (A13.setRow _)) rfl ⟨rfl, below_setRow (hB2.trans (D.mono hVs)) (by omega) _⟩
set_option maxHeartbeats 2000000 in
theorem refCommit_any (m : Mc) (sp : Option Addr) (n cap : Nat) (N : Nat) (w : World) (hok : m.ok) (hM : MS N w sp n cap m.me) :
    Calls Tryz.prog 25 #[.agg (mcA m sp n cap)] w fun e w' => e = .returned (.tuple #[.agg (h8 (coR m)), .int .i64 (coE m)]) ∧ Below w.heap.size w w' := by
  have A0 := (Arr.new w 27 (mcA m sp n cap)).alloc (.cells (h8 Z32) 40)
  have A1 := Arr.new (w.alloc (.cells (mcA m sp n cap) 27)) 40 (h8 Z32)
  simp only [World.size_alloc] at A1
  have hb0 := (alloc_bel' w (.cells (mcA m sp n cap) 27)).alloc (by simp) (.cells (h8 Z32) 40)
  rw [h8_Z] at A0 A1 hb0
  have hmay := fun U => refMay_anyV m sp n cap U hok hM.len hM.small
  have hs0 := mcA_size hok.r16 sp n cap
  have e0 := mcA_0 m sp n cap
  have e17 := mcA_17 hok.r16 sp n cap
  have e18 := mcA_18 hok.r16 sp n cap
  have hrg := fun (u : World) (h : Arr u w.heap.size 27 (mcA m sp n cap)) => mcA_rg h
  have hMh := hM.here
  unfold coR coE
  cases hmm : mayM m with
  | false =>
    rw [hmm] at hmay
    rw [if_neg (by decide), if_neg (by decide)]
    generalize mcA m sp n cap = C at *
    clear hmm
    go_enter Tryz.func25, Tryz.ntmps25
    go_wp2_with (first
      | (refine ld45 (by rfl) (.tmp 1) (by rfl) w.heap.size (by rfl) C hs0 A0 ?_)
      | (go_at_call 22; go_must (refine (hmay _).mono ?_; rintro e w1 ⟨rfl, hb1⟩; have A11 := A1.below hb1 A1.lt; have hB1 := hb0.trans (hb1.mono (by simp; omega))))
      | (refine st24 (by rfl) _ _ (by rfl) (w.heap.size + 1) Z32 Z32 (by rfl) (by rfl) Z32_len Z32_len A11 ?_))
    exact bodyPost_ret (v := .tuple #[.agg (h8 Z32), .int .i64 2]) (resP Tryz.results25 rfl rfl Z32_len (A11.setRow _)) rfl ⟨rfl, below_setRow hB1 (by omega) _⟩
  | true =>
    rw [hmm] at hmay
    rw [if_pos rfl, if_pos rfl]
    have hmm' := hmm
    unfold mayM at hmm'
    rw [Bool.and_eq_true, decide_eq_true_eq] at hmm'
    obtain ⟨hsb, hst⟩ := hmm'
    obtain ⟨d, hd, he⟩ := szB_pow hsb
    have hn : Hid (n = 2 ^ d) := Hid.mk' (by rw [hM.len.out, he])
    rw [he, Nat.log2_two_pow]
    have hn4 : n ≤ 4096 := by rw [hn.out]; exact pow12 hd
    have hdep := fun U => refDepth_any d n hd hn U
    have hroot := fun U (h : MS w.heap.size U sp n cap m.me) => refRootM_any sp n cap m.me w.heap.size U h
    rw [(rW_pow hd he).2] at hroot
    have hRl := rW_len m.me
    have hpt := fun U => refParts_any m.pc m.rg m.st (d : Nat) (rW m.me) U hok.r16 hRl hok.st
    have hcOK : cOK m.st (d : Nat) := ⟨by omega, by omega, hst⟩
    have hcm : cmR m.pc m.rg m.st (d : Nat) (rW m.me) = cmt m.pc m.rg m.st (d : Nat) (rW m.me) ∧ cmE m.st (d : Nat) = 0 := by unfold cmR cmE; rw [if_pos hcOK, if_pos hcOK]; exact ⟨rfl, rfl⟩
    rw [hcm.1, hcm.2] at hpt
    have hC32 : (cmt m.pc m.rg m.st (d : Nat) (rW m.me)).length = 32 := shl_len _
    generalize cmt m.pc m.rg m.st (d : Nat) (rW m.me) = CC at *
    clear hcm hcOK he hsb hmm
    have h16 := hok.r16
    generalize rW m.me = R at *
    generalize mcA m sp n cap = C at *
    go_enter Tryz.func25, Tryz.ntmps25
    go_upto_region 4 with (first
      | (refine ld45 (by rfl) (.tmp 1) (by rfl) w.heap.size (by rfl) C hs0 A0 ?_)
      | (go_at_call 22; go_must (refine (hmay _).mono ?_; rintro e w1 ⟨rfl, hb1⟩; have A01 := A0.below hb1 A0.lt; have A11 := A1.below hb1 A1.lt; have hB1 := hb0.trans (hb1.mono (by simp; omega)); have c18 := (A01.cell 18).trans e18))
      | (go_at_call 46; go_must (refine (hroot _ (hMh.below hB1)).mono ?_; rintro e w2 ⟨rfl, hb2⟩; have hs2 := hb2.size; have A02 := (A01.below hb2 A01.lt).alloc (.cells (h8 R) 40); have A12 := (A11.below hb2 A11.lt).alloc (.cells (h8 R) 40); have Q2 := Arr.new w2 40 (h8 R); have hB2 := (hB1.trans (hb2.mono (by have := hB1.size; omega))).alloc (by have := hB1.size; omega) (.cells (h8 R) 40)))
      | (refine st24n (by rfl) _ _ (by rfl) w2 w2.heap.size rfl (by rfl) R (by rfl) (by rfl) hRl ?_))
    generalize hV : w2.alloc (.cells (h8 R) 40) = V at *
    clear hV c18
    have hgR : w.heap.size + 2 ≤ w2.heap.size := by have := A11.lt; omega
    generalize w2.heap.size = gR at *
    have hVs := hB2.size
    refine wp_region_held_drew (S := fun u => Arr u w.heap.size 27 C ∧ Arr u gR 40 (h8 R)) (by kernel_rfl) ⟨A02, Q2⟩ (fun hHeld => ?_)
    refine wpAnyH_take (i := 0) (oi := ⟨_, _, _, _, _, _⟩) (v := ?_) rfl (by kernel_rfl) (by kernel_rfl) (by kernel_rfl) (fun _ _ _ h => h) (Or.inl ⟨by rfl, ?_⟩) (by assumption) ?_
    rotate_left
    · intro u hSw
      go_simp
      try (with_reducible rfl)
    try simp only [Act.put, List.setIfInBounds_toArray, List.set_cons_zero, List.set_cons_succ]
    refine wpAnyH_take (i := 1) (oi := ⟨_, _, _, _, _, _⟩) (v := ?_) rfl (by kernel_rfl) (by kernel_rfl) (by kernel_rfl) (fun _ _ _ h => h) (Or.inl ⟨by rfl, ?_⟩) (by assumption) ?_
    rotate_left
    · intro u hSw
      have hc := (hSw.1.cell 0).trans e0
      go_simp
      try (with_reducible rfl)
    try simp only [Act.put, List.setIfInBounds_toArray, List.set_cons_zero, List.set_cons_succ]
    refine wpAnyH_take (i := 2) (oi := ⟨_, _, _, _, _, _⟩) (v := ?_) rfl (by kernel_rfl) (by kernel_rfl) (by kernel_rfl) (fun _ _ _ h => h) (Or.inl ⟨by rfl, ?_⟩) (by assumption) ?_
    rotate_left
    · intro u hSw
      go_simp
      try (with_reducible rfl)
    try simp only [Act.put, List.setIfInBounds_toArray, List.set_cons_zero, List.set_cons_succ]
    refine wpAnyH_take (i := 3) (oi := ⟨_, _, _, _, _, _⟩) rfl (by kernel_rfl) (by kernel_rfl) (by kernel_rfl) (fun _ _ _ h => h) (y58 (by rfl) (.tmp 18) rfl w.heap.size 1 rfl m.rg h16 (fun u hu => hrg u hu.1)) (by assumption) ?_
    try simp only [Act.put, List.setIfInBounds_toArray, List.set_cons_zero, List.set_cons_succ]
    refine wpAnyH_take (i := 4) (oi := ⟨_, _, _, _, _, _⟩) (v := ?_) rfl (by kernel_rfl) (by kernel_rfl) (by kernel_rfl) (fun _ _ _ h => h) (Or.inl ⟨by rfl, ?_⟩) (by assumption) ?_
    rotate_left
    · intro u hSw
      go_simp
      try (with_reducible rfl)
    try simp only [Act.put, List.setIfInBounds_toArray, List.set_cons_zero, List.set_cons_succ]
    refine wpAnyH_take (i := 5) (oi := ⟨_, _, _, _, _, _⟩) (v := ?_) rfl (by kernel_rfl) (by kernel_rfl) (by kernel_rfl) (fun _ _ _ h => h) (Or.inl ⟨by rfl, ?_⟩) (by assumption) ?_
    rotate_left
    · intro u hSw
      have hc := (hSw.1.cell 17).trans e17
      go_simp
      try (with_reducible rfl)
    try simp only [Act.put, List.setIfInBounds_toArray, List.set_cons_zero, List.set_cons_succ]
    refine wpAnyH_take (i := 6) (oi := ⟨_, _, _, _, _, _⟩) (v := ?_) rfl (by kernel_rfl) (by kernel_rfl) (by kernel_rfl) (fun _ _ _ h => h) (Or.inl ⟨by rfl, ?_⟩) (by assumption) ?_
    rotate_left
    · intro u hSw
      go_simp
      try (with_reducible rfl)
    try simp only [Act.put, List.setIfInBounds_toArray, List.set_cons_zero, List.set_cons_succ]
    refine wpAnyH_take (i := 7) (oi := ⟨_, _, _, _, _, _⟩) (v := ?_) rfl (by kernel_rfl) (by kernel_rfl) (by kernel_rfl) (fun _ _ _ h => h) (Or.inl ⟨by rfl, ?_⟩) (by assumption) ?_
    rotate_left
    · intro u hSw
      have hc := (hSw.1.cell 18).trans e18
      go_simp
      try (with_reducible rfl)
    try simp only [Act.put, List.setIfInBounds_toArray, List.set_cons_zero, List.set_cons_succ]
    refine wpAnyH_take (i := 8) (oi := ⟨_, _, _, _, _, _⟩) (v := ?_) rfl (by kernel_rfl) (by kernel_rfl) (by kernel_rfl) (fun _ _ _ h => h) (Or.inl ⟨by rfl, ?_⟩) (by assumption) ?_
    rotate_left
    · intro u hSw
      go_simp
      try (with_reducible rfl)
    try simp only [Act.put, List.setIfInBounds_toArray, List.set_cons_zero, List.set_cons_succ]
    refine wpAnyH_take (i := 10) (oi := ⟨_, _, _, _, _, _⟩) rfl (by kernel_rfl) (by kernel_rfl) (by kernel_rfl) (fun _ _ _ h => h) (y24 (by rfl) (.tmp 4) rfl (gR) (0) rfl R hRl (fun u hu => hu.2.range)) (by assumption) ?_
    try simp only [Act.put, List.setIfInBounds_toArray, List.set_cons_zero, List.set_cons_succ]
    refine wpAnyH_ready (rs := [9]) (by kernel_rfl) (by simp) ?_
    refine AllReadyH.cons (o := ⟨_, _, _, _, _, _⟩) rfl (fun K hK => ?_) AllReadyH.nil
    go_simp
    refine (hdep _).mono ?_; rintro e u1 ⟨rfl, h⟩; replace h := h.symm; subst h
    go_wp2_with fail
    refine hK.out _ _ ⟨A02, Q2⟩ (fun hHeld => ?_)
    clear hK K
    try simp only [Act.put, List.setIfInBounds_toArray, List.set_cons_zero, List.set_cons_succ]
    refine wpAnyH_ready (rs := [11]) (by kernel_rfl) (by simp) ?_
    refine AllReadyH.cons (o := ⟨_, _, _, _, _, _⟩) rfl (fun K hK => ?_) AllReadyH.nil
    go_simp
    refine (hpt _).mono ?_; rintro e u2 ⟨rfl, hb3⟩; have D : Below V.heap.size V u2 := ((Below.refl _ _).drew).trans (hb3.mono (by simp)); have A03 := A02.below D A02.lt; have Q3 := Q2.below D Q2.lt; have A13 := A12.below D A12.lt
    go_wp2_with fail
    refine hK.out _ _ ⟨A03, Q3⟩ (fun hHeld => ?_)
    clear hK K
    try simp only [Act.put, List.setIfInBounds_toArray, List.set_cons_zero, List.set_cons_succ]
    refine wpAnyH_take (i := 12) (oi := ⟨_, _, _, _, _, _⟩) (v := ?_) rfl (by kernel_rfl) (by kernel_rfl) (by kernel_rfl) (fun _ _ _ h => h) (Or.inl ⟨by rfl, ?_⟩) (by assumption) ?_
    rotate_left
    · intro u hSw
      go_simp
      try (with_reducible rfl)
    try simp only [Act.put, List.setIfInBounds_toArray, List.set_cons_zero, List.set_cons_succ]
    refine wpAnyH_take (i := 13) (oi := ⟨_, _, _, _, _, _⟩) (v := ?_) rfl (by kernel_rfl) (by kernel_rfl) (by kernel_rfl) (fun _ _ _ h => h) (Or.inl ⟨by rfl, ?_⟩) (by assumption) ?_
    rotate_left
    · intro u hSw
      go_simp
      try (with_reducible rfl)
    try simp only [Act.put, List.setIfInBounds_toArray, List.set_cons_zero, List.set_cons_succ]
    refine wpAnyH_ready (rs := [14]) (by kernel_rfl) (by simp) ?_
    refine AllReadyH.cons (o := ⟨_, _, _, _, _, _⟩) rfl (fun K hK => ?_) AllReadyH.nil
    refine step_want rfl (wp_store_row 40 (.tmp 2) (.tmp 28) rfl (w.heap.size + 1) (h8 CC) rfl rfl 40 _ A13 (s24h8 hC32) (by rw [h8_size, hC32]; rfl) (h8_one CC) ?_)
    refine hK.out _ _ ⟨A03.setRowOther _ (by omega), Q3.setRowOther _ (by omega)⟩ (fun hHeld => ?_)
    clear hK K
    try simp only [Act.put, List.setIfInBounds_toArray, List.set_cons_zero, List.set_cons_succ]
    refine wpAnyH_take (i := 15) (oi := ⟨_, _, _, _, _, _⟩) (v := ?_) rfl (by kernel_rfl) (by kernel_rfl) (by kernel_rfl) (fun _ _ _ h => h) (Or.inl ⟨by rfl, ?_⟩) (by assumption) ?_
    rotate_left
    · intro u hSw
      go_simp
      try (with_reducible rfl)
    try simp only [Act.put, List.setIfInBounds_toArray, List.set_cons_zero, List.set_cons_succ]
    refine wpAnyH_done (by kernel_rfl) ?_ _
    go_wp2_with fail
    exact bodyPost_ret (v := .tuple #[.agg (h8 CC), .int .i64 0]) (resP Tryz.results25 rfl rfl hC32 (A13.setRow _)) rfl ⟨rfl, below_setRow (hB2.trans (D.mono hVs)) (by omega) _⟩
end Go.Proofs.YtneihkegipcakaaGreat
/- Layer trace: a sum that is kept. -/
namespace Go.Proofs.YtneihkegipcakaaGreat
open Go.RowKit
set_option maxRecDepth 100000
set_option linter.unusedVariables false
set_option linter.unusedSimpArgs false


set_option maxHeartbeats 4000000 in
theorem sum_hit {w : World} {g gt gm c : Nat} {most len : Int} {mp : Int → Option Value} (A : Arr w g 84 (tcA most len gt gm c)) (hMp : MapAt w gm mp) (k : Int) (hq : ¬ k ≤ len) (X : List Int) (hX : X.length = 32) (hv : mp len = some (.agg (h8 X))) :
    Calls Tryz.prog 31 #[.pointer (some ⟨g, 0, none⟩), .int .i64 k] w fun e w' => e = .returned (.agg (h8 X)) ∧ Below w.heap.size w w' := by
  have hlt := A.lt
  have hl := run_lookup (hMp.same (Below.heap_alloc w (.cells (h8 Z32) 40) gm hMp.lt)) len
  rw [hv] at hl
  have c2 := A.cell 2
  have c4 := A.cell 5
  unfold tcA at c2 c4
  have b0 := alloc_bel' w (.cells (h8 Z32) 40)
  have A4 := Arr.new w 40 (h8 Z32)
  rw [h8_Z] at hl b0 A4
  simp only [Option.getD_some, Option.isSome_some] at hl
  clear A hMp hv
  go_enter Tryz.func31, Tryz.ntmps31
  have A5 : Arr ((w.alloc (.cells #[.int .u8 0, .int .u8 0, .int .u8 0, .int .u8 0, .int .u8 0, .int .u8 0, .int .u8 0, .int .u8 0, .int .u8 0, .int .u8 0, .int .u8 0, .int .u8 0, .int .u8 0, .int .u8 0, .int .u8 0, .int .u8 0, .int .u8 0, .int .u8 0, .int .u8 0, .int .u8 0, .int .u8 0, .int .u8 0, .int .u8 0, .int .u8 0, .int .u8 0, .int .u8 0, .int .u8 0, .int .u8 0, .int .u8 0, .int .u8 0, .int .u8 0, .int .u8 0] 40)).alloc (.cells (h8 X) 40)) w.heap.size 40 (h8 Z32) := by rw [h8_Z]; exact (Arr.new w 40 #[.int .u8 0, .int .u8 0, .int .u8 0, .int .u8 0, .int .u8 0, .int .u8 0, .int .u8 0, .int .u8 0, .int .u8 0, .int .u8 0, .int .u8 0, .int .u8 0, .int .u8 0, .int .u8 0, .int .u8 0, .int .u8 0, .int .u8 0, .int .u8 0, .int .u8 0, .int .u8 0, .int .u8 0, .int .u8 0, .int .u8 0, .int .u8 0, .int .u8 0, .int .u8 0, .int .u8 0, .int .u8 0, .int .u8 0, .int .u8 0, .int .u8 0, .int .u8 0]).alloc _
  have A6 : Arr ((w.alloc (.cells #[.int .u8 0, .int .u8 0, .int .u8 0, .int .u8 0, .int .u8 0, .int .u8 0, .int .u8 0, .int .u8 0, .int .u8 0, .int .u8 0, .int .u8 0, .int .u8 0, .int .u8 0, .int .u8 0, .int .u8 0, .int .u8 0, .int .u8 0, .int .u8 0, .int .u8 0, .int .u8 0, .int .u8 0, .int .u8 0, .int .u8 0, .int .u8 0, .int .u8 0, .int .u8 0, .int .u8 0, .int .u8 0, .int .u8 0, .int .u8 0, .int .u8 0, .int .u8 0] 40)).alloc (.cells (h8 X) 40)) (w.heap.size + 1) 40 (h8 X) := by have := Arr.new (w.alloc (.cells #[.int .u8 0, .int .u8 0, .int .u8 0, .int .u8 0, .int .u8 0, .int .u8 0, .int .u8 0, .int .u8 0, .int .u8 0, .int .u8 0, .int .u8 0, .int .u8 0, .int .u8 0, .int .u8 0, .int .u8 0, .int .u8 0, .int .u8 0, .int .u8 0, .int .u8 0, .int .u8 0, .int .u8 0, .int .u8 0, .int .u8 0, .int .u8 0, .int .u8 0, .int .u8 0, .int .u8 0, .int .u8 0, .int .u8 0, .int .u8 0, .int .u8 0, .int .u8 0] 40)) 40 (h8 X); simpa only [World.size_alloc] using this
  have b2 := b0.alloc (by simp) (.cells (h8 X) 40)
  go_wp2_with (first
    | (refine st24n (by rfl) (.tmp 5) (.tmp 20) (by rfl) (w.alloc (.cells #[.int .u8 0, .int .u8 0, .int .u8 0, .int .u8 0, .int .u8 0, .int .u8 0, .int .u8 0, .int .u8 0, .int .u8 0, .int .u8 0, .int .u8 0, .int .u8 0, .int .u8 0, .int .u8 0, .int .u8 0, .int .u8 0, .int .u8 0, .int .u8 0, .int .u8 0, .int .u8 0, .int .u8 0, .int .u8 0, .int .u8 0, .int .u8 0, .int .u8 0, .int .u8 0, .int .u8 0, .int .u8 0, .int .u8 0, .int .u8 0, .int .u8 0, .int .u8 0] 40)) (w.heap.size + 1) (by simp) (by rfl) X (by rfl) (by rfl) hX ?_)
    | (refine ld24 (by rfl) (.tmp 5) (by rfl) (w.heap.size + 1) 0 (by rfl) X hX A6.range ?_)
    | (refine st24 (by rfl) (.tmp 4) (.tmp 37) (by rfl) w.heap.size X Z32 (by rfl) (by rfl) hX Z32_len A5 ?_))
  exact bodyPost_ret (v := .agg (h8 X)) (res24 Tryz.results31 rfl hX (A5.setRow (h8 X))) rfl ⟨rfl, below_setRow b2 (Nat.le_refl _) (h8 X)⟩
end Go.Proofs.YtneihkegipcakaaGreat
/- Layer trace: a sum that is reckoned. -/
namespace Go.Proofs.YtneihkegipcakaaGreat
open Go.RowKit
set_option maxRecDepth 100000
set_option linter.unusedVariables false
set_option linter.unusedSimpArgs false


theorem coR_len (m : Mc) : (coR m).length = 32 := by
  unfold coR
  split
  · exact shl_len _
  · exact Z32_len
theorem Chg.putO {S : Nat → Prop} {a b : World} (h : Chg S a b) {r : Nat} (o : Obj) (hr : S r) (hrb : r < b.heap.size) : Chg S a (b.putObj r o) :=
  ⟨h.os, h.tape, h.output, by simpa using h.size, fun i hi hs => (World.putObj_heap_other (fun e => hs (by rw [e]; exact hr))).trans (h.block i hi hs)⟩
theorem map_ne {w : World} {gm g ty : Nat} {mp : Int → Option Value} {C : Array Value} (h : MapAt w gm mp) (hA : Arr w g ty C) : g ≠ gm := by
  rintro rfl
  obtain ⟨L, clock, h1, -⟩ := h
  unfold Arr at hA
  rw [hA] at h1
  cases h1
set_option maxHeartbeats 4000000 in
theorem sum_miss {w : World} {g gt gm c : Nat} {most len : Int} {m : Mc} {sp : Option Addr} {n cap : Nat} {mp : Int → Option Value} (A : Arr w g 84 (tcA most len gt gm c)) (hMp : MapAt w gm mp) (hok : m.ok) (hMS : MS w.heap.size w sp n cap m.me) (hM : w.rangeAt gt 0 (mcA m sp n cap).toList) (hgt : gt < w.heap.size) (hc : 1 ≤ c)
    (k : Int) (hkl : k ≤ len) (h0 : 0 ≤ k) (h1 : k < 1024) (hl : 0 ≤ len ∧ len ≤ 262144) (hv : mp k = none) (X : List Int) (hX : X = coR (rO [] m k).1) :
    Calls Tryz.prog 31 #[.pointer (some ⟨g, 0, none⟩), .int .i64 k] w fun e w' => e = .returned (.agg (h8 X)) ∧ MapAt w' gm (fun j => if j = k then some (.agg (h8 X)) else mp j) ∧ Chg (· = gm) w w' := by
  have hX32 : X.length = 32 := by rw [hX]; exact coR_len _
  have hmn : (if len < k then len else k) = k := if_neg (by omega)
  have hlt := A.lt
  have hgm := hMp.lt
  have hll := run_lookup (hMp.same (Below.heap_alloc w (.cells (h8 Z32) 40) gm hgm)) k
  rw [hv] at hll
  simp only [Option.getD_none, Option.isSome_none] at hll
  unfold zeroH at hll
  have h32 := fun (u : World) (hb : Below w.heap.size w u) => machine_any (A.below hb hlt) hok ((hMS.below hb).mono hb.size) (fun j v hv => (hb.cell (p := ⟨gt, 0 + j, none⟩) hgt).trans (hM j v hv)) (Nat.lt_of_lt_of_le hgt hb.size) hc k hkl h0 h1 hl
  unfold MaP at h32
  obtain ⟨m1, hm1⟩ : ∃ x, x = (rO [] m k).1 := ⟨_, rfl⟩
  rw [← hm1] at h32 hX
  have h53 := fun (u : World) (s : Option Addr) (a b : Nat) (ho : m1.ok) (hs : MS u.heap.size u s a b m1.me) => commit_any m1 s a b u.heap.size u ho hs
  rw [← hX] at h53
  generalize coE m1 = ce at *
  have c2 := A.cell 2
  have c5 := A.cell 5
  unfold tcA at c2 c5
  have b0 := alloc_bel' w (.cells (h8 Z32) 40)
  have b1 := b0.alloc b0.size (.cells (h8 Z32) 40)
  have A4 : Arr ((w.alloc (.cells (h8 Z32) 40)).alloc (.cells (h8 Z32) 40)) w.heap.size 40 (h8 Z32) := (Arr.new w 40 (h8 Z32)).alloc _
  have A5 : Arr ((w.alloc (.cells (h8 Z32) 40)).alloc (.cells (h8 Z32) 40)) (w.heap.size + 1) 40 (h8 Z32) := by have := Arr.new (w.alloc (.cells (h8 Z32) 40)) 40 (h8 Z32); simpa only [World.size_alloc] using this
  have Ag : Arr ((w.alloc (.cells (h8 Z32) 40)).alloc (.cells (h8 Z32) 40)) g 84 (tcA most len gt gm c) := (A.alloc _).alloc _
  have hMp1 : MapAt ((w.alloc (.cells (h8 Z32) 40)).alloc (.cells (h8 Z32) 40)) gm mp := hMp.same (b1.block gm hgm)
  obtain ⟨U, hU⟩ : ∃ U, U = (w.alloc (.cells #[.int .u8 0, .int .u8 0, .int .u8 0, .int .u8 0, .int .u8 0, .int .u8 0, .int .u8 0, .int .u8 0, .int .u8 0, .int .u8 0, .int .u8 0, .int .u8 0, .int .u8 0, .int .u8 0, .int .u8 0, .int .u8 0, .int .u8 0, .int .u8 0, .int .u8 0, .int .u8 0, .int .u8 0, .int .u8 0, .int .u8 0, .int .u8 0, .int .u8 0, .int .u8 0, .int .u8 0, .int .u8 0, .int .u8 0, .int .u8 0, .int .u8 0, .int .u8 0] 40)).alloc (.cells (h8 Z32) 40) := ⟨_, rfl⟩
  have hU2 : U = (w.alloc (.cells (h8 Z32) 40)).alloc (.cells (h8 Z32) 40) := by rw [hU, h8_Z]
  rw [← hU2] at b1 A4 A5 Ag hMp1
  have hZe : Hid (h8 Z32 = #[.int .u8 0, .int .u8 0, .int .u8 0, .int .u8 0, .int .u8 0, .int .u8 0, .int .u8 0, .int .u8 0, .int .u8 0, .int .u8 0, .int .u8 0, .int .u8 0, .int .u8 0, .int .u8 0, .int .u8 0, .int .u8 0, .int .u8 0, .int .u8 0, .int .u8 0, .int .u8 0, .int .u8 0, .int .u8 0, .int .u8 0, .int .u8 0, .int .u8 0, .int .u8 0, .int .u8 0, .int .u8 0, .int .u8 0, .int .u8 0, .int .u8 0, .int .u8 0]) := Hid.mk' h8_Z
  rw [h8_Z] at hll
  rw [← h8_Z] at hll
  replace hll : (Instr.lookup 82 (.map (some gm)) (.int .i64 k) true).run Tryz.prog (w.alloc (.cells #[.int .u8 0, .int .u8 0, .int .u8 0, .int .u8 0, .int .u8 0, .int .u8 0, .int .u8 0, .int .u8 0, .int .u8 0, .int .u8 0, .int .u8 0, .int .u8 0, .int .u8 0, .int .u8 0, .int .u8 0, .int .u8 0, .int .u8 0, .int .u8 0, .int .u8 0, .int .u8 0, .int .u8 0, .int .u8 0, .int .u8 0, .int .u8 0, .int .u8 0, .int .u8 0, .int .u8 0, .int .u8 0, .int .u8 0, .int .u8 0, .int .u8 0, .int .u8 0] 40)) = .ok (.tuple #[.agg (h8 Z32), .bool false]) (w.alloc (.cells #[.int .u8 0, .int .u8 0, .int .u8 0, .int .u8 0, .int .u8 0, .int .u8 0, .int .u8 0, .int .u8 0, .int .u8 0, .int .u8 0, .int .u8 0, .int .u8 0, .int .u8 0, .int .u8 0, .int .u8 0, .int .u8 0, .int .u8 0, .int .u8 0, .int .u8 0, .int .u8 0, .int .u8 0, .int .u8 0, .int .u8 0, .int .u8 0, .int .u8 0, .int .u8 0, .int .u8 0, .int .u8 0, .int .u8 0, .int .u8 0, .int .u8 0, .int .u8 0] 40)) := by rw [← hZe.out]; exact hll
  replace hU := Hid.mk' hU
  clear hU2 A hMp hMS hM b0 hok hm1
  replace hv := Hid.mk' hv
  replace hX := Hid.mk' hX
  have g45 : w.heap.size ≠ gm := map_ne hMp1 A4
  have g55 : w.heap.size + 1 ≠ gm := map_ne hMp1 A5
  have gg5 : g ≠ gm := map_ne hMp1 Ag
  go_enter Tryz.func31, Tryz.ntmps31
  go_upto_region 5 with (first
    | (refine st24n (by rfl) (.tmp 5) (.tmp 20) (by rfl) (w.alloc (.cells #[.int .u8 0, .int .u8 0, .int .u8 0, .int .u8 0, .int .u8 0, .int .u8 0, .int .u8 0, .int .u8 0, .int .u8 0, .int .u8 0, .int .u8 0, .int .u8 0, .int .u8 0, .int .u8 0, .int .u8 0, .int .u8 0, .int .u8 0, .int .u8 0, .int .u8 0, .int .u8 0, .int .u8 0, .int .u8 0, .int .u8 0, .int .u8 0, .int .u8 0, .int .u8 0, .int .u8 0, .int .u8 0, .int .u8 0, .int .u8 0, .int .u8 0, .int .u8 0] 40)) (w.heap.size + 1) (by simp) (by rfl) Z32 (by rfl) (by rfl) Z32_len ?_)
    | (go_at_call 32; go_must (rw [← hU.out]; refine (h32 U b1).mono ?_; rintro e v1 ⟨sp1, n1, cp1, rfl, hok1, hMS1, hb1⟩))
    | (go_at_call 53; go_must (refine (h53 v1 sp1 n1 cp1 hok1 hMS1).mono ?_; rintro e v2 ⟨rfl, hb2⟩; have hv2 := hb1.trans (hb2.mono hb1.size); have A5v := A5.below hv2 A5.lt))
    | (refine st24 (by rfl) (.tmp 5) (.tmp 29) (by rfl) (w.heap.size + 1) X Z32 (by rfl) (by rfl) hX32 Z32_len A5v ?_))
  try simp only [Act.put]
  have A4v := A4.below hv2 A4.lt
  have hgmU : gm < U.heap.size := Nat.lt_of_lt_of_le hgm b1.size
  have hMp2 : MapAt (v2.setRow (w.heap.size + 1) (h8 X)) gm mp := hMp1.same ((setRow_other v2 (w.heap.size + 1) gm (h8 X) (Ne.symm g55)).trans (hv2.block gm hgmU))
  have A5x : Arr (v2.setRow (w.heap.size + 1) (h8 X)) (w.heap.size + 1) 40 (h8 X) := A5v.setRow (h8 X)
  have A4x : Arr (v2.setRow (w.heap.size + 1) (h8 X)) w.heap.size 40 (h8 Z32) := A4v.setRowOther (h8 X) (by omega)
  have Agx : Arr (v2.setRow (w.heap.size + 1) (h8 X)) g 84 (tcA most len gt gm c) := (Ag.below hv2 Ag.lt).setRowOther (h8 X) (by omega)
  have bV : Below w.heap.size w (v2.setRow (w.heap.size + 1) (h8 X)) := below_setRow (b1.trans (hv2.mono b1.size)) (by omega) (h8 X)
  obtain ⟨V, hV⟩ : ∃ V, V = v2.setRow (w.heap.size + 1) (h8 X) := ⟨_, rfl⟩
  rw [← hV] at hMp2 A5x A4x Agx bV ⊢
  clear hV A5v A4v
  have hgV : gm < V.drew.heap.size := hMp2.lt
  have hMpd : MapAt V.drew gm mp := hMp2
  obtain ⟨o, hup, hMp3⟩ := run_update hMpd k (.agg (h8 X)) hv.out
  have k5 := Agx.cell 5
  unfold tcA at k5
  have hS0 : ∀ u : World, u.heap[g]? = V.heap[g]? → u.heap[w.heap.size + 1]? = V.heap[w.heap.size + 1]? → u.cell? ⟨g, 5, none⟩ = some (.map (some gm)) ∧ u.rangeAt (w.heap.size + 1) 0 (by8 X) ∧ True := fun u e1 e2 => ⟨(World.cell?_of_block e1).trans k5, fun j v hj => (World.cell?_of_block e2).trans (A5x.range j v hj), trivial⟩
  refine rgn (fun u : World => u.cell? ⟨g, 5, none⟩ = some (.map (some gm)) ∧ u.rangeAt (w.heap.size + 1) 0 (by8 X) ∧ True) (hS0 _ rfl rfl) (fun hSw => ?_)
  refine tk3 0 rfl ?_
  refine tk3 1 rfl ?_
  refine tk3 2 rfl ?_
  refine tk3 3 rfl ?_
  refine tk3 4 rfl ?_
  refine tl 5 rfl (y24 rfl (.tmp 5) rfl (w.heap.size + 1) 0 rfl X hX32 (fun u h => h.2.1)) ?_
  try simp only [Act.put, List.setIfInBounds_toArray, List.set_cons_zero, List.set_cons_succ]
  refine rd 6 rfl (fun K hK => ?_)
  go_simp
  go_wp2_with fail
  refine hK.out _ _ (hS0 _ (World.putObj_heap_other gg5) (World.putObj_heap_other g55)) (fun hSv => ?_)
  clear hK K
  try simp only [Act.put, List.setIfInBounds_toArray, List.set_cons_zero, List.set_cons_succ]
  refine dn ?_
  have A5y : Arr (V.drew.putObj gm o) (w.heap.size + 1) 40 (h8 X) := Arr.put A5x.drew o g55
  have A4y : Arr (V.drew.putObj gm o) w.heap.size 40 (h8 Z32) := Arr.put A4x.drew o g45
  go_wp2_with (first
    | (refine ld24 (by rfl) (.tmp 5) (by rfl) (w.heap.size + 1) 0 (by rfl) X hX32 A5y.range ?_)
    | (refine st24 (by rfl) (.tmp 4) (.tmp 37) (by rfl) w.heap.size X Z32 (by rfl) (by rfl) hX32 Z32_len A4y ?_))
  refine bodyPost_ret (v := .agg (h8 X)) (res24 Tryz.results31 rfl hX32 (A4y.setRow (h8 X))) rfl ⟨rfl, hMp3.same (setRow_other _ _ _ _ (Ne.symm g45)), ?_⟩
  exact (((Chg.of_below (S := (· = gm)) bV).drew).putO o rfl hgV).setRow (h8 X) (fun h => absurd h (Nat.lt_irrefl _))
end Go.Proofs.YtneihkegipcakaaGreat
