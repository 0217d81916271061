/- Layer oracle: what the layers below give. -/
import Derived.Test.YtbfelelngoonjaaX01
import Derived.Test.YtbfelelngoonjaaX02
import Derived.Test.YtbfelelngoonjaaX03
import Derived.Test.YtbfelelngoonjaaX04
import Derived.Test.YtbfelelngoonjaaX05
import Derived.Test.YtbfelelngoonjaaX10
import Derived.Test.YtbfelelngoonjaaX06
import Derived.Test.YtbfelelngoonjaaX11
import Derived.Test.YtbfelelngoonjaaX12
import Derived.Test.YtbfelelngoonjaaX13
import Derived.Test.YtbfelelngoonjaaX14
import Derived.Test.YtbfelelngoonjaaX22
import Derived.Test.YtbfelelngoonjaaX15
import Derived.Test.YtbfelelngoonjaaX16
import Derived.Test.YtbfelelngoonjaaX17
import Derived.Test.YtbfelelngoonjaaX18
import Derived.Test.YtbfelelngoonjaaX23
import Derived.Test.YtbfelelngoonjaaX28
import Derived.Test.YtbfelelngoonjaaX19
import Derived.Test.YtbfelelngoonjaaX21
import Derived.Test.YtbfelelngoonjaaX33
import Derived.Test.YtbfelelngoonjaaX34
import Derived.Test.YtbfelelngoonjaaX35
import Derived.Test.YtbfelelngoonjaaX36
import Derived.Test.YtbfelelngoonjaaX24
import Derived.BigQuiet
import Derived.BigRegion
import Derived.ChangeKeysEq
import Derived.Deep.DeepCutAuto
import Derived.Deep.DrawnRows
import Derived.Deep.MidRow
import Derived.Deep.QuietTactic
import Derived.Deep.RegionHeld3
import Derived.Deep.RegionLaw
import Derived.Deep.RegionWith
import Derived.Deep.WholeRow
import Derived.Great.BuildSlice
import Derived.Great.FillDense
import Derived.Laws.AppendOwnNone
import Derived.Laws.BitsLemmas
import Derived.Laws.BytesArg
import Derived.Laws.CopyOwn
import Derived.Laws.CopyRow
import Derived.Laws.MakeOwn
import Derived.Laws.OwnMore
import Derived.Laws.Tables
import Derived.Lib.AppendZeros
import Derived.Lib.SlBytesConst
import Derived.LoopIn
import Derived.LoopNIn
import Derived.Maps.AppendAt
import Derived.OwnWalkIn
import Derived.RangeFuncBound
import Derived.RangeFuncCalls
import Derived.RangeFuncLeaves
import Derived.RangeFuncNested
import Derived.RangeFuncRecord
import Derived.Shelf.Abstract
import Derived.Shelf.RegionOpen
import Derived.TacticsInMore
import Derived.WalkKit
import Derived.WalkLawsBesides
import Derived.WalkSpells
namespace Go.Proofs.Ytbfelelngoonjaa
open Go.RowKit
set_option maxRecDepth 100000
set_option linter.unusedVariables false
set_option linter.unusedSimpArgs false

/-- What Known answers, with a row of its own. -/
def RKPost (ps : List Ac) (os : List Ou) (w : World) (r : Ending) (w' : World) : Prop :=
  ∃ v es, r = .returned (.tuple #[v, .int .i64 (rtE ps os)]) ∧ EO (w.heap.size + 1) w.heap.size w' v es ∧ Hid (es.map En.bs = if may ps os.length = true then knB ps os else []) ∧ Hid (∀ e ∈ es, e.sm = shl e.bs) ∧ Below w.heap.size w w'
/-- The entry of a leaf. -/
def lfE (sp : Option Addr) (m cap : Nat) (L : List Int) : En := ⟨sp, m, cap, 0 :: L, lf L⟩
theorem take_map_next {α : Type} {f : α → List Int} {l : List α} {j : Nat} {a : α} (h : l[j]? = some a) : (l.map f).take (j + 1) = (l.map f).take j ++ [f a] := take_succ' (by simp [h])
theorem EO.farN {base ax M : Nat} {w w' : World} {r : Option Nat} {v : Value} {es : List En} (h : EO base ax w v es) (hi : Hid ((∀ k, v.ownBlock = some k → k < M) ∧ ∀ e ∈ es, ∀ b off, e.sp = some ⟨b, off, none⟩ → b < M)) (hg : w.grownBy w' r) (hr : ∀ k, r = some k → k < base ∨ M ≤ k) : EO base ax w' v es := by
  have hz := hg.size
  refine ⟨own_same h.own (fun k hk => hg.block k (own_lt h.own hk) (fun e => ?_)), fun e he => ((h.ok e he).far hg (Nat.le_refl _) (fun b off q hb => ?_)).mono hz, fun e he b off q => ?_⟩
  · have h1 := own_ge h.own k hk
    have h2 := hi.out.1 k hk
    have := hr k e.symm
    omega
  · have h1 := (h.ap e he b off q).1
    have h2 := hi.out.2 e he b off q
    have := hr b hb.symm
    omega
  · obtain ⟨a1, a2, a3⟩ := h.ap e he b off q
    exact ⟨a1, by omega, a3⟩
theorem EO.inN {base ax : Nat} {w : World} {v : Value} {es : List En} (h : EO base ax w v es) : Hid ((∀ k, v.ownBlock = some k → k < w.heap.size) ∧ ∀ e ∈ es, ∀ b off, e.sp = some ⟨b, off, none⟩ → b < w.heap.size) :=
  Hid.mk' ⟨fun k hk => own_lt h.own hk, fun e he b off q => (h.ap e he b off q).2.1⟩
/-- Entries of another row, to be appended to one that lies below them. -/
theorem EO.apN {base ax base2 ax2 : Nat} {w : World} {v v2 : Value} {es fs : List En} (h : EO base2 ax2 w v2 fs) (hb : base ≤ base2) (hx : ax < base2) (hv : ∀ k, v.ownBlock = some k → k < base2 ∨ ∀ e ∈ fs, ∀ b off, e.sp = some ⟨b, off, none⟩ → b < k) : ∀ e ∈ fs, ∀ b off, e.sp = some ⟨b, off, none⟩ → base ≤ b ∧ b < w.heap.size ∧ some b ≠ v.ownBlock ∧ b ≠ ax := fun e he b off q => by
  obtain ⟨a1, a2, a3, a4⟩ := h.ap e he b off q
  refine ⟨by omega, a2, fun hb' => ?_, by omega⟩
  rcases hv b hb'.symm with h' | h'
  · omega
  · have := h' e he b off q; omega
theorem prs31 {l : List (List Int)} (h : l.length ≤ 32) {es : List En} (hb : es.map En.bs = prs 5 (pad l)) : es.length = 31 := by
  have h1 := congrArg List.length hb
  have h2 := prs_len 5 (pad l) (pad_len h)
  rw [List.length_map] at h1
  omega
set_option maxHeartbeats 4000000 in
theorem refKnown_ok (ps : List Ac) (N : Nat) (sp : Option Addr) (n cap : Nat) (os : List Ou) (w : World) (hS : SS N w ps sp n cap os) (hm : may ps n = true) :
    Calls Try.prog 20 #[.agg (stA ps sp n cap)] w (RKPost ps os w) := by
  have hS := hS.here
  have h1 := hS.a32.out
  have h2 := hS.l32
  have hok := hS.ok
  have hn32 : n ≤ 32 := may_le hm
  have hlen := hS.outs.len
  have A0 := Arr.new w 38 (stA ps sp n cap)
  have B0 := alloc_bel' w (.cells (stA ps sp n cap) 38)
  have hM := refMay_any ps sp n cap (w.alloc (.cells (stA ps sp n cap) 38)) h1 hok.out (by omega)
  rw [hm] at hM
  replace hM := Hid.mk' hM
  have hrt : Hid (rtE ps os = 0) := Hid.mk' (by unfold rtE; rw [← hlen.out, if_pos hm])
  have hkn : Hid ((if may ps os.length = true then knB ps os else []) = knB ps os) := Hid.mk' (by rw [← hlen.out, if_pos hm])
  clear hm
  go_enter Try.func20, Try.ntmps20
  go_upto_region 3 with (first
    | (refine ld30 (by rfl) _ (by rfl) w.heap.size 38 (by rfl) ps sp n cap h1 h2 A0 ?_)
    | (go_at_call 19; go_must (refine hM.out.mono ?_; rintro e W0 ⟨rfl, hb0⟩; have A1 := A0.bel hb0; have B1 := B0.trans (hb0.mono (by simp)); clear A0 B0)))
  clear hM hb0
  go_upto_region 5 with fail
  go_loopw [4, 5] (fun u q wr => ∃ (j : Nat) (es : List En) (vo : Value), vo = u ∧ q = .int .i64 (j : Int) ∧ j ≤ 32 ∧ Hid (es.length = j) ∧ EO (w.heap.size + 1) w.heap.size wr vo es ∧ Arr wr w.heap.size 38 (stA ps sp n cap) ∧ Hid (es.map En.bs = (ps.map fun a => 0 :: acb a).take j) ∧ Hid (∀ e ∈ es, e.sm = shl e.bs) ∧ Below w.heap.size w wr)
    (fun _ q _ => 32 - (intOf q).toNat)
  case atStart => exact ⟨0, [], _, rfl, rfl, by omega, Hid.mk' rfl, EO.nil _ _ _, A1, Hid.mk' rfl, Hid.mk' (fun e he => (by cases he)), B1⟩
  case round =>
    obtain ⟨j, es, vo, rfl, rfl, hj, hel, hE, A2, hbs, hsm, B2⟩ := hrel
    clear A1 B1
    have hz := A2.lt
    by_cases hlt : j < 32
    · have hI : (j : Int) < 32 := by omega
      obtain ⟨a, ha⟩ : ∃ a, ps[j]? = some a := ⟨ps[j]'(by omega), List.getElem?_eq_getElem _⟩
      have hao := hok.out a (List.mem_of_getElem? ha)
      have ha32 := hao.l32
      have hRa := A2.stAt h2 ha
      have hnx := Hid.mk' (take_map_next (f := fun a => 0 :: acb a) ha)
      clear ha
      go_upto_region 8 with (first
        | (refine ld26 (by rfl) _ (by rfl) w.heap.size (j * 34) (by rfl) a ha32 hRa ?_)
        | (go_at_call 24; go_must (refine (refAcBytes_any a _ hao).mono ?_; rintro e w2 ⟨v2, rfl, hown2, hb2⟩)))
      obtain ⟨sp2, cp2, rfl, hS2, hsp2⟩ := own_bs hown2 (acb_bts hao) (by omega)
      have hE2 := hE.below hb2
      have B3 := B2.trans (hb2.mono B2.size)
      have A3 := A2.bel hb2
      have hs2 := hb2.size
      have hlit : (w2.alloc (.cells #[.int .u8 0] 5)).ownsRow w2.heap.size 5 1 (.slice (some ⟨w2.heap.size, 0, none⟩) 1 1) 1 (by8 [0]) := World.ownsRow_lit _ _ _ (Nat.le_refl _) (by unfold maxLen; omega) rfl
      have hb3 := alloc_bel' w2 (.cells #[.int .u8 0] 5)
      have hS3 := hS2.below hb3
      have hn2 := hS2.nil
      have hlen2 := hS2.len
      have hbt : Bts (0 :: (acb a)) := Bts.zero (acb_bts hao)
      have hob := fun (k : Nat) hk => (own_eq hE.own (k := k) hk).2
      clear hown2
      go_wp2_with (first
        | (at_builtin; refine append_bytes (by rfl) (.tmp 29) (.tmp 30) (by rfl) w2.heap.size _ 1 [0] (by rfl) hlit sp2 48 cp2 (acb a) (by rfl) hlen2.out hn2 hS3.sl (by omega) (by simp) ?_; intro v4 w4 hown4 hg4; obtain ⟨sp4, cp4, rfl, hS4, hsp4⟩ := own_bs hown4 hbt (by omega); have hb4 : Below w2.heap.size w2 w4 := hb3.grown hg4 hb3.size (fun k e => own_ge hlit k e); have hE4 := hE2.below hb4; have B4 := B3.trans (hb4.mono B3.size); have A4 := A3.bel hb4; have hS24 := hS2.below hb4; have hs4 := hb4.size)
        | (go_at_call 37; go_must (refine (refLeaf_bs sp2 48 cp2 _ (acb a) _ hS24 (by omega)).mono ?_; rintro e w5 ⟨rfl, hb5⟩; have hE5 := hE4.below hb5; have B5 := B4.trans (hb5.mono B4.size); have A5 := A4.bel hb5; have hS5 := hS4.below hb5; have hs5 := hb5.size; have hE6 := hE5.below (alloc_bel' w5 (.cells (En.arr (lfE sp4 (1 + 48) cp4 (acb a))) 71)); have hS6 := hS5.below ((alloc_bel' w5 (.cells (En.arr (lfE sp4 (1 + 48) cp4 (acb a))) 71)).mono hs5); have B6 := B5.alloc B5.size (.cells (En.arr (lfE sp4 (1 + 48) cp4 (acb a))) 71); have A6 := A5.alloc (.cells (En.arr (lfE sp4 (1 + 48) cp4 (acb a))) 71); have hok6 : EnOK (w5.alloc (.cells (En.arr (lfE sp4 (1 + 48) cp4 (acb a))) 71)).heap.size (w5.alloc (.cells (En.arr (lfE sp4 (1 + 48) cp4 (acb a))) 71)) (lfE sp4 (1 + 48) cp4 (acb a)) := (⟨hS6.mono (by simp; omega), lf_len _⟩)))
        | (refine bdT (by rfl) 71 _ (by rfl) (by rfl) (built54 sp4 (1 + 48) cp4 (lf (acb a)) (lf_len _) (0 :: (acb a))) ?_)
        | (refine bldE (by rfl) _ (by rfl) (lfE sp4 (1 + 48) cp4 (acb a)) (by rfl) (lf_len _) ?_)
        | (at_builtin; go_must (refine appE (by rfl) (.tmp 28) (.tmp 35) (by rfl) (w.heap.size + 1) w.heap.size _ es (lfE sp4 (1 + 48) cp4 (acb a)) (by rfl) hE6 w5.heap.size 1 (by rfl) (Arr.new w5 71 _) hok6 (apart hS5 (by omega) (M := w2.heap.size) (fun g off e => (hsp4 g off e).1) (fun k hk => by have := hob k hk; omega) (by omega) (by omega) (by simp; omega)) (by have := hel.out; omega) (by simp; omega) ?_; intro v' w6 hE7 hG7 hl7; have B7 := B6.grown hG7 B6.size (fun k e => by have := (own_eq hE6.own e).1; omega); have A7 := A6.grown hG7 (fun e => by have := (own_eq hE6.own e.symm).1; omega))))
      go_roundw
      case rel =>
        refine ⟨j + 1, _, _, rfl, by go_num, by omega, Hid.mk' (by rw [List.length_append, hel.out]; rfl), hE7, A7, Hid.mk' ?_, Hid.mk' ?_, B7⟩
        · rw [List.map_append, hbs.out, hnx.out]; rfl
        · intro e he
          rcases List.mem_append.1 he with he | he
          · exact hsm.out e he
          · simp at he; subst he; rfl
      case measure => simp [intOf]; omega
    · have hjI : (j : Int) = 32 := by omega
      simp only [hjI]
      clear hjI
      obtain rfl : j = 32 := by omega
      have ht : Hid (es.map En.bs = ps.map fun a => 0 :: acb a) := Hid.mk' (by rw [hbs.out, List.take_of_length_le (by rw [List.length_map, h1]; exact Nat.le_refl _)])
      clear hbs
      obtain ⟨W1, hW1⟩ : ∃ W1, W1 = wr := ⟨_, rfl⟩
      subst hW1
      obtain ⟨e0, he0⟩ : ∃ x, x = es := ⟨_, rfl⟩
      subst he0
      go_upto_region 10 with fail
      go_loopw [4, 7] (fun u q wr => ∃ (j : Nat) (es : List En) (vo : Value), vo = u ∧ q = .int .i64 (j : Int) ∧ j ≤ n ∧ Hid (es.length = 32 + j) ∧ EO (w.heap.size + 1) w.heap.size wr vo es ∧ Arr wr w.heap.size 38 (stA ps sp n cap) ∧ Hid (es.map En.bs = (ps.map fun a => 0 :: acb a) ++ (os.map fun a => 0 :: oub a).take j) ∧ Hid (∀ e ∈ es, e.sm = shl e.bs) ∧ Below w.heap.size w wr)
        (fun _ q _ => n - (intOf q).toNat)
      case atStart => exact ⟨0, _, _, rfl, rfl, by omega, hel, hE, A2, Hid.mk' (by rw [ht.out]; simp), hsm, B2⟩
      case round =>
        clear hE A2 hsm B2 hel ht hz
        obtain ⟨j, es, vo, rfl, rfl, hj, hel, hE, A2, hbs, hsm, B2⟩ := hrel
        have hz := A2.lt
        have cO := A2.stOut h1 h2
        by_cases hlt : j < n
        · have hI : (j : Int) < n := by omega
          obtain ⟨go, oo, rfl, hgo0, hRo⟩ := hS.outs.at0 (by omega)
          obtain ⟨a, ha⟩ : ∃ q, os[j]? = some q := ⟨os[j]'(by rw [← hlen.out]; exact hlt), List.getElem?_eq_getElem _⟩
          have rO := range_below (hRo j a ha) B2 hgo0
          have hnx := Hid.mk' (take_map_next (f := fun a => 0 :: oub a) ha)
          clear ha hRo
          go_upto_region 13 with (first
            | (refine ld53 (by rfl) _ (by rfl) go (oo + j * 2) (by rfl) a rO ?_)
            | (go_at_call 38; go_must (refine (refOuBytes_any a _).mono ?_; rintro e w2 ⟨v2, rfl, hown2, hb2⟩)))
          obtain ⟨sp2, cp2, rfl, hS2, hsp2⟩ := own_bs hown2 (oub_bts a) (by omega)
          have hE2 := hE.below hb2
          have B3 := B2.trans (hb2.mono B2.size)
          have A3 := A2.bel hb2
          have hs2 := hb2.size
          have hlit : (w2.alloc (.cells #[.int .u8 0] 5)).ownsRow w2.heap.size 5 1 (.slice (some ⟨w2.heap.size, 0, none⟩) 1 1) 1 (by8 [0]) := World.ownsRow_lit _ _ _ (Nat.le_refl _) (by unfold maxLen; omega) rfl
          have hb3 := alloc_bel' w2 (.cells #[.int .u8 0] 5)
          have hS3 := hS2.below hb3
          have hn2 := hS2.nil
          have hlen2 := hS2.len
          have hbt : Bts (0 :: (oub a)) := Bts.zero (oub_bts a)
          have hob := fun (k : Nat) hk => (own_eq hE.own (k := k) hk).2
          clear hown2
          go_wp2_with (first
            | (at_builtin; refine append_bytes (by rfl) (.tmp 51) (.tmp 52) (by rfl) w2.heap.size _ 1 [0] (by rfl) hlit sp2 16 cp2 (oub a) (by rfl) hlen2.out hn2 hS3.sl (by omega) (by simp) ?_; intro v4 w4 hown4 hg4; obtain ⟨sp4, cp4, rfl, hS4, hsp4⟩ := own_bs hown4 hbt (by omega); have hb4 : Below w2.heap.size w2 w4 := hb3.grown hg4 hb3.size (fun k e => own_ge hlit k e); have hE4 := hE2.below hb4; have B4 := B3.trans (hb4.mono B3.size); have A4 := A3.bel hb4; have hS24 := hS2.below hb4; have hs4 := hb4.size)
            | (go_at_call 37; go_must (refine (refLeaf_bs sp2 16 cp2 _ (oub a) _ hS24 (by omega)).mono ?_; rintro e w5 ⟨rfl, hb5⟩; have hE5 := hE4.below hb5; have B5 := B4.trans (hb5.mono B4.size); have A5 := A4.bel hb5; have hS5 := hS4.below hb5; have hs5 := hb5.size; have hE6 := hE5.below (alloc_bel' w5 (.cells (En.arr (lfE sp4 (1 + 16) cp4 (oub a))) 71)); have hS6 := hS5.below ((alloc_bel' w5 (.cells (En.arr (lfE sp4 (1 + 16) cp4 (oub a))) 71)).mono hs5); have B6 := B5.alloc B5.size (.cells (En.arr (lfE sp4 (1 + 16) cp4 (oub a))) 71); have A6 := A5.alloc (.cells (En.arr (lfE sp4 (1 + 16) cp4 (oub a))) 71); have hok6 : EnOK (w5.alloc (.cells (En.arr (lfE sp4 (1 + 16) cp4 (oub a))) 71)).heap.size (w5.alloc (.cells (En.arr (lfE sp4 (1 + 16) cp4 (oub a))) 71)) (lfE sp4 (1 + 16) cp4 (oub a)) := (⟨hS6.mono (by simp; omega), lf_len _⟩)))
            | (refine bdT (by rfl) 71 _ (by rfl) (by rfl) (built54 sp4 (1 + 16) cp4 (lf (oub a)) (lf_len _) (0 :: (oub a))) ?_)
            | (refine bldE (by rfl) _ (by rfl) (lfE sp4 (1 + 16) cp4 (oub a)) (by rfl) (lf_len _) ?_)
            | (at_builtin; go_must (refine appE (by rfl) (.tmp 50) (.tmp 57) (by rfl) (w.heap.size + 1) w.heap.size _ es (lfE sp4 (1 + 16) cp4 (oub a)) (by rfl) hE6 w5.heap.size 1 (by rfl) (Arr.new w5 71 _) hok6 (apart hS5 (by omega) (M := w2.heap.size) (fun g off e => (hsp4 g off e).1) (fun k hk => by have := hob k hk; omega) (by omega) (by omega) (by simp; omega)) (by have := hel.out; omega) (by simp; omega) ?_; intro v' w6 hE7 hG7 hl7; have B7 := B6.grown hG7 B6.size (fun k e => by have := (own_eq hE6.own e).1; omega); have A7 := A6.grown hG7 (fun e => by have := (own_eq hE6.own e.symm).1; omega))))
          go_roundw
          case rel =>
            refine ⟨j + 1, _, _, rfl, by go_num, by omega, Hid.mk' (by rw [List.length_append, hel.out]; rfl), hE7, A7, Hid.mk' ?_, Hid.mk' ?_, B7⟩
            · rw [List.map_append, hbs.out, hnx.out, List.append_assoc]; rfl
            · intro e he
              rcases List.mem_append.1 he with he | he
              · exact hsm.out e he
              · simp at he; subst he; rfl
          case measure => simp [intOf]; omega
        · obtain rfl : j = n := by omega
          have hI : ¬ (j : Int) < j := by omega
          have ht : Hid (es.map En.bs = (ps.map fun a => 0 :: acb a) ++ os.map fun a => 0 :: oub a) := Hid.mk' (by rw [hbs.out, List.take_of_length_le (by rw [List.length_map, ← hlen.out]; exact Nat.le_refl _)])
          clear hbs
          go_upto_region 14 with fail
          clear cO
          have SSr := hS.below B2
          have hol : (ol os).length ≤ 32 := by rw [ol_len, ← hlen.out]; exact hn32
          have hal : (al ps).length ≤ 32 := by rw [al_len, h1]; exact Nat.le_refl _
          have t1 : (tr 5 (al ps)).length = 32 := tr5_len (al_32 ps)
          have t2 : (tr 5 (ol os)).length = 32 := tr5_len (ol_32 os)
          have bt1 := tr_bts 5 _ (al_bts ps)
          have bt2 := tr_bts 5 _ (ol_bts os)
          have iN := hE.inN
          obtain ⟨X, hXe⟩ : ∃ X, X = tr 5 (al ps) := ⟨_, rfl⟩
          obtain ⟨Y, hYe⟩ : ∃ Y, Y = tr 5 (ol os) := ⟨_, rfl⟩
          rw [← hXe] at t1 bt1
          rw [← hYe] at t2 bt2
          replace hXe := Hid.mk' hXe
          replace hYe := Hid.mk' hYe
          go_upto_region 15 with (first
            | (refine ld30 (by rfl) _ (by rfl) w.heap.size 38 (by rfl) ps sp j cap h1 h2 A2 ?_)
            | (go_at_call 39; go_must (refine (refLeaves_any ps _ sp j cap os _ SSr hn32).mono ?_; rintro r w2 ⟨s1, c1, s2, c2, rfl, H1, H2, hb2⟩; have E2 := hE.below hb2; have B3 := B2.trans (hb2.mono B2.size); clear hE)))
          have z2 := hb2.size
          go_upto_region 16 with (first
            | (go_at_call 40; go_must (refine (refPairs_any (al ps) _ s1 32 c1 _ H1 (by omega) (al_bts ps)).mono ?_; rintro r w3 ⟨v1, f1, rfl, F3, hf1, hq1, hb3⟩; have E3 := E2.below hb3; have B4 := B3.trans (hb3.mono B3.size); have H23 := H2.below hb3; rw [← hXe.out]; clear E2))
            | (refine atS 32 (.tmp 12) (.tmp 68) ?_; refine st24n (by rfl) (.tmp 12) (.tmp 68) (by rfl) w3 w3.heap.size rfl (by rfl) X (by rfl) (by rfl) t1 ?_))
          have z3 := hb3.size
          have a4 := alloc_bel' w3 (.cells (h8 X) 32)
          have G4 := Arr.new w3 32 (h8 X)
          have E4 := E3.below a4
          have F4 := F3.below a4
          have H4 := H23.below (a4.mono z3)
          have B5 := B4.alloc B4.size (.cells (h8 X) 32)
          have z4 : w3.heap.size < (w3.alloc (.cells (h8 X) 32)).heap.size := by simp
          generalize hG1 : w3.heap.size = G1 at G4 ⊢
          generalize w3.alloc (.cells (h8 X) 32) = w4 at G4 E4 F4 H4 B5 z4 a4 ⊢
          clear E3 F3 H23 B4 hb3
          have i4 := F4.inN
          go_upto_region 17 with (first
            | (go_at_call 40; go_must (refine (refPairs_any (ol os) _ s2 j c2 _ H4 hn32 (ol_bts os)).mono ?_; rintro r w5 ⟨v2, f2, rfl, F5, hf2, hq2, hb5⟩; have E5 := E4.below hb5; have K5 := F4.below hb5; have B6 := B5.trans (hb5.mono B5.size); have G5 := G4.bel hb5; rw [← hYe.out]; clear E4 F4))
            | (refine atS 32 (.tmp 14) (.tmp 73) ?_; refine st24n (by rfl) (.tmp 14) (.tmp 73) (by rfl) w5 w5.heap.size rfl (by rfl) Y (by rfl) (by rfl) t2 ?_))
          have z5 := hb5.size
          have a6 := alloc_bel' w5 (.cells (h8 Y) 32)
          have Q6 := Arr.new w5 32 (h8 Y)
          have G6 := G5.alloc (.cells (h8 Y) 32)
          have E6 := E5.below a6
          have F6 := F5.below a6
          have K6 := K5.below a6
          have B7 := B6.alloc B6.size (.cells (h8 Y) 32)
          have z6 : w5.heap.size < (w5.alloc (.cells (h8 Y) 32)).heap.size := by simp
          generalize hG2 : w5.heap.size = G2 at Q6 ⊢
          generalize w5.alloc (.cells (h8 Y) 32) = w6 at Q6 G6 E6 F6 K6 B7 z6 a6 ⊢
          clear E5 F5 K5 B6 G5 hb5 G4 B5
          have hf1l := prs31 hal hf1.out
          have hf2l := prs31 hol hf2.out
          obtain ⟨gp, cp, rfl, hgp, hgp2, hRp⟩ := K6.sl1 (by omega)
          obtain ⟨gq, cq, rfl, hgq, hgq2, hRq⟩ := F6.sl1 (by omega)
          have HF1 := Hid.mk' hf1l
          have HF2 := Hid.mk' hf2l
          rw [hf1l, hf2l]
          clear hf1l hf2l
          have i6 := F6.inN
          have ap1 := K6.apN (base := w.heap.size + 1) (ax := w.heap.size) (v := vo) (es := es) (by omega) (by omega) (fun k hk => .inl (by have := iN.out.1 k hk; omega))
          have G1lt := G6.lt
          have Q6lt := Q6.lt
          have hovo : ∀ k, vo.ownBlock = some k → w.heap.size + 1 ≤ k ∧ k < wr.heap.size := fun k hk => ⟨own_ge E6.own k hk, iN.out.1 k hk⟩
          have hes64 : es.length ≤ 64 := by have := hel.out; omega
          have hwj : IntKind.u64.wrap (j : Int) = j := by
            simp only [IntKind.wrap, IntKind.bits, IntKind.signed]; simp; omega
          have hwj2 : (j : Int) % 18446744073709551616 = j := by omega
          clear H1 H2 H4 a4 a6 hb2 A2 SSr
          go_upto_region 18 with (first
            | (refine atA (.tmp 76) (.tmp 77) ?_; go_must (refine appEs (by rfl) (.tmp 76) (.tmp 77) (by rfl) (w.heap.size + 1) w.heap.size _ _ f2 (by rfl) E7 gq 0 31 cq HF2.out.symm (by rfl) hRq7 (fun e he => F7.ok e he) ap2 (by rw [List.length_append, HF1.out]; omega) (by omega) (by omega) ?_; intro v8 w8 E8 g8 h8'; have z8 := g8.size; have G8 := G7.grown g8 (fun e => by have := hv7 _ e.symm; omega); have Q8 := Q7.grown g8 (fun e => by have := hv7 _ e.symm; omega); have B9 := B8.grown g8 B8.size (fun k e => by have := hv7 k e; omega)))
            | (refine atA (.tmp 74) (.tmp 75) ?_; go_must (refine appEs (by rfl) (.tmp 74) (.tmp 75) (by rfl) (w.heap.size + 1) w.heap.size _ es f1 (by rfl) E6 gp 0 31 cp HF1.out.symm (by rfl) hRp (fun e he => K6.ok e he) ap1 (by omega) (by omega) (by omega) ?_; intro v7 w7 E7 g7 h7; have z7 := g7.size; have F7 := F6.farN i6 g7 (fun k hk => .inl (by have := hovo k hk; omega)); have hRq7 : ∀ i e, f2[i]? = some e → w7.rangeAt gq (0 + i * 33) e.cells := (fun i e he j' v hv => (World.cell?_of_block (w := w6) (a := ⟨gq, 0 + i * 33 + j', none⟩) (g7.block gq hgq2 (fun e => by have := hovo _ e.symm; omega))).trans (hRq i e he j' v hv)); have hv7 : ∀ k, v7.ownBlock = some k → w.heap.size + 1 ≤ k ∧ (k < wr.heap.size ∨ k = w6.heap.size) := (fun k hk => ⟨own_ge E7.own k hk, h7.elim (fun e => .inl (hovo k (e.symm.trans hk)).2) (fun e => .inr (by rw [e] at hk; exact (Option.some.inj hk).symm))⟩); have ap2 := F7.apN (base := w.heap.size + 1) (ax := w.heap.size) (v := v7) (es := es) (by omega) (by omega) (fun k hk => (hv7 k hk).2.elim (fun h => .inl (by omega)) (fun h => .inr (fun e he b off q => by rw [h]; exact i6.out.2 e he b off q))); have G7 := G6.grown g7 (fun e => by have := hovo _ e.symm; omega); have Q7 := Q6.grown g7 (fun e => by have := hovo _ e.symm; omega); have B8 := B7.grown g7 B7.size (fun k e => by have := hovo k e; omega))))
          clear E6 F6 K6 E7 F7 G6 G7 Q6 Q7 B7 B8 ap1 ap2 hRp hRq hRq7 g7 g8 h7 h8' i4 i6 iN
          have rg1 := G8.range
          have rg2 := Q8.range
          go_upto_region 19 with (first
            | (refine atL 32 (.tmp 12) ?_; refine ld24 (by rfl) (.tmp 12) (by rfl) G1 0 (by rfl) X t1 rg1 ?_)
            | (refine atL 32 (.tmp 14) ?_; refine ld24 (by rfl) (.tmp 14) (by rfl) G2 0 (by rfl) Y t2 rg2 ?_)
            | (go_at_call 41; go_must (refine (entry_any X Y _ t1 t2 bt1 bt2).mono ?_; rintro r w9 ⟨e9, rfl, he9, hbs9, hsp9, hb9⟩; have E9 := E8.below hb9; have B10 := B9.trans (hb9.mono B9.size); have hs9 := he9.s32))
            | (refine atS 71 (.tmp 15) (.tmp 81) ?_; refine st54n (by rfl) (.tmp 15) (.tmp 81) (by rfl) w9 w9.heap.size rfl (by rfl) e9 (by rfl) (by rfl) hs9 ?_))
          have z9 := hb9.size
          have a10 := alloc_bel' w9 (.cells e9.arr 71)
          have R10 := En.range (Arr.new w9 71 e9.arr)
          have E10 := E9.below a10
          have B11 := B10.alloc B10.size (.cells e9.arr 71)
          have he10 := (he9.below a10).mono a10.size
          have z10 : (w9.alloc (.cells e9.arr 71)).heap.size = w9.heap.size + 1 := by simp
          have hn9 : 0 < e9.n := by have := he9.body.len.out; rw [hbs9.out.1] at this; simp at this; omega
          have hsp10 : ∀ b off, e9.sp = some ⟨b, off, none⟩ → w8.heap.size ≤ b ∧ b < w9.heap.size := fun b off q => ⟨hsp9 b off q, by obtain ⟨b', off', q', hb', -⟩ := he9.body.at0 hn9; rw [q] at q'; cases q'; exact hb'⟩
          have hov8 : ∀ k, v8.ownBlock = some k → w.heap.size + 1 ≤ k ∧ k < w8.heap.size := fun k hk => own_eq E8.own hk
          generalize hG3 : w9.heap.size = G3 at R10 z10 hsp10 z9 ⊢
          generalize w9.alloc (.cells e9.arr 71) = w10 at R10 E10 B11 he10 z10 ⊢
          clear E8 E9 B9 B10 hb9 a10 he9 G8 Q8 rg1 rg2 hsp9
          have b9m := shl_bts (1 :: (X ++ Y))
          rw [← hbs9.out.2] at b9m
          have hes : (es ++ f1 ++ f2).length ≤ 1000 := by rw [List.length_append, List.length_append, HF1.out, HF2.out]; omega
          refine wp_region_held_drew (S := fun u => u.rangeAt G3 0 e9.cells) (by kernel_rfl) (by simpa using R10) (fun hHeld => ?_)
          refine wpAnyH_take (i := 0) (oi := ⟨_, _, _, _, _, _⟩) (v := ?_) rfl (by kernel_rfl) (by kernel_rfl) (by kernel_rfl) (fun _ _ _ h => h) (Or.inl ⟨by rfl, ?_⟩) (by assumption) ?_
          rotate_left
          · intro u hSw
            go_simp
            try (with_reducible rfl)
          try simp only [Act.put, List.setIfInBounds_toArray, List.set_cons_zero, List.set_cons_succ]
          refine wpAnyH_take (i := 1) (oi := ⟨_, _, _, _, _, _⟩) rfl (by kernel_rfl) (by kernel_rfl) (by kernel_rfl) (fun _ _ _ h => h) (y54 (by rfl) (.tmp 15) rfl G3 0 rfl e9 hs9 (fun u hu => hu)) (by assumption) ?_
          try simp only [Act.put, List.setIfInBounds_toArray, List.set_cons_zero, List.set_cons_succ]
          refine wpAnyH_take (i := 2) (oi := ⟨_, _, _, _, _, _⟩) (v := ?_) rfl (by kernel_rfl) (by kernel_rfl) (by kernel_rfl) (fun _ _ _ h => h) (Or.inl ⟨by rfl, ?_⟩) (by assumption) ?_
          rotate_left
          · intro u hSw
            go_simp
            try (with_reducible rfl)
          try simp only [Act.put, List.setIfInBounds_toArray, List.set_cons_zero, List.set_cons_succ]
          refine wpAnyH_take (i := 3) (oi := ⟨_, _, _, _, _, _⟩) rfl (by kernel_rfl) (by kernel_rfl) (by kernel_rfl) (fun _ _ _ h => h) (y24 (by rfl) (.tmp 84) rfl G3 (0 + 1) rfl e9.sm hs9 (fun u hu => range_sm hu)) (by assumption) ?_
          try simp only [Act.put, List.setIfInBounds_toArray, List.set_cons_zero, List.set_cons_succ]
          refine wpAnyH_take (i := 4) (oi := ⟨_, _, _, _, _, _⟩) (v := ?_) rfl (by kernel_rfl) (by kernel_rfl) (by kernel_rfl) (fun _ _ _ h => h) (Or.inl ⟨by rfl, ?_⟩) (by assumption) ?_
          rotate_left
          · intro u hSw
            go_simp
            try (with_reducible rfl)
          try simp only [Act.put, List.setIfInBounds_toArray, List.set_cons_zero, List.set_cons_succ]
          refine wpAnyH_take (i := 5) (oi := ⟨_, _, _, _, _, _⟩) (v := ?_) rfl (by kernel_rfl) (by kernel_rfl) (by kernel_rfl) (fun _ _ _ h => h) (Or.inl ⟨by rfl, ?_⟩) (by assumption) ?_
          rotate_left
          · intro u hSw
            go_simp
            try (with_reducible rfl)
          try simp only [Act.put, List.setIfInBounds_toArray, List.set_cons_zero, List.set_cons_succ]
          refine wpAnyH_take (i := 6) (oi := ⟨_, _, _, _, _, _⟩) (v := ?_) rfl (by kernel_rfl) (by kernel_rfl) (by kernel_rfl) (fun _ _ _ h => h) (Or.inl ⟨by rfl, ?_⟩) (by assumption) ?_
          rotate_left
          · intro u hSw
            go_simp
            try (with_reducible rfl)
          try simp only [Act.put, List.setIfInBounds_toArray, List.set_cons_zero, List.set_cons_succ]
          refine wpAnyH_ready (rs := [7]) (by kernel_rfl) (by simp) ?_
          refine AllReadyH.cons (o := ⟨_, _, _, _, _, _⟩) rfl (fun K hK => ?_) AllReadyH.nil
          go_simp
          refine (counted_any (j : Int) _).mono ?_; rintro r u1 ⟨rfl, hb1⟩; have H1 : Below w10.heap.size w10 u1 := ((Below.refl w10.heap.size w10).drew).trans (hb1.mono (by simp))
          go_wp2_with fail
          refine hK.out _ _ (range_below R10 H1 (by omega)) (fun hHeld => ?_)
          clear hK K
          try simp only [Act.put, List.setIfInBounds_toArray, List.set_cons_zero, List.set_cons_succ]
          refine wpAnyH_ready (rs := [8]) (by kernel_rfl) (by simp) ?_
          refine AllReadyH.cons (o := ⟨_, _, _, _, _, _⟩) rfl (fun K hK => ?_) AllReadyH.nil
          go_simp
          refine (entry_any e9.sm (cnt (j : Int)) _ hs9 (cnt_len _) b9m (cnt_bts _)).mono ?_; rintro r u2 ⟨e11, rfl, he11, hbs11, hsp11, hb2⟩; have H2 := H1.trans (hb2.mono H1.size); have hs11 := he11.s32; have zu2 := hb2.size; have zu1 := H1.size
          go_wp2_with fail
          refine hK.out _ _ (range_below R10 H2 (by omega)) (fun hHeld => ?_)
          clear hK K
          try simp only [Act.put, List.setIfInBounds_toArray, List.set_cons_zero, List.set_cons_succ]
          have a3 := alloc_bel' u2 (.cells (flatE [e9, e11]).toArray 71)
          have L3 := lit2_range (Arr.new u2 71 (flatE [e9, e11]).toArray) hs9 hs11
          have H3 := H2.alloc H2.size (.cells (flatE [e9, e11]).toArray 71)
          have zu3 : (u2.alloc (.cells (flatE [e9, e11]).toArray 71)).heap.size = u2.heap.size + 1 := by simp
          refine wpAnyH_ready (rs := [9]) (by kernel_rfl) (by simp) ?_
          refine AllReadyH.cons (o := ⟨_, _, _, _, _, _⟩) rfl (fun K hK => ?_) AllReadyH.nil
          refine step_want rfl (wp_bldE2 (.tmp 83) (.tmp 90) rfl e9 e11 rfl rfl hs9 hs11 ?_)
          refine hK.out _ _ (range_below R10 H3 (by omega)) (fun hHeld => ?_)
          clear hK K
          try simp only [Act.put, List.setIfInBounds_toArray, List.set_cons_zero, List.set_cons_succ]
          have E11 := E10.below H3
          have he3 := (he10.below H3).mono H3.size
          have he4 := (he11.below a3).mono a3.size
          have hn11 : 0 < e11.n := by have := he11.body.len.out; rw [hbs11.out.1] at this; simp at this; omega
          have ap3 : ∀ e ∈ [e9, e11], ∀ b off, e.sp = some ⟨b, off, none⟩ → w.heap.size + 1 ≤ b ∧ b < (u2.alloc (.cells (flatE [e9, e11]).toArray 71)).heap.size ∧ some b ≠ v8.ownBlock ∧ b ≠ w.heap.size := by
            intro e he b off q
            simp only [List.mem_cons, List.not_mem_nil, or_false] at he
            have hB := B11.size
            rcases he with rfl | rfl
            · have := hsp10 b off q
              exact ⟨by omega, by omega, fun h => (by have := hov8 b h.symm; omega), by omega⟩
            · have h1 := hsp11 b off q
              obtain ⟨b', off', q', hb', -⟩ := he11.body.at0 hn11
              rw [q] at q'; cases q'
              exact ⟨by omega, by omega, fun h => (by have := hov8 b h.symm; omega), by omega⟩
          have ok3 : ∀ e ∈ [e9, e11], EnOK (u2.alloc (.cells (flatE [e9, e11]).toArray 71)).heap.size (u2.alloc (.cells (flatE [e9, e11]).toArray 71)) e := by
            intro e he
            simp only [List.mem_cons, List.not_mem_nil, or_false] at he
            rcases he with rfl | rfl
            · exact he3
            · exact he4
          refine wpAnyH_ready (rs := [10]) (by kernel_rfl) (by simp) ?_
          refine AllReadyH.cons (o := ⟨_, _, _, _, _, _⟩) rfl (fun K hK => ?_) AllReadyH.nil
          refine step_want rfl (wp_appEs (.tmp 82) (.tmp 91) rfl (w.heap.size + 1) w.heap.size v8 _ [e9, e11] rfl E11 u2.heap.size 0 2 2 rfl rfl L3 ok3 ap3 (by omega) (by omega) (by have := B11.size; omega) ?_)
          intro v12 u4 E12 g12 h12
          have z12 := g12.size
          have B13 := (B11.trans (H3.mono B11.size)).grown g12 (B11.trans (H3.mono B11.size)).size (fun k e => by have := hov8 k e; omega)
          have R13 : u4.rangeAt G3 0 e9.cells := fun jj vv hv => (World.cell?_of_block (w := u2.alloc (.cells (flatE [e9, e11]).toArray 71)) (a := ⟨G3, 0 + jj, none⟩) (g12.block G3 (by omega) (fun e => by have := hov8 _ e.symm; omega))).trans (range_below R10 H3 (by omega) jj vv hv)
          refine hK.out _ _ R13 (fun hHeld => ?_)
          clear hK K
          try simp only [Act.put, List.setIfInBounds_toArray, List.set_cons_zero, List.set_cons_succ]
          refine wpAnyH_take (i := 11) (oi := ⟨_, _, _, _, _, _⟩) (v := ?_) rfl (by kernel_rfl) (by kernel_rfl) (by kernel_rfl) (fun _ _ _ h => h) (Or.inl ⟨by rfl, ?_⟩) (by assumption) ?_
          rotate_left
          · intro u hSw
            go_simp
            try (with_reducible rfl)
          try simp only [Act.put, List.setIfInBounds_toArray, List.set_cons_zero, List.set_cons_succ]
          refine wpAnyH_take (i := 12) (oi := ⟨_, _, _, _, _, _⟩) (v := ?_) rfl (by kernel_rfl) (by kernel_rfl) (by kernel_rfl) (fun _ _ _ h => h) (Or.inl ⟨by rfl, ?_⟩) (by assumption) ?_
          rotate_left
          · intro u hSw
            go_simp
            try (with_reducible rfl)
          try simp only [Act.put, List.setIfInBounds_toArray, List.set_cons_zero, List.set_cons_succ]
          refine wpAnyH_done (by kernel_rfl) ?_ _
          go_wp2_with fail
          go_ret2
          refine ⟨v12, _, by rw [hrt.out]; rfl, E12, Hid.mk' ?_, Hid.mk' ?_, B13⟩
          · rw [hkn.out, List.map_append, List.map_append, List.map_append, ht.out, hf1.out, hf2.out]
            simp only [List.map_cons, List.map_nil, hbs9.out.1, hbs11.out.1, hbs9.out.2, hXe.out, hYe.out]
            unfold knB pr
            rw [hlen.out]
          · intro e he
            rcases List.mem_append.1 he with he | he
            · rcases List.mem_append.1 he with he | he
              · rcases List.mem_append.1 he with he | he
                · exact hsm.out e he
                · exact hq1.out e he
              · exact hq2.out e he
            · simp only [List.mem_cons, List.not_mem_nil, or_false] at he
              rcases he with rfl | rfl
              · rw [hbs9.out.2, hbs9.out.1]
              · rw [hbs11.out.2, hbs11.out.1]
end Go.Proofs.Ytbfelelngoonjaa
