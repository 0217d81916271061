/- Ir, Is0x, Is1x, Is2x, Is3x, Is4x, Is5x. -/
import Derived.Test.YtoopgppahfnncaaDoorX02
import Derived.Test.YtoopgppahfnncaaDoorX03
import Derived.Test.YtoopgppahfnncaaDoorX04
import Derived.BigQuiet
import Derived.BigRegion
import Derived.ChangeKeysEq
import Derived.ChangeOld
import Derived.Deep.DeepCutAuto
import Derived.Deep.DrawnRows
import Derived.Deep.MidRow
import Derived.Deep.OwnRows
import Derived.Deep.QuietTactic
import Derived.Deep.RegionHeld3
import Derived.Deep.RegionLaw
import Derived.Deep.RegionWith
import Derived.Deep.WholeRow
import Derived.DeepKeys3
import Derived.Great.BuildSlice
import Derived.Great.FillDense
import Derived.Handy
import Derived.Laws.AppendOwn
import Derived.Laws.AppendOwnNone
import Derived.Laws.BitsLemmas
import Derived.Laws.BytesArg
import Derived.Laws.CopyOwn
import Derived.Laws.CopyRow
import Derived.Laws.DeepBits32
import Derived.Laws.MakeOwn
import Derived.Laws.OwnMore
import Derived.Laws.ResultCell
import Derived.Laws.Tables
import Derived.Lib.AppendZeros
import Derived.Lib.SlBytesConst
import Derived.LoopIn
import Derived.LoopNIn
import Derived.LoopTactic
import Derived.Maps.AppendAt
import Derived.OpenShut
import Derived.OwnWalk
import Derived.OwnWalkIn
import Derived.ProofKit
import Derived.RangeFuncBound
import Derived.RangeFuncCalls
import Derived.RangeFuncLeaves
import Derived.RangeFuncNested
import Derived.RangeFuncRecord
import Derived.Recover
import Derived.Shelf.Abstract
import Derived.Shelf.RegionOpen
import Derived.ShutString
import Derived.SizedLaws
import Derived.TacticsInMore
import Derived.WalkKit
import Derived.WalkLawsBesides
import Derived.WalkSpells
import Derived.Test.YtoopgppahfnncaaDoorX08
import Derived.Test.YtoopgppahfnncaaDoorX09
/- Layer ir: what the layers below give. -/
namespace Go.Proofs.YtoopgppahfnncaaDoor
open Go.RowKit
set_option maxRecDepth 100000
set_option linter.unusedVariables false
set_option linter.unusedSimpArgs false

def DxAt (N : Nat) (vs : Int) (d : Nat) : Prop := ∀ (u : World) (cs : List Value) (t : ExT d) (k : Nat), k ≤ 4096 → N ≤ u.heap.size → ExM N u d cs t →
  Calls Tryd.prog 65 #[.agg cs.toArray, .int .i64 vs, .int .i64 (k : Int), .int .i64 (d : Int)] u (DoP (exN vs d t k) u)
set_option maxHeartbeats 4000000 in
theorem dexpr_s {N d : Nat} {vs : Int} (hd100 : d ≤ 100) (hE : DxAt N vs d) : DxAt N vs (d + 1) := by
  intro w cs t kk hk hN hM
  obtain ⟨sp, m, cap, rfl, hok, hS⟩ := hM
  have b0 := ab w (.cells (exC t.nd.k t.nd.n t.nd.v t.nd.o (.slice sp m cap)).toArray 80)
  by_cases h0 : kk = 0
  · subst h0
    have e : exN vs (d + 1) t 0 = none := by unfold exN; rw [if_pos (.inl rfl)]
    rw [e]
    have hsub : IntKind.i64.wrap (((0 : Nat) : Int) - 1) = -1 := by rw [IntKind.wrap_i64]; omega
    clear hE hS
    unfold exC at *
    go_enter Tryd.func65, Tryd.ntmps65
    go_wp2_with fail
    go_ret
    exact ⟨rfl, b0⟩
  obtain ⟨r, hr⟩ : ∃ r, r = exN vs (d + 1) t kk := ⟨_, rfl⟩
  rw [← hr]
  rw [exN_f h0] at hr
  have hsub : IntKind.i64.wrap ((kk : Int) - 1) = ((kk - 1 : Nat) : Int) := by rw [IntKind.wrap_i64]; omega
  have hneg : ¬ (((kk - 1 : Nat) : Int) < 0) := by omega
  have hd0 : (((d + 1 : Nat) : Int) == 0) = false := by simp; omega
  have hdw : IntKind.i64.wrap (((d + 1 : Nat) : Int) - 1) = (d : Int) := by rw [IntKind.wrap_i64]; omega
  have hlen := hS.len
  have hk1 : kk - 1 ≤ 4096 := by omega
  obtain ⟨⟨k, nn, v, o, l⟩, ht⟩ : ∃ q : ExN (ExT d), q = t.nd := ⟨_, rfl⟩
  rw [← ht] at hr b0 hS hlen ⊢
  clear ht hok h0
  replace hr : r = if fB vs (⟨k, nn, v, o, l⟩ : ExN (ExT d)) = true then (if (l.length : Int) = pN k then fld (exN vs d) l (kk - 1) else none) else none := hr
  replace hlen : Hid (m = l.length) := hlen
  replace hS : RS N w 5 (ExM N w d) sp m cap l := hS
  replace hr := hid hr
  have A := Arr.new w 80 (exC k nn v o (.slice sp m cap)).toArray
  generalize hdd : ((d + 1 : Nat) : Int) = dd at *
  generalize kk - 1 = k1 at *
  unfold exC at *
  replace b0 : Below w.heap.size w (w.alloc (.cells #[.int .u8 k, .int .u64 nn, .int .i64 v, .int .u8 o, .slice sp m cap] 80)) := b0
  replace A : Arr (w.alloc (.cells #[.int .u8 k, .int .u64 nn, .int .i64 v, .int .u8 o, .slice sp m cap] 80)) w.heap.size 80 #[.int .u8 k, .int .u64 nn, .int .i64 v, .int .u8 o, .slice sp m cap] := A
  have hdd2 := hid hdd
  clear hdd
  go_enter Tryd.func65, Tryd.ntmps65
  go_upto_region 5 with fail
  generalize hU : w.alloc (.cells #[.int .u8 k, .int .u64 nn, .int .i64 v, .int .u8 o, .slice sp m cap] 80) = U at *
  have a0 := A.cell 0
  have a1 := A.cell 1
  have a2 := A.cell 2
  have a3 := A.cell 3
  have a4 := A.cell 4
  by_cases h1 : k = 1
  · subst h1
    by_cases c0 : (v != 0) = true
    · have hz : Hid (r = none) := hid (by rw [hr.out, if_neg]; unfold fB; simp at c0 ⊢; omega)
      clear hr
      go_wp2_with fail
      go_ret
      rw [hz.out]
      exact ⟨rfl, b0⟩
    replace c0 : (v != 0) = false := by simpa using c0
    by_cases c1 : (o != 0) = true
    · have hz : Hid (r = none) := hid (by rw [hr.out, if_neg]; unfold fB; simp at c1 ⊢; omega)
      clear hr
      go_wp2_with fail
      go_ret
      rw [hz.out]
      exact ⟨rfl, b0⟩
    replace c1 : (o != 0) = false := by simpa using c1
    have hF : Hid (fB vs (⟨1, nn, v, o, l⟩ : ExN (ExT d)) = true) := hid (by unfold fB; simp at c0 c1 ⊢; omega)
    by_cases hl : (m : Int) = 0
    · have hr2 : Hid (r = fld (exN vs d) l k1) := hid (by rw [hr.out, if_pos hF.out, if_pos (by rw [← hlen.out]; exact hl)])
      have hlb : ((m : Int) != 0) = false := by simpa using hl
      have hpm : Hid (0 = (m : Int)) := hid hl.symm
      have hNU : N ≤ U.heap.size := by have := b0.size; omega
      have hSU := hS.imp (b0.mono hN) (ExM.below (b0.mono hN) d)
      have hsm := hS.small
      clear hl hr hF hS
      go_upto_region 24 with fail
      clear hlb
      go_loopw [2, 10] (fun a i wr => ∃ (j : Nat), i = .int .i64 (j : Int) ∧ j ≤ m ∧ ((∃ q : Nat, q ≤ 4096 ∧ a = .int .i64 (q : Int) ∧ Hid (r = fld (exN vs d) (l.drop j) q)) ∨ (a = .int .i64 (-1) ∧ Hid (r = none))) ∧ Below U.heap.size U wr)
        (fun _ i _ => m - (intOf i).toNat)
      case atStart => exact ⟨0, rfl, by omega, .inl ⟨k1, hk1, rfl, hr2⟩, Below.refl _ _⟩
      case round =>
        obtain ⟨j, rfl, hj, hq, hb⟩ := hrel
        have B2 := b0.trans (hb.mono b0.size)
        rcases hq with ⟨q, hq, rfl, hf⟩ | ⟨rfl, hf⟩
        · have hq0 : (0 : Int) ≤ q := by omega
          by_cases hlt : j < m
          · exact absurd hlt (by have := hpm.out; omega)
          · obtain rfl : j = m := by omega
            have hlt' : ¬ (j : Int) < 0 := by have := hpm.out; omega
            have hrn : Hid (r = some q) := hid (by rw [hf.out, hlen.out, List.drop_length]; rfl)
            clear hSU hf hlen hE
            go_wp2_with fail
            go_ret
            rw [hrn.out]
            exact ⟨rfl, B2⟩
        · clear hSU hlen hE
          by_cases hlt : j < m
          · exact absurd hlt (by have := hpm.out; omega)
          · have hlt' : ¬ (j : Int) < 0 := by have := hpm.out; omega
            go_wp2_with fail
            go_ret
            rw [hf.out]
            exact ⟨rfl, B2⟩
    · have hz : Hid (r = none) := hid (by rw [hr.out, if_pos hF.out, if_neg (by rw [← hlen.out]; exact hl)])
      have hlb : ((m : Int) != 0) = true := by simpa using hl
      clear hr hE hS hlen hl
      go_wp2_with fail
      go_ret
      rw [hz.out]
      exact ⟨rfl, b0⟩
  by_cases h2 : k = 2
  · subst h2
    by_cases c0 : (nn != 0) = true
    · have hz : Hid (r = none) := hid (by rw [hr.out, if_neg]; unfold fB; simp at c0 ⊢; omega)
      clear hr
      go_wp2_with fail
      go_ret
      rw [hz.out]
      exact ⟨rfl, b0⟩
    replace c0 : (nn != 0) = false := by simpa using c0
    by_cases c1 : (o != 0) = true
    · have hz : Hid (r = none) := hid (by rw [hr.out, if_neg]; unfold fB; simp at c1 ⊢; omega)
      clear hr
      go_wp2_with fail
      go_ret
      rw [hz.out]
      exact ⟨rfl, b0⟩
    replace c1 : (o != 0) = false := by simpa using c1
    by_cases c2 : v < 0
    · have hz : Hid (r = none) := hid (by rw [hr.out, if_neg]; unfold fB; simp at c2 ⊢; omega)
      clear hr
      go_wp2_with fail
      go_ret
      rw [hz.out]
      exact ⟨rfl, b0⟩
    by_cases c3 : vs ≤ v
    · have hz : Hid (r = none) := hid (by rw [hr.out, if_neg]; unfold fB; simp at c3 ⊢; omega)
      clear hr
      go_wp2_with fail
      go_ret
      rw [hz.out]
      exact ⟨rfl, b0⟩
    have hF : Hid (fB vs (⟨2, nn, v, o, l⟩ : ExN (ExT d)) = true) := hid (by unfold fB; simp at c0 c1 c2 c3 ⊢; omega)
    by_cases hl : (m : Int) = 0
    · have hr2 : Hid (r = fld (exN vs d) l k1) := hid (by rw [hr.out, if_pos hF.out, if_pos (by rw [← hlen.out]; exact hl)])
      have hlb : ((m : Int) != 0) = false := by simpa using hl
      have hpm : Hid (0 = (m : Int)) := hid hl.symm
      have hNU : N ≤ U.heap.size := by have := b0.size; omega
      have hSU := hS.imp (b0.mono hN) (ExM.below (b0.mono hN) d)
      have hsm := hS.small
      clear hl hr hF hS
      go_upto_region 24 with fail
      clear hlb
      go_loopw [2, 10] (fun a i wr => ∃ (j : Nat), i = .int .i64 (j : Int) ∧ j ≤ m ∧ ((∃ q : Nat, q ≤ 4096 ∧ a = .int .i64 (q : Int) ∧ Hid (r = fld (exN vs d) (l.drop j) q)) ∨ (a = .int .i64 (-1) ∧ Hid (r = none))) ∧ Below U.heap.size U wr)
        (fun _ i _ => m - (intOf i).toNat)
      case atStart => exact ⟨0, rfl, by omega, .inl ⟨k1, hk1, rfl, hr2⟩, Below.refl _ _⟩
      case round =>
        obtain ⟨j, rfl, hj, hq, hb⟩ := hrel
        have B2 := b0.trans (hb.mono b0.size)
        rcases hq with ⟨q, hq, rfl, hf⟩ | ⟨rfl, hf⟩
        · have hq0 : (0 : Int) ≤ q := by omega
          by_cases hlt : j < m
          · exact absurd hlt (by have := hpm.out; omega)
          · obtain rfl : j = m := by omega
            have hlt' : ¬ (j : Int) < 0 := by have := hpm.out; omega
            have hrn : Hid (r = some q) := hid (by rw [hf.out, hlen.out, List.drop_length]; rfl)
            clear hSU hf hlen hE
            go_wp2_with fail
            go_ret
            rw [hrn.out]
            exact ⟨rfl, B2⟩
        · clear hSU hlen hE
          by_cases hlt : j < m
          · exact absurd hlt (by have := hpm.out; omega)
          · have hlt' : ¬ (j : Int) < 0 := by have := hpm.out; omega
            go_wp2_with fail
            go_ret
            rw [hf.out]
            exact ⟨rfl, B2⟩
    · have hz : Hid (r = none) := hid (by rw [hr.out, if_pos hF.out, if_neg (by rw [← hlen.out]; exact hl)])
      have hlb : ((m : Int) != 0) = true := by simpa using hl
      clear hr hE hS hlen hl
      go_wp2_with fail
      go_ret
      rw [hz.out]
      exact ⟨rfl, b0⟩
  by_cases h3 : k = 3
  · subst h3
    by_cases c0 : (nn != 0) = true
    · have hz : Hid (r = none) := hid (by rw [hr.out, if_neg]; unfold fB; simp at c0 ⊢; omega)
      clear hr
      go_wp2_with fail
      go_ret
      rw [hz.out]
      exact ⟨rfl, b0⟩
    replace c0 : (nn != 0) = false := by simpa using c0
    by_cases c1 : (v != 0) = true
    · have hz : Hid (r = none) := hid (by rw [hr.out, if_neg]; unfold fB; simp at c1 ⊢; omega)
      clear hr
      go_wp2_with fail
      go_ret
      rw [hz.out]
      exact ⟨rfl, b0⟩
    replace c1 : (v != 0) = false := by simpa using c1
    by_cases c2 : o < 5
    · have hz : Hid (r = none) := hid (by rw [hr.out, if_neg]; unfold fB; simp at c2 ⊢; omega)
      clear hr
      go_wp2_with fail
      go_ret
      rw [hz.out]
      exact ⟨rfl, b0⟩
    by_cases c3 : 16 < o
    · have hz : Hid (r = none) := hid (by rw [hr.out, if_neg]; unfold fB; simp at c3 ⊢; omega)
      clear hr
      go_wp2_with fail
      go_ret
      rw [hz.out]
      exact ⟨rfl, b0⟩
    have hF : Hid (fB vs (⟨3, nn, v, o, l⟩ : ExN (ExT d)) = true) := hid (by unfold fB; simp at c0 c1 c2 c3 ⊢; omega)
    by_cases hl : (m : Int) = 2
    · have hr2 : Hid (r = fld (exN vs d) l k1) := hid (by rw [hr.out, if_pos hF.out, if_pos (by rw [← hlen.out]; exact hl)])
      have hlb : ((m : Int) != 2) = false := by simpa using hl
      have hpm : Hid (2 = (m : Int)) := hid hl.symm
      have hNU : N ≤ U.heap.size := by have := b0.size; omega
      have hSU := hS.imp (b0.mono hN) (ExM.below (b0.mono hN) d)
      have hsm := hS.small
      clear hl hr hF hS
      go_upto_region 24 with fail
      clear hlb
      go_loopw [2, 10] (fun a i wr => ∃ (j : Nat), i = .int .i64 (j : Int) ∧ j ≤ m ∧ ((∃ q : Nat, q ≤ 4096 ∧ a = .int .i64 (q : Int) ∧ Hid (r = fld (exN vs d) (l.drop j) q)) ∨ (a = .int .i64 (-1) ∧ Hid (r = none))) ∧ Below U.heap.size U wr)
        (fun _ i _ => m - (intOf i).toNat)
      case atStart => exact ⟨0, rfl, by omega, .inl ⟨k1, hk1, rfl, hr2⟩, Below.refl _ _⟩
      case round =>
        obtain ⟨j, rfl, hj, hq, hb⟩ := hrel
        have B2 := b0.trans (hb.mono b0.size)
        rcases hq with ⟨q, hq, rfl, hf⟩ | ⟨rfl, hf⟩
        · have hq0 : (0 : Int) ≤ q := by omega
          by_cases hlt : j < m
          · obtain ⟨t, ht⟩ : ∃ t, l[j]? = some t := ⟨l[j]'(by rw [← hlen.out]; exact hlt), List.getElem?_eq_getElem _⟩
            obtain ⟨g, off, rfl, hg, hR⟩ := hSU.at0 (by omega)
            obtain ⟨cs, hrg, hM⟩ := hR j t ht
            have hrg2 := rb hrg hb (by omega)
            have hM2 := ExM.below (hb.mono hNU) d cs t hM
            obtain ⟨ek, en, ev, eo, es, em, ec, rfl⟩ := hM.cells
            have c0 := hrg2 0 _ rfl
            have c1 := hrg2 1 _ rfl
            have c2 := hrg2 2 _ rfl
            have c3 := hrg2 3 _ rfl
            have c4 := hrg2 4 _ rfl
            simp only [Nat.add_zero] at c0
            have a4' := (A.bl hb).cell 4
            have hlt' : (j : Int) < 2 := by have := hpm.out; omega
            have h0 : (0 : Int) ≤ j := by omega
            have hfd := fld_drop (f := exN vs d) ht q
            have hcc := hE wr _ t q hq (by have := hb.size; omega) hM2
            unfold DoP at hcc
            clear hSU hR hrg hrg2 hM hM2 hlen ht a4 hE A hr2
            cases hx : exN vs d t q with
            | none =>
              rw [hx] at hcc hfd
              have hrn : Hid (r = none) := hid (hf.out.trans hfd)
              clear hx hfd hf
              unfold exC at *
              go_wp2_with (go_at_call 65; go_must (refine hcc.mono ?_; rintro e w1 ⟨rfl, hb1⟩))
              go_roundw
              case rel => exact ⟨j + 1, by go_num, by omega, .inr ⟨rfl, hrn⟩, hb.trans (hb1.mono hb.size)⟩
              case measure => simp [intOf]; omega
            | some q' =>
              have hq' := exN_le d t q q' hx
              rw [hx] at hcc hfd
              have hrn : Hid (r = fld (exN vs d) (l.drop (j + 1)) q') := hid (hf.out.trans hfd)
              clear hx hfd hf
              unfold exC at *
              go_wp2_with (go_at_call 65; go_must (refine hcc.mono ?_; rintro e w1 ⟨rfl, hb1⟩))
              go_roundw
              case rel => exact ⟨j + 1, by go_num, by omega, .inl ⟨q', by omega, rfl, hrn⟩, hb.trans (hb1.mono hb.size)⟩
              case measure => simp [intOf]; omega
          · obtain rfl : j = m := by omega
            have hlt' : ¬ (j : Int) < 2 := by have := hpm.out; omega
            have hrn : Hid (r = some q) := hid (by rw [hf.out, hlen.out, List.drop_length]; rfl)
            clear hSU hf hlen hE
            go_wp2_with fail
            go_ret
            rw [hrn.out]
            exact ⟨rfl, B2⟩
        · clear hSU hlen hE
          by_cases hlt : j < m
          · have hlt' : (j : Int) < 2 := by have := hpm.out; omega
            go_wp2_with fail
            go_ret
            rw [hf.out]
            exact ⟨rfl, B2⟩
          · have hlt' : ¬ (j : Int) < 2 := by have := hpm.out; omega
            go_wp2_with fail
            go_ret
            rw [hf.out]
            exact ⟨rfl, B2⟩
    · have hz : Hid (r = none) := hid (by rw [hr.out, if_pos hF.out, if_neg (by rw [← hlen.out]; exact hl)])
      have hlb : ((m : Int) != 2) = true := by simpa using hl
      clear hr hE hS hlen hl
      go_wp2_with fail
      go_ret
      rw [hz.out]
      exact ⟨rfl, b0⟩
  by_cases h4 : k = 4
  · subst h4
    by_cases c0 : (nn != 0) = true
    · have hz : Hid (r = none) := hid (by rw [hr.out, if_neg]; unfold fB; simp at c0 ⊢; omega)
      clear hr
      go_wp2_with fail
      go_ret
      rw [hz.out]
      exact ⟨rfl, b0⟩
    replace c0 : (nn != 0) = false := by simpa using c0
    by_cases c1 : (v != 0) = true
    · have hz : Hid (r = none) := hid (by rw [hr.out, if_neg]; unfold fB; simp at c1 ⊢; omega)
      clear hr
      go_wp2_with fail
      go_ret
      rw [hz.out]
      exact ⟨rfl, b0⟩
    replace c1 : (v != 0) = false := by simpa using c1
    by_cases c2 : (o != 0) = true
    · have hz : Hid (r = none) := hid (by rw [hr.out, if_neg]; unfold fB; simp at c2 ⊢; omega)
      clear hr
      go_wp2_with fail
      go_ret
      rw [hz.out]
      exact ⟨rfl, b0⟩
    replace c2 : (o != 0) = false := by simpa using c2
    have hF : Hid (fB vs (⟨4, nn, v, o, l⟩ : ExN (ExT d)) = true) := hid (by unfold fB; simp at c0 c1 c2 ⊢; omega)
    by_cases hl : (m : Int) = 1
    · have hr2 : Hid (r = fld (exN vs d) l k1) := hid (by rw [hr.out, if_pos hF.out, if_pos (by rw [← hlen.out]; exact hl)])
      have hlb : ((m : Int) != 1) = false := by simpa using hl
      have hpm : Hid (1 = (m : Int)) := hid hl.symm
      have hNU : N ≤ U.heap.size := by have := b0.size; omega
      have hSU := hS.imp (b0.mono hN) (ExM.below (b0.mono hN) d)
      have hsm := hS.small
      clear hl hr hF hS
      go_upto_region 24 with fail
      clear hlb
      go_loopw [2, 10] (fun a i wr => ∃ (j : Nat), i = .int .i64 (j : Int) ∧ j ≤ m ∧ ((∃ q : Nat, q ≤ 4096 ∧ a = .int .i64 (q : Int) ∧ Hid (r = fld (exN vs d) (l.drop j) q)) ∨ (a = .int .i64 (-1) ∧ Hid (r = none))) ∧ Below U.heap.size U wr)
        (fun _ i _ => m - (intOf i).toNat)
      case atStart => exact ⟨0, rfl, by omega, .inl ⟨k1, hk1, rfl, hr2⟩, Below.refl _ _⟩
      case round =>
        obtain ⟨j, rfl, hj, hq, hb⟩ := hrel
        have B2 := b0.trans (hb.mono b0.size)
        rcases hq with ⟨q, hq, rfl, hf⟩ | ⟨rfl, hf⟩
        · have hq0 : (0 : Int) ≤ q := by omega
          by_cases hlt : j < m
          · obtain ⟨t, ht⟩ : ∃ t, l[j]? = some t := ⟨l[j]'(by rw [← hlen.out]; exact hlt), List.getElem?_eq_getElem _⟩
            obtain ⟨g, off, rfl, hg, hR⟩ := hSU.at0 (by omega)
            obtain ⟨cs, hrg, hM⟩ := hR j t ht
            have hrg2 := rb hrg hb (by omega)
            have hM2 := ExM.below (hb.mono hNU) d cs t hM
            obtain ⟨ek, en, ev, eo, es, em, ec, rfl⟩ := hM.cells
            have c0 := hrg2 0 _ rfl
            have c1 := hrg2 1 _ rfl
            have c2 := hrg2 2 _ rfl
            have c3 := hrg2 3 _ rfl
            have c4 := hrg2 4 _ rfl
            simp only [Nat.add_zero] at c0
            have a4' := (A.bl hb).cell 4
            have hlt' : (j : Int) < 1 := by have := hpm.out; omega
            have h0 : (0 : Int) ≤ j := by omega
            have hfd := fld_drop (f := exN vs d) ht q
            have hcc := hE wr _ t q hq (by have := hb.size; omega) hM2
            unfold DoP at hcc
            clear hSU hR hrg hrg2 hM hM2 hlen ht a4 hE A hr2
            cases hx : exN vs d t q with
            | none =>
              rw [hx] at hcc hfd
              have hrn : Hid (r = none) := hid (hf.out.trans hfd)
              clear hx hfd hf
              unfold exC at *
              go_wp2_with (go_at_call 65; go_must (refine hcc.mono ?_; rintro e w1 ⟨rfl, hb1⟩))
              go_roundw
              case rel => exact ⟨j + 1, by go_num, by omega, .inr ⟨rfl, hrn⟩, hb.trans (hb1.mono hb.size)⟩
              case measure => simp [intOf]; omega
            | some q' =>
              have hq' := exN_le d t q q' hx
              rw [hx] at hcc hfd
              have hrn : Hid (r = fld (exN vs d) (l.drop (j + 1)) q') := hid (hf.out.trans hfd)
              clear hx hfd hf
              unfold exC at *
              go_wp2_with (go_at_call 65; go_must (refine hcc.mono ?_; rintro e w1 ⟨rfl, hb1⟩))
              go_roundw
              case rel => exact ⟨j + 1, by go_num, by omega, .inl ⟨q', by omega, rfl, hrn⟩, hb.trans (hb1.mono hb.size)⟩
              case measure => simp [intOf]; omega
          · obtain rfl : j = m := by omega
            have hlt' : ¬ (j : Int) < 1 := by have := hpm.out; omega
            have hrn : Hid (r = some q) := hid (by rw [hf.out, hlen.out, List.drop_length]; rfl)
            clear hSU hf hlen hE
            go_wp2_with fail
            go_ret
            rw [hrn.out]
            exact ⟨rfl, B2⟩
        · clear hSU hlen hE
          by_cases hlt : j < m
          · have hlt' : (j : Int) < 1 := by have := hpm.out; omega
            go_wp2_with fail
            go_ret
            rw [hf.out]
            exact ⟨rfl, B2⟩
          · have hlt' : ¬ (j : Int) < 1 := by have := hpm.out; omega
            go_wp2_with fail
            go_ret
            rw [hf.out]
            exact ⟨rfl, B2⟩
    · have hz : Hid (r = none) := hid (by rw [hr.out, if_pos hF.out, if_neg (by rw [← hlen.out]; exact hl)])
      have hlb : ((m : Int) != 1) = true := by simpa using hl
      clear hr hE hS hlen hl
      go_wp2_with fail
      go_ret
      rw [hz.out]
      exact ⟨rfl, b0⟩
  have hz : Hid (r = none) := hid (by rw [hr.out, if_neg]; unfold fB; simp [h1, h2, h3, h4])
  replace h1 : (k == 1) = false := by simpa using h1
  replace h2 : (k == 2) = false := by simpa using h2
  replace h3 : (k == 3) = false := by simpa using h3
  replace h4 : (k == 4) = false := by simpa using h4
  clear hr
  go_wp2_with fail
  go_ret
  rw [hz.out]
  exact ⟨rfl, b0⟩
theorem dexpr_any {N : Nat} {vs : Int} : ∀ d : Nat, d ≤ 100 → DxAt N vs d
  | 0, _ => by
    intro w cs t k hk hN hM
    obtain ⟨ek, en, ev, eo, es, em, ec, rfl⟩ := hM.cells
    have b0 := ab w (.cells (exC ek en ev eo (.slice es em ec)).toArray 80)
    rw [show exN vs 0 t k = none from rfl]
    clear hM
    unfold exC at *
    have hsub : IntKind.i64.wrap ((k : Int) - 1) = (k : Int) - 1 := by rw [IntKind.wrap_i64]; omega
    by_cases h0 : (k : Int) - 1 < 0
    · go_enter Tryd.func65, Tryd.ntmps65
      go_wp2_with fail
      go_ret
      exact ⟨rfl, b0⟩
    · go_enter Tryd.func65, Tryd.ntmps65
      go_wp2_with fail
      go_ret
      exact ⟨rfl, b0⟩
  | d + 1, h => dexpr_s (by omega) (dexpr_any d (by omega))
end Go.Proofs.YtoopgppahfnncaaDoor
/- Layer ir: what the layers below give. -/
namespace Go.Proofs.YtoopgppahfnncaaDoor
open Go.RowKit
set_option maxRecDepth 100000
set_option linter.unusedVariables false
set_option linter.unusedSimpArgs false

set_option maxHeartbeats 4000000 in
theorem args_o {α : Type} {N : Nat} {sp : Option Addr} {n cap : Nat} {fs : List FuT} {da vs : Int} {fi : Nat} {fn : FuT} (w : World) (hS : RS N w 3 (FuM N w) sp n cap fs) (hN : N ≤ w.heap.size) (hfi : fs[fi]? = some fn) (hvs : fn.v = vs) (k v f t : Int) (a : List (ExT 8)) (th el : List α) (sa : Option Addr) (na ca : Nat) (sb : Option Addr) (nb cb : Nat) (sc : Option Addr) (nc cc : Nat) (hth : nb = th.length) (hel : nc = el.length) (h1 : k ≠ 1) (h2 : k ≠ 2) (h3 : k ≠ 3) (h4 : k ≠ 4) (h5 : k ≠ 5) (h6 : k ≠ 6) (h7 : k ≠ 7) (h8 : k ≠ 8) (h9 : k ≠ 9) :
    Calls Tryd.prog 64 #[.agg #[.slice sp n cap, .int .i64 da], .int .i64 (fi : Int), .agg (stC k v f t (.slice sa na ca) (.slice sb nb cb) (.slice sc nc cc)).toArray] w (fun e w' => e = .returned (.int .i64 (agN ((fs.take fi).map FuT.p) vs (⟨k, v, f, t, a, th, el⟩ : StN α))) ∧ Below w.heap.size w w') := by
  have b0 : Below w.heap.size w ((w.alloc (.cells #[.slice sp n cap, .int .i64 da] 24)).alloc (.cells (stC k v f t (.slice sa na ca) (.slice sb nb cb) (.slice sc nc cc)).toArray 66)) := (ab w _).alloc (by simp) _
  have hlen := hS.len.out
  have hfl := (List.getElem?_eq_some_iff.1 hfi).1
  have hin : fi < n := by omega
  have hin' : (fi : Int) < n := by omega
  have hpl : ((fs.take fi).map FuT.p).length = fi := by rw [List.length_map, List.length_take]; omega
  obtain ⟨g, off, rfl, hg, hR⟩ := hS.at0 (by omega)
  obtain ⟨cf, hrg, hMf⟩ := hR fi fn hfi
  obtain ⟨qa, qb, qc, rfl, -, -⟩ := hMf
  have hrg2 := rb hrg (b0.mono hN) hg
  have cv : ((w.alloc (.cells #[.slice (some ⟨g, off, none⟩) n cap, .int .i64 da] 24)).alloc (.cells (stC k v f t (.slice sa na ca) (.slice sb nb cb) (.slice sc nc cc)).toArray 66)).cell? ⟨g, off + fi * 3 + 1, none⟩ = some (.int .i64 vs) := by rw [← hvs]; exact hrg2 1 _ rfl
  obtain ⟨z, hz⟩ : ∃ z, z = agN ((fs.take fi).map FuT.p) vs (⟨k, v, f, t, a, th, el⟩ : StN α) := ⟨_, rfl⟩
  rw [← hz]
  have hz2 := hz
  unfold agN g1 g2 g3 nmB at hz2
  dsimp only at hz2
  rw [← hth, ← hel, hpl] at hz2
  replace hz2 := hid hz2
  clear hS hR hrg hrg2 hlen hfl hfi hvs hz hpl hN hth hel
  have hzz : Hid (z = -1) := hid (by rw [hz2.out]; simp [h1, h2, h3, h4, h5, h6, h7, h8, h9])
  replace h1 : (k == 1) = false := by simpa using h1
  replace h2 : (k == 2) = false := by simpa using h2
  replace h3 : (k == 3) = false := by simpa using h3
  replace h4 : (k == 4) = false := by simpa using h4
  replace h5 : (k == 5) = false := by simpa using h5
  replace h6 : (k == 6) = false := by simpa using h6
  replace h7 : (k == 7) = false := by simpa using h7
  replace h8 : (k == 8) = false := by simpa using h8
  replace h9 : (k == 9) = false := by simpa using h9
  have h3' : (k != 3) = true := by simpa using h3
  have h4' : (k != 4) = true := by simpa using h4
  have h6' : (k != 6) = true := by simpa using h6
  have h7' : (k != 7) = true := by simpa using h7
  clear hz2
  unfold stC at *
  by_cases c0 : v < 0
  · go_enter Tryd.func64, Tryd.ntmps64
    go_upto_region 2 with fail
    go_quiet (fail)
    go_wp2_with fail
    go_ret
    rw [hzz.out]
    exact ⟨rfl, dwN ((ab w _).alloc (by simp) _) _⟩
  by_cases c1 : (v != 0) = true
  · go_enter Tryd.func64, Tryd.ntmps64
    go_upto_region 2 with fail
    go_quiet (fail)
    go_wp2_with fail
    go_ret
    rw [hzz.out]
    exact ⟨rfl, dwN ((ab w _).alloc (by simp) _) _⟩
  replace c1 : (v != 0) = false := by simpa using c1
  by_cases c2 : (f != 0) = true
  · go_enter Tryd.func64, Tryd.ntmps64
    go_upto_region 2 with fail
    go_quiet (fail)
    go_wp2_with fail
    go_ret
    rw [hzz.out]
    exact ⟨rfl, dwN ((ab w _).alloc (by simp) _) _⟩
  replace c2 : (f != 0) = false := by simpa using c2
  by_cases c3 : (t != 0) = true
  · go_enter Tryd.func64, Tryd.ntmps64
    go_upto_region 2 with fail
    go_quiet (fail)
    go_wp2_with fail
    go_ret
    rw [hzz.out]
    exact ⟨rfl, dwN ((ab w _).alloc (by simp) _) _⟩
  replace c3 : (t != 0) = false := by simpa using c3
  by_cases c4 : 0 < (nb : Int)
  · go_enter Tryd.func64, Tryd.ntmps64
    go_upto_region 2 with fail
    go_quiet (fail)
    go_wp2_with fail
    go_ret
    rw [hzz.out]
    exact ⟨rfl, dwN ((ab w _).alloc (by simp) _) _⟩
  by_cases c5 : 0 < (nc : Int)
  · go_enter Tryd.func64, Tryd.ntmps64
    go_upto_region 2 with fail
    go_quiet (fail)
    go_wp2_with fail
    go_ret
    rw [hzz.out]
    exact ⟨rfl, dwN ((ab w _).alloc (by simp) _) _⟩
  go_enter Tryd.func64, Tryd.ntmps64
  go_upto_region 2 with fail
  go_quiet (fail)
  go_wp2_with fail
  go_ret
  rw [hzz.out]
  exact ⟨rfl, dwN ((ab w _).alloc (by simp) _) _⟩
end Go.Proofs.YtoopgppahfnncaaDoor
/- Layer ir: what the layers below give. -/
namespace Go.Proofs.YtoopgppahfnncaaDoor
open Go.RowKit
set_option maxRecDepth 100000
set_option linter.unusedVariables false
set_option linter.unusedSimpArgs false

set_option maxHeartbeats 4000000 in
theorem args_1 {α : Type} {N : Nat} {sp : Option Addr} {n cap : Nat} {fs : List FuT} {da vs : Int} {fi : Nat} {fn : FuT} (w : World) (hS : RS N w 3 (FuM N w) sp n cap fs) (hN : N ≤ w.heap.size) (hfi : fs[fi]? = some fn) (hvs : fn.v = vs) (v f t : Int) (a : List (ExT 8)) (th el : List α) (sa : Option Addr) (na ca : Nat) (sb : Option Addr) (nb cb : Nat) (sc : Option Addr) (nc cc : Nat) (hth : nb = th.length) (hel : nc = el.length) :
    Calls Tryd.prog 64 #[.agg #[.slice sp n cap, .int .i64 da], .int .i64 (fi : Int), .agg (stC 1 v f t (.slice sa na ca) (.slice sb nb cb) (.slice sc nc cc)).toArray] w (fun e w' => e = .returned (.int .i64 (agN ((fs.take fi).map FuT.p) vs (⟨1, v, f, t, a, th, el⟩ : StN α))) ∧ Below w.heap.size w w') := by
  have b0 : Below w.heap.size w ((w.alloc (.cells #[.slice sp n cap, .int .i64 da] 24)).alloc (.cells (stC 1 v f t (.slice sa na ca) (.slice sb nb cb) (.slice sc nc cc)).toArray 66)) := (ab w _).alloc (by simp) _
  have hlen := hS.len.out
  have hfl := (List.getElem?_eq_some_iff.1 hfi).1
  have hin : fi < n := by omega
  have hin' : (fi : Int) < n := by omega
  have hpl : ((fs.take fi).map FuT.p).length = fi := by rw [List.length_map, List.length_take]; omega
  obtain ⟨g, off, rfl, hg, hR⟩ := hS.at0 (by omega)
  obtain ⟨cf, hrg, hMf⟩ := hR fi fn hfi
  obtain ⟨qa, qb, qc, rfl, -, -⟩ := hMf
  have hrg2 := rb hrg (b0.mono hN) hg
  have cv : ((w.alloc (.cells #[.slice (some ⟨g, off, none⟩) n cap, .int .i64 da] 24)).alloc (.cells (stC 1 v f t (.slice sa na ca) (.slice sb nb cb) (.slice sc nc cc)).toArray 66)).cell? ⟨g, off + fi * 3 + 1, none⟩ = some (.int .i64 vs) := by rw [← hvs]; exact hrg2 1 _ rfl
  obtain ⟨z, hz⟩ : ∃ z, z = agN ((fs.take fi).map FuT.p) vs (⟨1, v, f, t, a, th, el⟩ : StN α) := ⟨_, rfl⟩
  rw [← hz]
  have hz2 := hz
  unfold agN g1 g2 g3 nmB at hz2
  dsimp only at hz2
  rw [← hth, ← hel, hpl] at hz2
  replace hz2 := hid hz2
  clear hS hR hrg hrg2 hlen hfl hfi hvs hz hpl hN hth hel
  unfold stC at *
  by_cases c0 : v < 0
  · have hzz : Hid (z = -1) := hid (by have h := hz2.out; rw [h]; simp at c0 ⊢; omega)
    clear hz2
    go_enter Tryd.func64, Tryd.ntmps64
    go_upto_region 2 with fail
    go_quiet (fail)
    go_wp2_with fail
    go_ret
    rw [hzz.out]
    exact ⟨rfl, dwN ((ab w _).alloc (by simp) _) _⟩
  by_cases c1 : vs ≤ v
  · have hzz : Hid (z = -1) := hid (by have h := hz2.out; rw [h]; simp at c0 c1 ⊢; omega)
    clear hz2
    go_enter Tryd.func64, Tryd.ntmps64
    go_upto_region 2 with fail
    go_quiet (fail)
    go_wp2_with fail
    go_ret
    rw [hzz.out]
    exact ⟨rfl, dwN ((ab w _).alloc (by simp) _) _⟩
  by_cases c2 : (f != 0) = true
  · have hzz : Hid (z = -1) := hid (by have h := hz2.out; rw [h]; simp at c0 c1 c2 ⊢; omega)
    clear hz2
    go_enter Tryd.func64, Tryd.ntmps64
    go_upto_region 2 with fail
    go_quiet (fail)
    go_wp2_with fail
    go_ret
    rw [hzz.out]
    exact ⟨rfl, dwN ((ab w _).alloc (by simp) _) _⟩
  replace c2 : (f != 0) = false := by simpa using c2
  by_cases c3 : (t != 0) = true
  · have hzz : Hid (z = -1) := hid (by have h := hz2.out; rw [h]; simp at c0 c1 c2 c3 ⊢; omega)
    clear hz2
    go_enter Tryd.func64, Tryd.ntmps64
    go_upto_region 2 with fail
    go_quiet (fail)
    go_wp2_with fail
    go_ret
    rw [hzz.out]
    exact ⟨rfl, dwN ((ab w _).alloc (by simp) _) _⟩
  replace c3 : (t != 0) = false := by simpa using c3
  by_cases c4 : 0 < (nb : Int)
  · have hzz : Hid (z = -1) := hid (by have h := hz2.out; rw [h]; simp at c0 c1 c2 c3 c4 ⊢; omega)
    clear hz2
    go_enter Tryd.func64, Tryd.ntmps64
    go_upto_region 2 with fail
    go_quiet (fail)
    go_wp2_with fail
    go_ret
    rw [hzz.out]
    exact ⟨rfl, dwN ((ab w _).alloc (by simp) _) _⟩
  by_cases c5 : 0 < (nc : Int)
  · have hzz : Hid (z = -1) := hid (by have h := hz2.out; rw [h]; simp at c0 c1 c2 c3 c4 c5 ⊢; omega)
    clear hz2
    go_enter Tryd.func64, Tryd.ntmps64
    go_upto_region 2 with fail
    go_quiet (fail)
    go_wp2_with fail
    go_ret
    rw [hzz.out]
    exact ⟨rfl, dwN ((ab w _).alloc (by simp) _) _⟩
  have hzz : Hid (z = 1) := hid (by have h := hz2.out; rw [h]; simp at c0 c1 c2 c3 c4 c5 ⊢; omega)
  clear hz2
  go_enter Tryd.func64, Tryd.ntmps64
  go_upto_region 2 with fail
  go_quiet (fail)
  go_wp2_with fail
  go_ret
  rw [hzz.out]
  exact ⟨rfl, dwN ((ab w _).alloc (by simp) _) _⟩
end Go.Proofs.YtoopgppahfnncaaDoor
/- Layer ir: what the layers below give. -/
namespace Go.Proofs.YtoopgppahfnncaaDoor
open Go.RowKit
set_option maxRecDepth 100000
set_option linter.unusedVariables false
set_option linter.unusedSimpArgs false

set_option maxHeartbeats 4000000 in
theorem args_2 {α : Type} {N : Nat} {sp : Option Addr} {n cap : Nat} {fs : List FuT} {da vs : Int} {fi : Nat} {fn : FuT} (w : World) (hS : RS N w 3 (FuM N w) sp n cap fs) (hN : N ≤ w.heap.size) (hfi : fs[fi]? = some fn) (hvs : fn.v = vs) (v f t : Int) (a : List (ExT 8)) (th el : List α) (sa : Option Addr) (na ca : Nat) (sb : Option Addr) (nb cb : Nat) (sc : Option Addr) (nc cc : Nat) (hth : nb = th.length) (hel : nc = el.length) :
    Calls Tryd.prog 64 #[.agg #[.slice sp n cap, .int .i64 da], .int .i64 (fi : Int), .agg (stC 2 v f t (.slice sa na ca) (.slice sb nb cb) (.slice sc nc cc)).toArray] w (fun e w' => e = .returned (.int .i64 (agN ((fs.take fi).map FuT.p) vs (⟨2, v, f, t, a, th, el⟩ : StN α))) ∧ Below w.heap.size w w') := by
  have b0 : Below w.heap.size w ((w.alloc (.cells #[.slice sp n cap, .int .i64 da] 24)).alloc (.cells (stC 2 v f t (.slice sa na ca) (.slice sb nb cb) (.slice sc nc cc)).toArray 66)) := (ab w _).alloc (by simp) _
  have hlen := hS.len.out
  have hfl := (List.getElem?_eq_some_iff.1 hfi).1
  have hin : fi < n := by omega
  have hin' : (fi : Int) < n := by omega
  have hpl : ((fs.take fi).map FuT.p).length = fi := by rw [List.length_map, List.length_take]; omega
  obtain ⟨g, off, rfl, hg, hR⟩ := hS.at0 (by omega)
  obtain ⟨cf, hrg, hMf⟩ := hR fi fn hfi
  obtain ⟨qa, qb, qc, rfl, -, -⟩ := hMf
  have hrg2 := rb hrg (b0.mono hN) hg
  have cv : ((w.alloc (.cells #[.slice (some ⟨g, off, none⟩) n cap, .int .i64 da] 24)).alloc (.cells (stC 2 v f t (.slice sa na ca) (.slice sb nb cb) (.slice sc nc cc)).toArray 66)).cell? ⟨g, off + fi * 3 + 1, none⟩ = some (.int .i64 vs) := by rw [← hvs]; exact hrg2 1 _ rfl
  obtain ⟨z, hz⟩ : ∃ z, z = agN ((fs.take fi).map FuT.p) vs (⟨2, v, f, t, a, th, el⟩ : StN α) := ⟨_, rfl⟩
  rw [← hz]
  have hz2 := hz
  unfold agN g1 g2 g3 nmB at hz2
  dsimp only at hz2
  rw [← hth, ← hel, hpl] at hz2
  replace hz2 := hid hz2
  clear hS hR hrg hrg2 hlen hfl hfi hvs hz hpl hN hth hel
  unfold stC at *
  by_cases c0 : v < 0
  · have hzz : Hid (z = -1) := hid (by have h := hz2.out; rw [h]; simp at c0 ⊢; omega)
    clear hz2
    go_enter Tryd.func64, Tryd.ntmps64
    go_upto_region 2 with fail
    go_quiet (fail)
    go_wp2_with fail
    go_ret
    rw [hzz.out]
    exact ⟨rfl, dwN ((ab w _).alloc (by simp) _) _⟩
  by_cases c1 : (v != 0) = true
  · have hzz : Hid (z = -1) := hid (by have h := hz2.out; rw [h]; simp at c0 c1 ⊢; omega)
    clear hz2
    go_enter Tryd.func64, Tryd.ntmps64
    go_upto_region 2 with fail
    go_quiet (fail)
    go_wp2_with fail
    go_ret
    rw [hzz.out]
    exact ⟨rfl, dwN ((ab w _).alloc (by simp) _) _⟩
  replace c1 : (v != 0) = false := by simpa using c1
  by_cases c2 : (f != 0) = true
  · have hzz : Hid (z = -1) := hid (by have h := hz2.out; rw [h]; simp at c0 c1 c2 ⊢; omega)
    clear hz2
    go_enter Tryd.func64, Tryd.ntmps64
    go_upto_region 2 with fail
    go_quiet (fail)
    go_wp2_with fail
    go_ret
    rw [hzz.out]
    exact ⟨rfl, dwN ((ab w _).alloc (by simp) _) _⟩
  replace c2 : (f != 0) = false := by simpa using c2
  by_cases c3 : (t != 0) = true
  · have hzz : Hid (z = -1) := hid (by have h := hz2.out; rw [h]; simp at c0 c1 c2 c3 ⊢; omega)
    clear hz2
    go_enter Tryd.func64, Tryd.ntmps64
    go_upto_region 2 with fail
    go_quiet (fail)
    go_wp2_with fail
    go_ret
    rw [hzz.out]
    exact ⟨rfl, dwN ((ab w _).alloc (by simp) _) _⟩
  replace c3 : (t != 0) = false := by simpa using c3
  by_cases c4 : 0 < (nb : Int)
  · have hzz : Hid (z = -1) := hid (by have h := hz2.out; rw [h]; simp at c0 c1 c2 c3 c4 ⊢; omega)
    clear hz2
    go_enter Tryd.func64, Tryd.ntmps64
    go_upto_region 2 with fail
    go_quiet (fail)
    go_wp2_with fail
    go_ret
    rw [hzz.out]
    exact ⟨rfl, dwN ((ab w _).alloc (by simp) _) _⟩
  by_cases c5 : 0 < (nc : Int)
  · have hzz : Hid (z = -1) := hid (by have h := hz2.out; rw [h]; simp at c0 c1 c2 c3 c4 c5 ⊢; omega)
    clear hz2
    go_enter Tryd.func64, Tryd.ntmps64
    go_upto_region 2 with fail
    go_quiet (fail)
    go_wp2_with fail
    go_ret
    rw [hzz.out]
    exact ⟨rfl, dwN ((ab w _).alloc (by simp) _) _⟩
  have hzz : Hid (z = 2) := hid (by have h := hz2.out; rw [h]; simp at c0 c1 c2 c3 c4 c5 ⊢; omega)
  clear hz2
  go_enter Tryd.func64, Tryd.ntmps64
  go_upto_region 2 with fail
  go_quiet (fail)
  go_wp2_with fail
  go_ret
  rw [hzz.out]
  exact ⟨rfl, dwN ((ab w _).alloc (by simp) _) _⟩
end Go.Proofs.YtoopgppahfnncaaDoor
/- Layer ir: what the layers below give. -/
namespace Go.Proofs.YtoopgppahfnncaaDoor
open Go.RowKit
set_option maxRecDepth 100000
set_option linter.unusedVariables false
set_option linter.unusedSimpArgs false

set_option maxHeartbeats 4000000 in
theorem args_3 {α : Type} {N : Nat} {sp : Option Addr} {n cap : Nat} {fs : List FuT} {da vs : Int} {fi : Nat} {fn : FuT} (w : World) (hS : RS N w 3 (FuM N w) sp n cap fs) (hN : N ≤ w.heap.size) (hfi : fs[fi]? = some fn) (hvs : fn.v = vs) (v f t : Int) (a : List (ExT 8)) (th el : List α) (sa : Option Addr) (na ca : Nat) (sb : Option Addr) (nb cb : Nat) (sc : Option Addr) (nc cc : Nat) (hth : nb = th.length) (hel : nc = el.length) :
    Calls Tryd.prog 64 #[.agg #[.slice sp n cap, .int .i64 da], .int .i64 (fi : Int), .agg (stC 3 v f t (.slice sa na ca) (.slice sb nb cb) (.slice sc nc cc)).toArray] w (fun e w' => e = .returned (.int .i64 (agN ((fs.take fi).map FuT.p) vs (⟨3, v, f, t, a, th, el⟩ : StN α))) ∧ Below w.heap.size w w') := by
  have b0 : Below w.heap.size w ((w.alloc (.cells #[.slice sp n cap, .int .i64 da] 24)).alloc (.cells (stC 3 v f t (.slice sa na ca) (.slice sb nb cb) (.slice sc nc cc)).toArray 66)) := (ab w _).alloc (by simp) _
  have hlen := hS.len.out
  have hfl := (List.getElem?_eq_some_iff.1 hfi).1
  have hin : fi < n := by omega
  have hin' : (fi : Int) < n := by omega
  have hpl : ((fs.take fi).map FuT.p).length = fi := by rw [List.length_map, List.length_take]; omega
  obtain ⟨g, off, rfl, hg, hR⟩ := hS.at0 (by omega)
  obtain ⟨cf, hrg, hMf⟩ := hR fi fn hfi
  obtain ⟨qa, qb, qc, rfl, -, -⟩ := hMf
  have hrg2 := rb hrg (b0.mono hN) hg
  have cv : ((w.alloc (.cells #[.slice (some ⟨g, off, none⟩) n cap, .int .i64 da] 24)).alloc (.cells (stC 3 v f t (.slice sa na ca) (.slice sb nb cb) (.slice sc nc cc)).toArray 66)).cell? ⟨g, off + fi * 3 + 1, none⟩ = some (.int .i64 vs) := by rw [← hvs]; exact hrg2 1 _ rfl
  obtain ⟨z, hz⟩ : ∃ z, z = agN ((fs.take fi).map FuT.p) vs (⟨3, v, f, t, a, th, el⟩ : StN α) := ⟨_, rfl⟩
  rw [← hz]
  have hz2 := hz
  unfold agN g1 g2 g3 nmB at hz2
  dsimp only at hz2
  rw [← hth, ← hel, hpl] at hz2
  replace hz2 := hid hz2
  clear hS hR hrg hrg2 hlen hfl hfi hvs hz hpl hN hth hel
  unfold stC at *
  by_cases c0 : v < 0
  · have hzz : Hid (z = -1) := hid (by have h := hz2.out; rw [h]; simp at c0 ⊢; omega)
    clear hz2
    go_enter Tryd.func64, Tryd.ntmps64
    go_upto_region 2 with fail
    go_quiet (fail)
    go_wp2_with fail
    go_ret
    rw [hzz.out]
    exact ⟨rfl, dwN ((ab w _).alloc (by simp) _) _⟩
  by_cases c1 : (v != 0) = true
  · have hzz : Hid (z = -1) := hid (by have h := hz2.out; rw [h]; simp at c0 c1 ⊢; omega)
    clear hz2
    go_enter Tryd.func64, Tryd.ntmps64
    go_upto_region 2 with fail
    go_quiet (fail)
    go_wp2_with fail
    go_ret
    rw [hzz.out]
    exact ⟨rfl, dwN ((ab w _).alloc (by simp) _) _⟩
  replace c1 : (v != 0) = false := by simpa using c1
  by_cases c2 : (f != 0) = true
  · have hzz : Hid (z = -1) := hid (by have h := hz2.out; rw [h]; simp at c0 c1 c2 ⊢; omega)
    clear hz2
    go_enter Tryd.func64, Tryd.ntmps64
    go_upto_region 2 with fail
    go_quiet (fail)
    go_wp2_with fail
    go_ret
    rw [hzz.out]
    exact ⟨rfl, dwN ((ab w _).alloc (by simp) _) _⟩
  replace c2 : (f != 0) = false := by simpa using c2
  by_cases c3 : (t != 0) = true
  · have hzz : Hid (z = -1) := hid (by have h := hz2.out; rw [h]; simp at c0 c1 c2 c3 ⊢; omega)
    clear hz2
    go_enter Tryd.func64, Tryd.ntmps64
    go_upto_region 2 with fail
    go_quiet (fail)
    go_wp2_with fail
    go_ret
    rw [hzz.out]
    exact ⟨rfl, dwN ((ab w _).alloc (by simp) _) _⟩
  replace c3 : (t != 0) = false := by simpa using c3
  have hzz : Hid (z = 1) := hid (by have h := hz2.out; rw [h]; simp at c0 c1 c2 c3 ⊢; omega)
  clear hz2
  go_enter Tryd.func64, Tryd.ntmps64
  go_upto_region 2 with fail
  go_quiet (fail)
  go_wp2_with fail
  go_ret
  rw [hzz.out]
  exact ⟨rfl, dwN ((ab w _).alloc (by simp) _) _⟩
end Go.Proofs.YtoopgppahfnncaaDoor
/- Layer ir: what the layers below give. -/
namespace Go.Proofs.YtoopgppahfnncaaDoor
open Go.RowKit
set_option maxRecDepth 100000
set_option linter.unusedVariables false
set_option linter.unusedSimpArgs false

set_option maxHeartbeats 4000000 in
theorem args_4 {α : Type} {N : Nat} {sp : Option Addr} {n cap : Nat} {fs : List FuT} {da vs : Int} {fi : Nat} {fn : FuT} (w : World) (hS : RS N w 3 (FuM N w) sp n cap fs) (hN : N ≤ w.heap.size) (hfi : fs[fi]? = some fn) (hvs : fn.v = vs) (v f t : Int) (a : List (ExT 8)) (th el : List α) (sa : Option Addr) (na ca : Nat) (sb : Option Addr) (nb cb : Nat) (sc : Option Addr) (nc cc : Nat) (hth : nb = th.length) (hel : nc = el.length) :
    Calls Tryd.prog 64 #[.agg #[.slice sp n cap, .int .i64 da], .int .i64 (fi : Int), .agg (stC 4 v f t (.slice sa na ca) (.slice sb nb cb) (.slice sc nc cc)).toArray] w (fun e w' => e = .returned (.int .i64 (agN ((fs.take fi).map FuT.p) vs (⟨4, v, f, t, a, th, el⟩ : StN α))) ∧ Below w.heap.size w w') := by
  have b0 : Below w.heap.size w ((w.alloc (.cells #[.slice sp n cap, .int .i64 da] 24)).alloc (.cells (stC 4 v f t (.slice sa na ca) (.slice sb nb cb) (.slice sc nc cc)).toArray 66)) := (ab w _).alloc (by simp) _
  have hlen := hS.len.out
  have hfl := (List.getElem?_eq_some_iff.1 hfi).1
  have hin : fi < n := by omega
  have hin' : (fi : Int) < n := by omega
  have hpl : ((fs.take fi).map FuT.p).length = fi := by rw [List.length_map, List.length_take]; omega
  obtain ⟨g, off, rfl, hg, hR⟩ := hS.at0 (by omega)
  obtain ⟨cf, hrg, hMf⟩ := hR fi fn hfi
  obtain ⟨qa, qb, qc, rfl, -, -⟩ := hMf
  have hrg2 := rb hrg (b0.mono hN) hg
  have cv : ((w.alloc (.cells #[.slice (some ⟨g, off, none⟩) n cap, .int .i64 da] 24)).alloc (.cells (stC 4 v f t (.slice sa na ca) (.slice sb nb cb) (.slice sc nc cc)).toArray 66)).cell? ⟨g, off + fi * 3 + 1, none⟩ = some (.int .i64 vs) := by rw [← hvs]; exact hrg2 1 _ rfl
  obtain ⟨z, hz⟩ : ∃ z, z = agN ((fs.take fi).map FuT.p) vs (⟨4, v, f, t, a, th, el⟩ : StN α) := ⟨_, rfl⟩
  rw [← hz]
  have hz2 := hz
  unfold agN g1 g2 g3 nmB at hz2
  dsimp only at hz2
  rw [← hth, ← hel, hpl] at hz2
  replace hz2 := hid hz2
  clear hS hR hrg hrg2 hlen hfl hfi hvs hz hpl hN hth hel
  unfold stC at *
  by_cases c0 : v < 0
  · have hzz : Hid (z = -1) := hid (by have h := hz2.out; rw [h]; simp at c0 ⊢; omega)
    clear hz2
    go_enter Tryd.func64, Tryd.ntmps64
    go_upto_region 2 with fail
    go_quiet (fail)
    go_wp2_with fail
    go_ret
    rw [hzz.out]
    exact ⟨rfl, dwN ((ab w _).alloc (by simp) _) _⟩
  by_cases c1 : (v != 0) = true
  · have hzz : Hid (z = -1) := hid (by have h := hz2.out; rw [h]; simp at c0 c1 ⊢; omega)
    clear hz2
    go_enter Tryd.func64, Tryd.ntmps64
    go_upto_region 2 with fail
    go_quiet (fail)
    go_wp2_with fail
    go_ret
    rw [hzz.out]
    exact ⟨rfl, dwN ((ab w _).alloc (by simp) _) _⟩
  replace c1 : (v != 0) = false := by simpa using c1
  by_cases c2 : (f != 0) = true
  · have hzz : Hid (z = -1) := hid (by have h := hz2.out; rw [h]; simp at c0 c1 c2 ⊢; omega)
    clear hz2
    go_enter Tryd.func64, Tryd.ntmps64
    go_upto_region 2 with fail
    go_quiet (fail)
    go_wp2_with fail
    go_ret
    rw [hzz.out]
    exact ⟨rfl, dwN ((ab w _).alloc (by simp) _) _⟩
  replace c2 : (f != 0) = false := by simpa using c2
  by_cases c3 : (t != 0) = true
  · have hzz : Hid (z = -1) := hid (by have h := hz2.out; rw [h]; simp at c0 c1 c2 c3 ⊢; omega)
    clear hz2
    go_enter Tryd.func64, Tryd.ntmps64
    go_upto_region 2 with fail
    go_quiet (fail)
    go_wp2_with fail
    go_ret
    rw [hzz.out]
    exact ⟨rfl, dwN ((ab w _).alloc (by simp) _) _⟩
  replace c3 : (t != 0) = false := by simpa using c3
  by_cases c4 : 0 < (nc : Int)
  · have hzz : Hid (z = -1) := hid (by have h := hz2.out; rw [h]; simp at c0 c1 c2 c3 c4 ⊢; omega)
    clear hz2
    go_enter Tryd.func64, Tryd.ntmps64
    go_upto_region 2 with fail
    go_quiet (fail)
    go_wp2_with fail
    go_ret
    rw [hzz.out]
    exact ⟨rfl, dwN ((ab w _).alloc (by simp) _) _⟩
  have hzz : Hid (z = 1) := hid (by have h := hz2.out; rw [h]; simp at c0 c1 c2 c3 c4 ⊢; omega)
  clear hz2
  go_enter Tryd.func64, Tryd.ntmps64
  go_upto_region 2 with fail
  go_quiet (fail)
  go_wp2_with fail
  go_ret
  rw [hzz.out]
  exact ⟨rfl, dwN ((ab w _).alloc (by simp) _) _⟩
end Go.Proofs.YtoopgppahfnncaaDoor
/- Layer ir: what the layers below give. -/
namespace Go.Proofs.YtoopgppahfnncaaDoor
open Go.RowKit
set_option maxRecDepth 100000
set_option linter.unusedVariables false
set_option linter.unusedSimpArgs false

set_option maxHeartbeats 4000000 in
theorem args_5 {α : Type} {N : Nat} {sp : Option Addr} {n cap : Nat} {fs : List FuT} {da vs : Int} {fi : Nat} {fn : FuT} (w : World) (hS : RS N w 3 (FuM N w) sp n cap fs) (hN : N ≤ w.heap.size) (hfi : fs[fi]? = some fn) (hvs : fn.v = vs) (v f t : Int) (a : List (ExT 8)) (th el : List α) (sa : Option Addr) (na ca : Nat) (sb : Option Addr) (nb cb : Nat) (sc : Option Addr) (nc cc : Nat) (hth : nb = th.length) (hel : nc = el.length) :
    Calls Tryd.prog 64 #[.agg #[.slice sp n cap, .int .i64 da], .int .i64 (fi : Int), .agg (stC 5 v f t (.slice sa na ca) (.slice sb nb cb) (.slice sc nc cc)).toArray] w (fun e w' => e = .returned (.int .i64 (agN ((fs.take fi).map FuT.p) vs (⟨5, v, f, t, a, th, el⟩ : StN α))) ∧ Below w.heap.size w w') := by
  have b0 : Below w.heap.size w ((w.alloc (.cells #[.slice sp n cap, .int .i64 da] 24)).alloc (.cells (stC 5 v f t (.slice sa na ca) (.slice sb nb cb) (.slice sc nc cc)).toArray 66)) := (ab w _).alloc (by simp) _
  have hlen := hS.len.out
  have hfl := (List.getElem?_eq_some_iff.1 hfi).1
  have hin : fi < n := by omega
  have hin' : (fi : Int) < n := by omega
  have hpl : ((fs.take fi).map FuT.p).length = fi := by rw [List.length_map, List.length_take]; omega
  obtain ⟨g, off, rfl, hg, hR⟩ := hS.at0 (by omega)
  obtain ⟨cf, hrg, hMf⟩ := hR fi fn hfi
  obtain ⟨qa, qb, qc, rfl, -, -⟩ := hMf
  have hrg2 := rb hrg (b0.mono hN) hg
  have cv : ((w.alloc (.cells #[.slice (some ⟨g, off, none⟩) n cap, .int .i64 da] 24)).alloc (.cells (stC 5 v f t (.slice sa na ca) (.slice sb nb cb) (.slice sc nc cc)).toArray 66)).cell? ⟨g, off + fi * 3 + 1, none⟩ = some (.int .i64 vs) := by rw [← hvs]; exact hrg2 1 _ rfl
  obtain ⟨z, hz⟩ : ∃ z, z = agN ((fs.take fi).map FuT.p) vs (⟨5, v, f, t, a, th, el⟩ : StN α) := ⟨_, rfl⟩
  rw [← hz]
  have hz2 := hz
  unfold agN g1 g2 g3 nmB at hz2
  dsimp only at hz2
  rw [← hth, ← hel, hpl] at hz2
  replace hz2 := hid hz2
  clear hS hR hrg hrg2 hlen hfl hfi hvs hz hpl hN hth hel
  unfold stC at *
  by_cases c0 : v < 0
  · have hzz : Hid (z = -1) := hid (by have h := hz2.out; rw [h]; simp at c0 ⊢; omega)
    clear hz2
    go_enter Tryd.func64, Tryd.ntmps64
    go_upto_region 2 with fail
    go_quiet (fail)
    go_wp2_with fail
    go_ret
    rw [hzz.out]
    exact ⟨rfl, dwN ((ab w _).alloc (by simp) _) _⟩
  by_cases c1 : (v != 0) = true
  · have hzz : Hid (z = -1) := hid (by have h := hz2.out; rw [h]; simp at c0 c1 ⊢; omega)
    clear hz2
    go_enter Tryd.func64, Tryd.ntmps64
    go_upto_region 2 with fail
    go_quiet (fail)
    go_wp2_with fail
    go_ret
    rw [hzz.out]
    exact ⟨rfl, dwN ((ab w _).alloc (by simp) _) _⟩
  replace c1 : (v != 0) = false := by simpa using c1
  by_cases c2 : (f != 0) = true
  · have hzz : Hid (z = -1) := hid (by have h := hz2.out; rw [h]; simp at c0 c1 c2 ⊢; omega)
    clear hz2
    go_enter Tryd.func64, Tryd.ntmps64
    go_upto_region 2 with fail
    go_quiet (fail)
    go_wp2_with fail
    go_ret
    rw [hzz.out]
    exact ⟨rfl, dwN ((ab w _).alloc (by simp) _) _⟩
  replace c2 : (f != 0) = false := by simpa using c2
  by_cases c3 : (t != 0) = true
  · have hzz : Hid (z = -1) := hid (by have h := hz2.out; rw [h]; simp at c0 c1 c2 c3 ⊢; omega)
    clear hz2
    go_enter Tryd.func64, Tryd.ntmps64
    go_upto_region 2 with fail
    go_quiet (fail)
    go_wp2_with fail
    go_ret
    rw [hzz.out]
    exact ⟨rfl, dwN ((ab w _).alloc (by simp) _) _⟩
  replace c3 : (t != 0) = false := by simpa using c3
  by_cases c4 : 0 < (nb : Int)
  · have hzz : Hid (z = -1) := hid (by have h := hz2.out; rw [h]; simp at c0 c1 c2 c3 c4 ⊢; omega)
    clear hz2
    go_enter Tryd.func64, Tryd.ntmps64
    go_upto_region 2 with fail
    go_quiet (fail)
    go_wp2_with fail
    go_ret
    rw [hzz.out]
    exact ⟨rfl, dwN ((ab w _).alloc (by simp) _) _⟩
  by_cases c5 : 0 < (nc : Int)
  · have hzz : Hid (z = -1) := hid (by have h := hz2.out; rw [h]; simp at c0 c1 c2 c3 c4 c5 ⊢; omega)
    clear hz2
    go_enter Tryd.func64, Tryd.ntmps64
    go_upto_region 2 with fail
    go_quiet (fail)
    go_wp2_with fail
    go_ret
    rw [hzz.out]
    exact ⟨rfl, dwN ((ab w _).alloc (by simp) _) _⟩
  have hzz : Hid (z = 1) := hid (by have h := hz2.out; rw [h]; simp at c0 c1 c2 c3 c4 c5 ⊢; omega)
  clear hz2
  go_enter Tryd.func64, Tryd.ntmps64
  go_upto_region 2 with fail
  go_quiet (fail)
  go_wp2_with fail
  go_ret
  rw [hzz.out]
  exact ⟨rfl, dwN ((ab w _).alloc (by simp) _) _⟩
end Go.Proofs.YtoopgppahfnncaaDoor
