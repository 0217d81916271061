/- QXc, QVm, QZTv. -/
import Derived.Test.YtmljihggooaboaaW01
import Derived.Test.YtmljihggooaboaaW12
import Derived.Test.YtmljihggooaboaaW13
import Derived.Test.YtmljihggooaboaaW19
import Derived.Test.YtmljihggooaboaaW14
import Derived.Test.YtmljihggooaboaaW17
import Derived.Test.YtmljihggooaboaaW18
import Derived.Test.YtmljihggooaboaaW20
import Derived.Test.YtmljihggooaboaaW15
import Derived.Test.YtmljihggooaboaaW38
import Derived.BigQuiet
import Derived.BigRegion
import Derived.ChangeKeysEq
import Derived.Deep.DeepCutAuto
import Derived.Deep.DrawnRows
import Derived.Deep.MidRow
import Derived.Deep.QuietTactic
import Derived.Deep.RegionHeld3
import Derived.Deep.RegionLaw
import Derived.Deep.RegionWith
import Derived.Deep.WholeRow
import Derived.DeepKeys3
import Derived.Great.BuildSlice
import Derived.Laws.AppendOwnNone
import Derived.Laws.BitsLemmas
import Derived.Laws.BytesArg
import Derived.Laws.CopyOwn
import Derived.Laws.ResultCell
import Derived.Laws.Tables
import Derived.Lib.SlBytesConst
import Derived.LoopIn
import Derived.LoopNIn
import Derived.Maps.AppendAt
import Derived.OwnWalkIn
import Derived.RangeFuncBound
import Derived.RangeFuncCalls
import Derived.RangeFuncLeaves
import Derived.RangeFuncNested
import Derived.RangeFuncRecord
import Derived.Shelf.Abstract
import Derived.Shelf.RegionOpen
import Derived.TacticsInMore
import Derived.WalkKit
import Derived.WalkLawsBesides
import Derived.WalkSpells
import Derived.Test.YtmljihggooaboaaW11
/- Layer interp: what the layers below give. -/
namespace Go.Proofs.Ytmljihggooaboaa
open Go.RowKit
set_option maxRecDepth 100000
set_option linter.unusedVariables false
set_option linter.unusedSimpArgs false

theorem neq_sum (L X : List Int) (hX : X.length = 32) (w : World) : (binOp .neq 55 (.agg (sha L)) (.agg (h8 X))).run Try.prog w = .ok (.bool (!decide (shl L = X))) w := by
  rw [sha_h8, run_neq_struct, run_eqIn24 (shl_len L) hX w]; rfl
/-- What the document's Preimage answers. -/
def RpPost (es : List En) (X : List Int) (w : World) (r : Ending) (w' : World) : Prop := Below w.heap.size w w' ∧
  ((∃ e, pre es X = some e ∧ e ∈ es ∧ r = .returned (.tuple #[.slice e.sp e.n e.cap, .bool true])) ∨ (pre es X = none ∧ r = .returned (.tuple #[.slice none 0 0, .bool false])))
set_option maxHeartbeats 1000000 in
theorem refPre_any (sp : Option Addr) (n cap : Nat) (es : List En) (X : List Int) (N : Nat) (w : World) (hS : ES N w sp n cap es) (hX : X.length = 32) :
    Calls Try.prog 69 #[.slice sp n cap, .agg (h8 X)] w (RpPost es X w) := by
  have hl := hS.len
  have hsm := hS.small
  have hS := hS.here
  go_enter Try.func69, Try.ntmps69
  go_wp2_with fail
  go_loopw [6] (fun q wr => ∃ (k : Nat), q = .int .i64 (k : Int) ∧ k ≤ n ∧ Below w.heap.size w wr ∧ Arr wr w.heap.size 55 (h8 X) ∧ Hid (∀ (j : Nat) (f : En), j < k → es[j]? = some f → f.sm ≠ X))
    (fun q _ => n - (intOf q).toNat)
  case atStart => exact ⟨0, rfl, by omega, (Below.refl _ _).alloc (Nat.le_refl _) _, Arr.new w 55 _, Hid.mk' (fun j f hj => by omega)⟩
  case round =>
    obtain ⟨k, rfl, hk, hbl, hH, hno⟩ := hrel
    by_cases hlt : k < n
    · have hI : (k : Int) < n := by omega
      have hSr := hS.below hbl
      obtain ⟨g, off, rfl, hgN, hR⟩ := hSr.at0 (by omega)
      have hgl : g < wr.heap.size := by have := hbl.size; omega
      obtain ⟨e, he⟩ : ∃ e, es[k]? = some e := ⟨es[k]'(by rw [← hl.out]; exact hlt), List.getElem?_eq_getElem _⟩
      have hok := hSr.ok e (List.mem_of_getElem? he)
      have he32 := hok.s32
      have hRe := hR k e he
      have rE := range_sm hRe
      have cE := range_c0 hRe
      have hHr := hH.range
      have hHlt := hH.lt
      have q1 := run_eq24 he32 hX
      replace he := Hid.mk' he
      by_cases hq : e.sm = X
      · have hd : decide (e.sm = X) = true := by simpa using hq
        rw [hd] at q1
        have hF : Fst es X k e := Fst.mk he.out hq hno.out
        have hp := hF.pre
        have hme := List.mem_of_getElem? he.out
        have hbs := hok.body
        have hq2 := neq_sum e.bs X hX
        replace hq := Hid.mk' hq
        clear hd hF
        by_cases hsh : shl e.bs = X
        · rw [if_pos hsh] at hp
          rw [decide_eq_true hsh] at hq2
          replace hsh := Hid.mk' hsh
          replace hp := Hid.mk' hp
          simp only [Bool.not_true] at hq2
          go_upto_region 4 with fail
          refine wp_region_held_drew (S := fun u => Below wr.heap.size wr u) (by kernel_rfl) ((Below.refl _ _).drew) (fun hHeld => ?_)
          refine wpAnyH_take (i := 0) (oi := ⟨_, _, _, _, _, _⟩) (v := ?_) rfl (by kernel_rfl) (by kernel_rfl) (by kernel_rfl) (fun _ _ _ h => h) (Or.inl ⟨by rfl, ?_⟩) (by assumption) ?_
          rotate_left
          · intro u hSw
            go_simp
            try (with_reducible rfl)
          try simp only [Act.put, List.setIfInBounds_toArray, List.set_cons_zero, List.set_cons_succ]
          refine wpAnyH_take (i := 1) (oi := ⟨_, _, _, _, _, _⟩) (v := ?_) rfl (by kernel_rfl) (by kernel_rfl) (by kernel_rfl) (fun _ _ _ h => h) (Or.inl ⟨by rfl, ?_⟩) (by assumption) ?_
          rotate_left
          · intro u hSw
            go_simp
            try (with_reducible rfl)
          try simp only [Act.put, List.setIfInBounds_toArray, List.set_cons_zero, List.set_cons_succ]
          refine wpAnyH_take (i := 2) (oi := ⟨_, _, _, _, _, _⟩) (v := ?_) rfl (by kernel_rfl) (by kernel_rfl) (by kernel_rfl) (fun _ _ _ h => h) (Or.inl ⟨by rfl, ?_⟩) (by assumption) ?_
          rotate_left
          · intro u hSw
            go_simp
            try (with_reducible rfl)
          try simp only [Act.put, List.setIfInBounds_toArray, List.set_cons_zero, List.set_cons_succ]
          refine wpAnyH_take (i := 3) (oi := ⟨_, _, _, _, _, _⟩) (v := ?_) rfl (by kernel_rfl) (by kernel_rfl) (by kernel_rfl) (fun _ _ _ h => h) (Or.inl ⟨by rfl, ?_⟩) (by assumption) ?_
          rotate_left
          · intro u hSw
            go_simp
            try (with_reducible rfl)
          try simp only [Act.put, List.setIfInBounds_toArray, List.set_cons_zero, List.set_cons_succ]
          refine wpAnyH_take (i := 4) (oi := ⟨_, _, _, _, _, _⟩) rfl (by kernel_rfl) (by kernel_rfl) (by kernel_rfl) (fun _ _ _ h => h) (y24 (by rfl) (.tmp 16) rfl (g) (off + k * 33 + 1) rfl e.sm he32 (fun u hu => range_below rE hu hgl)) (by assumption) ?_
          try simp only [Act.put, List.setIfInBounds_toArray, List.set_cons_zero, List.set_cons_succ]
          refine wpAnyH_take (i := 5) (oi := ⟨_, _, _, _, _, _⟩) rfl (by kernel_rfl) (by kernel_rfl) (by kernel_rfl) (fun _ _ _ h => h) (y24 (by rfl) (.tmp 3) rfl (w.heap.size) (0) rfl X hX (fun u hu => range_below hHr hu hHlt)) (by assumption) ?_
          try simp only [Act.put, List.setIfInBounds_toArray, List.set_cons_zero, List.set_cons_succ]
          refine wpAnyH_take (i := 6) (oi := ⟨_, _, _, _, _, _⟩) (v := ?_) rfl (by kernel_rfl) (by kernel_rfl) (by kernel_rfl) (fun _ _ _ h => h) (Or.inl ⟨by rfl, ?_⟩) (by assumption) ?_
          rotate_left
          · intro u hSw
            go_simp
            try (with_reducible rfl)
          try simp only [Act.put, List.setIfInBounds_toArray, List.set_cons_zero, List.set_cons_succ]
          refine wpAnyH_done (by kernel_rfl) ?_ _
          go_upto_region 5 with fail
          have hH4 := hHeld
          have rX4 := range_below hHr hH4 hHlt
          have cE4 := (hH4.cell (p := ⟨g, off + k * 33, none⟩) hgl).trans cE
          have hb4 := hbs.below (hH4.mono hbl.size)
          have hD4 := hH4.drew
          refine wp_region_held_drew (S := fun u => Below wr.heap.size wr u) (by kernel_rfl) (hD4) (fun hHeld => ?_)
          refine wpAnyH_take (i := 0) (oi := ⟨_, _, _, _, _, _⟩) (v := ?_) rfl (by kernel_rfl) (by kernel_rfl) (by kernel_rfl) (fun _ _ _ h => h) (Or.inl ⟨by rfl, ?_⟩) (by assumption) ?_
          rotate_left
          · intro u hSw
            go_simp
            try (with_reducible rfl)
          try simp only [Act.put, List.setIfInBounds_toArray, List.set_cons_zero, List.set_cons_succ]
          refine wpAnyH_take (i := 1) (oi := ⟨_, _, _, _, _, _⟩) (v := ?_) rfl (by kernel_rfl) (by kernel_rfl) (by kernel_rfl) (fun _ _ _ h => h) (Or.inl ⟨by rfl, ?_⟩) (by assumption) ?_
          rotate_left
          · intro u hSw
            go_simp
            try (with_reducible rfl)
          try simp only [Act.put, List.setIfInBounds_toArray, List.set_cons_zero, List.set_cons_succ]
          refine wpAnyH_take (i := 2) (oi := ⟨_, _, _, _, _, _⟩) (v := ?_) rfl (by kernel_rfl) (by kernel_rfl) (by kernel_rfl) (fun _ _ _ h => h) (Or.inl ⟨by rfl, ?_⟩) (by assumption) ?_
          rotate_left
          · intro u hSw
            go_simp
            try (with_reducible rfl)
          try simp only [Act.put, List.setIfInBounds_toArray, List.set_cons_zero, List.set_cons_succ]
          refine wpAnyH_take (i := 3) (oi := ⟨_, _, _, _, _, _⟩) (v := ?_) rfl (by kernel_rfl) (by kernel_rfl) (by kernel_rfl) (fun _ _ _ h => h) (Or.inl ⟨by rfl, ?_⟩) (by assumption) ?_
          rotate_left
          · intro u hSw
            go_simp
            try (with_reducible rfl)
          try simp only [Act.put, List.setIfInBounds_toArray, List.set_cons_zero, List.set_cons_succ]
          refine wpAnyH_take (i := 4) (oi := ⟨_, _, _, _, _, _⟩) (v := ?_) rfl (by kernel_rfl) (by kernel_rfl) (by kernel_rfl) (fun _ _ _ h => h) (Or.inl ⟨by rfl, ?_⟩) (by assumption) ?_
          rotate_left
          · intro u hSw
            have cu := (hSw.cell (p := ⟨g, off + k * 33, none⟩) hgl).trans cE
            go_simp
            try (with_reducible rfl)
          try simp only [Act.put, List.setIfInBounds_toArray, List.set_cons_zero, List.set_cons_succ]
          refine wpAnyH_take (i := 6) (oi := ⟨_, _, _, _, _, _⟩) rfl (by kernel_rfl) (by kernel_rfl) (by kernel_rfl) (fun _ _ _ h => h) (y24 (by rfl) (.tmp 3) rfl (w.heap.size) (0) rfl X hX (fun u hu => range_below hHr hu hHlt)) (by assumption) ?_
          try simp only [Act.put, List.setIfInBounds_toArray, List.set_cons_zero, List.set_cons_succ]
          refine wpAnyH_ready (rs := [5]) (by kernel_rfl) (by simp) ?_
          refine AllReadyH.cons (o := ⟨_, _, _, _, _, _⟩) rfl (fun K hK => ?_) AllReadyH.nil
          go_simp
          refine (refSum_any e.sp e.n e.cap e.bs _ hb4.len.out hb4.nil (by exact hb4.sl) (by have := hb4.small; omega)).mono ?_
          rintro r u ⟨rfl, hu⟩
          have hHu := hD4.trans (hu.mono (by simp))
          go_wp2_with fail
          refine hK.out _ _ hHu (fun hHeld => ?_)
          clear hK K
          try simp only [Act.put, List.setIfInBounds_toArray, List.set_cons_zero, List.set_cons_succ]
          refine wpAnyH_take (i := 7) (oi := ⟨_, _, _, _, _, _⟩) (v := ?_) rfl (by kernel_rfl) (by kernel_rfl) (by kernel_rfl) (fun _ _ _ h => h) (Or.inl ⟨by rfl, ?_⟩) (by assumption) ?_
          rotate_left
          · intro u hSw
            go_simp
            try (with_reducible rfl)
          try simp only [Act.put, List.setIfInBounds_toArray, List.set_cons_zero, List.set_cons_succ]
          refine wpAnyH_done (by kernel_rfl) ?_ _
          have cE5 := (hHeld.cell (p := ⟨g, off + k * 33, none⟩) hgl).trans cE
          go_wp2_with fail
          go_ret2
          exact ⟨hbl.trans (hHeld.mono hbl.size), .inl ⟨e, hp.out, hme, rfl⟩⟩
        · rw [if_neg hsh] at hp
          rw [decide_eq_false hsh] at hq2
          replace hsh := Hid.mk' hsh
          replace hp := Hid.mk' hp
          simp only [Bool.not_false] at hq2
          go_upto_region 4 with fail
          refine wp_region_held_drew (S := fun u => Below wr.heap.size wr u) (by kernel_rfl) ((Below.refl _ _).drew) (fun hHeld => ?_)
          refine wpAnyH_take (i := 0) (oi := ⟨_, _, _, _, _, _⟩) (v := ?_) rfl (by kernel_rfl) (by kernel_rfl) (by kernel_rfl) (fun _ _ _ h => h) (Or.inl ⟨by rfl, ?_⟩) (by assumption) ?_
          rotate_left
          · intro u hSw
            go_simp
            try (with_reducible rfl)
          try simp only [Act.put, List.setIfInBounds_toArray, List.set_cons_zero, List.set_cons_succ]
          refine wpAnyH_take (i := 1) (oi := ⟨_, _, _, _, _, _⟩) (v := ?_) rfl (by kernel_rfl) (by kernel_rfl) (by kernel_rfl) (fun _ _ _ h => h) (Or.inl ⟨by rfl, ?_⟩) (by assumption) ?_
          rotate_left
          · intro u hSw
            go_simp
            try (with_reducible rfl)
          try simp only [Act.put, List.setIfInBounds_toArray, List.set_cons_zero, List.set_cons_succ]
          refine wpAnyH_take (i := 2) (oi := ⟨_, _, _, _, _, _⟩) (v := ?_) rfl (by kernel_rfl) (by kernel_rfl) (by kernel_rfl) (fun _ _ _ h => h) (Or.inl ⟨by rfl, ?_⟩) (by assumption) ?_
          rotate_left
          · intro u hSw
            go_simp
            try (with_reducible rfl)
          try simp only [Act.put, List.setIfInBounds_toArray, List.set_cons_zero, List.set_cons_succ]
          refine wpAnyH_take (i := 3) (oi := ⟨_, _, _, _, _, _⟩) (v := ?_) rfl (by kernel_rfl) (by kernel_rfl) (by kernel_rfl) (fun _ _ _ h => h) (Or.inl ⟨by rfl, ?_⟩) (by assumption) ?_
          rotate_left
          · intro u hSw
            go_simp
            try (with_reducible rfl)
          try simp only [Act.put, List.setIfInBounds_toArray, List.set_cons_zero, List.set_cons_succ]
          refine wpAnyH_take (i := 4) (oi := ⟨_, _, _, _, _, _⟩) rfl (by kernel_rfl) (by kernel_rfl) (by kernel_rfl) (fun _ _ _ h => h) (y24 (by rfl) (.tmp 16) rfl (g) (off + k * 33 + 1) rfl e.sm he32 (fun u hu => range_below rE hu hgl)) (by assumption) ?_
          try simp only [Act.put, List.setIfInBounds_toArray, List.set_cons_zero, List.set_cons_succ]
          refine wpAnyH_take (i := 5) (oi := ⟨_, _, _, _, _, _⟩) rfl (by kernel_rfl) (by kernel_rfl) (by kernel_rfl) (fun _ _ _ h => h) (y24 (by rfl) (.tmp 3) rfl (w.heap.size) (0) rfl X hX (fun u hu => range_below hHr hu hHlt)) (by assumption) ?_
          try simp only [Act.put, List.setIfInBounds_toArray, List.set_cons_zero, List.set_cons_succ]
          refine wpAnyH_take (i := 6) (oi := ⟨_, _, _, _, _, _⟩) (v := ?_) rfl (by kernel_rfl) (by kernel_rfl) (by kernel_rfl) (fun _ _ _ h => h) (Or.inl ⟨by rfl, ?_⟩) (by assumption) ?_
          rotate_left
          · intro u hSw
            go_simp
            try (with_reducible rfl)
          try simp only [Act.put, List.setIfInBounds_toArray, List.set_cons_zero, List.set_cons_succ]
          refine wpAnyH_done (by kernel_rfl) ?_ _
          go_upto_region 5 with fail
          have hH4 := hHeld
          have rX4 := range_below hHr hH4 hHlt
          have cE4 := (hH4.cell (p := ⟨g, off + k * 33, none⟩) hgl).trans cE
          have hb4 := hbs.below (hH4.mono hbl.size)
          have hD4 := hH4.drew
          refine wp_region_held_drew (S := fun u => Below wr.heap.size wr u) (by kernel_rfl) (hD4) (fun hHeld => ?_)
          refine wpAnyH_take (i := 0) (oi := ⟨_, _, _, _, _, _⟩) (v := ?_) rfl (by kernel_rfl) (by kernel_rfl) (by kernel_rfl) (fun _ _ _ h => h) (Or.inl ⟨by rfl, ?_⟩) (by assumption) ?_
          rotate_left
          · intro u hSw
            go_simp
            try (with_reducible rfl)
          try simp only [Act.put, List.setIfInBounds_toArray, List.set_cons_zero, List.set_cons_succ]
          refine wpAnyH_take (i := 1) (oi := ⟨_, _, _, _, _, _⟩) (v := ?_) rfl (by kernel_rfl) (by kernel_rfl) (by kernel_rfl) (fun _ _ _ h => h) (Or.inl ⟨by rfl, ?_⟩) (by assumption) ?_
          rotate_left
          · intro u hSw
            go_simp
            try (with_reducible rfl)
          try simp only [Act.put, List.setIfInBounds_toArray, List.set_cons_zero, List.set_cons_succ]
          refine wpAnyH_take (i := 2) (oi := ⟨_, _, _, _, _, _⟩) (v := ?_) rfl (by kernel_rfl) (by kernel_rfl) (by kernel_rfl) (fun _ _ _ h => h) (Or.inl ⟨by rfl, ?_⟩) (by assumption) ?_
          rotate_left
          · intro u hSw
            go_simp
            try (with_reducible rfl)
          try simp only [Act.put, List.setIfInBounds_toArray, List.set_cons_zero, List.set_cons_succ]
          refine wpAnyH_take (i := 3) (oi := ⟨_, _, _, _, _, _⟩) (v := ?_) rfl (by kernel_rfl) (by kernel_rfl) (by kernel_rfl) (fun _ _ _ h => h) (Or.inl ⟨by rfl, ?_⟩) (by assumption) ?_
          rotate_left
          · intro u hSw
            go_simp
            try (with_reducible rfl)
          try simp only [Act.put, List.setIfInBounds_toArray, List.set_cons_zero, List.set_cons_succ]
          refine wpAnyH_take (i := 4) (oi := ⟨_, _, _, _, _, _⟩) (v := ?_) rfl (by kernel_rfl) (by kernel_rfl) (by kernel_rfl) (fun _ _ _ h => h) (Or.inl ⟨by rfl, ?_⟩) (by assumption) ?_
          rotate_left
          · intro u hSw
            have cu := (hSw.cell (p := ⟨g, off + k * 33, none⟩) hgl).trans cE
            go_simp
            try (with_reducible rfl)
          try simp only [Act.put, List.setIfInBounds_toArray, List.set_cons_zero, List.set_cons_succ]
          refine wpAnyH_take (i := 6) (oi := ⟨_, _, _, _, _, _⟩) rfl (by kernel_rfl) (by kernel_rfl) (by kernel_rfl) (fun _ _ _ h => h) (y24 (by rfl) (.tmp 3) rfl (w.heap.size) (0) rfl X hX (fun u hu => range_below hHr hu hHlt)) (by assumption) ?_
          try simp only [Act.put, List.setIfInBounds_toArray, List.set_cons_zero, List.set_cons_succ]
          refine wpAnyH_ready (rs := [5]) (by kernel_rfl) (by simp) ?_
          refine AllReadyH.cons (o := ⟨_, _, _, _, _, _⟩) rfl (fun K hK => ?_) AllReadyH.nil
          go_simp
          refine (refSum_any e.sp e.n e.cap e.bs _ hb4.len.out hb4.nil (by exact hb4.sl) (by have := hb4.small; omega)).mono ?_
          rintro r u ⟨rfl, hu⟩
          have hHu := hD4.trans (hu.mono (by simp))
          go_wp2_with fail
          refine hK.out _ _ hHu (fun hHeld => ?_)
          clear hK K
          try simp only [Act.put, List.setIfInBounds_toArray, List.set_cons_zero, List.set_cons_succ]
          refine wpAnyH_take (i := 7) (oi := ⟨_, _, _, _, _, _⟩) (v := ?_) rfl (by kernel_rfl) (by kernel_rfl) (by kernel_rfl) (fun _ _ _ h => h) (Or.inl ⟨by rfl, ?_⟩) (by assumption) ?_
          rotate_left
          · intro u hSw
            go_simp
            try (with_reducible rfl)
          try simp only [Act.put, List.setIfInBounds_toArray, List.set_cons_zero, List.set_cons_succ]
          refine wpAnyH_done (by kernel_rfl) ?_ _
          go_wp2_with fail
          go_ret2
          exact ⟨hbl.trans (hHeld.mono hbl.size), .inr ⟨hp.out, rfl⟩⟩
      · have hd : decide (e.sm = X) = false := by simpa using hq
        rw [hd] at q1
        have hn2 : Hid (∀ (j : Nat) (f : En), j < k + 1 → es[j]? = some f → f.sm ≠ X) := Hid.mk' (fun j f hj hf => by
          by_cases hjk : j = k
          · subst hjk; rw [he.out] at hf; cases hf; exact hq
          · exact hno.out j f (by omega) hf)
        replace hq := Hid.mk' hq
        clear hd
        go_upto_region 4 with fail
        refine wp_region_held_drew (S := fun u => Below wr.heap.size wr u) (by kernel_rfl) ((Below.refl _ _).drew) (fun hHeld => ?_)
        refine wpAnyH_take (i := 0) (oi := ⟨_, _, _, _, _, _⟩) (v := ?_) rfl (by kernel_rfl) (by kernel_rfl) (by kernel_rfl) (fun _ _ _ h => h) (Or.inl ⟨by rfl, ?_⟩) (by assumption) ?_
        rotate_left
        · intro u hSw
          go_simp
          try (with_reducible rfl)
        try simp only [Act.put, List.setIfInBounds_toArray, List.set_cons_zero, List.set_cons_succ]
        refine wpAnyH_take (i := 1) (oi := ⟨_, _, _, _, _, _⟩) (v := ?_) rfl (by kernel_rfl) (by kernel_rfl) (by kernel_rfl) (fun _ _ _ h => h) (Or.inl ⟨by rfl, ?_⟩) (by assumption) ?_
        rotate_left
        · intro u hSw
          go_simp
          try (with_reducible rfl)
        try simp only [Act.put, List.setIfInBounds_toArray, List.set_cons_zero, List.set_cons_succ]
        refine wpAnyH_take (i := 2) (oi := ⟨_, _, _, _, _, _⟩) (v := ?_) rfl (by kernel_rfl) (by kernel_rfl) (by kernel_rfl) (fun _ _ _ h => h) (Or.inl ⟨by rfl, ?_⟩) (by assumption) ?_
        rotate_left
        · intro u hSw
          go_simp
          try (with_reducible rfl)
        try simp only [Act.put, List.setIfInBounds_toArray, List.set_cons_zero, List.set_cons_succ]
        refine wpAnyH_take (i := 3) (oi := ⟨_, _, _, _, _, _⟩) (v := ?_) rfl (by kernel_rfl) (by kernel_rfl) (by kernel_rfl) (fun _ _ _ h => h) (Or.inl ⟨by rfl, ?_⟩) (by assumption) ?_
        rotate_left
        · intro u hSw
          go_simp
          try (with_reducible rfl)
        try simp only [Act.put, List.setIfInBounds_toArray, List.set_cons_zero, List.set_cons_succ]
        refine wpAnyH_take (i := 4) (oi := ⟨_, _, _, _, _, _⟩) rfl (by kernel_rfl) (by kernel_rfl) (by kernel_rfl) (fun _ _ _ h => h) (y24 (by rfl) (.tmp 16) rfl (g) (off + k * 33 + 1) rfl e.sm he32 (fun u hu => range_below rE hu hgl)) (by assumption) ?_
        try simp only [Act.put, List.setIfInBounds_toArray, List.set_cons_zero, List.set_cons_succ]
        refine wpAnyH_take (i := 5) (oi := ⟨_, _, _, _, _, _⟩) rfl (by kernel_rfl) (by kernel_rfl) (by kernel_rfl) (fun _ _ _ h => h) (y24 (by rfl) (.tmp 3) rfl (w.heap.size) (0) rfl X hX (fun u hu => range_below hHr hu hHlt)) (by assumption) ?_
        try simp only [Act.put, List.setIfInBounds_toArray, List.set_cons_zero, List.set_cons_succ]
        refine wpAnyH_take (i := 6) (oi := ⟨_, _, _, _, _, _⟩) (v := ?_) rfl (by kernel_rfl) (by kernel_rfl) (by kernel_rfl) (fun _ _ _ h => h) (Or.inl ⟨by rfl, ?_⟩) (by assumption) ?_
        rotate_left
        · intro u hSw
          go_simp
          try (with_reducible rfl)
        try simp only [Act.put, List.setIfInBounds_toArray, List.set_cons_zero, List.set_cons_succ]
        refine wpAnyH_done (by kernel_rfl) ?_ _
        go_wp2_with fail
        go_roundw
        case rel => exact ⟨k + 1, by go_num, by omega, hbl.trans (hHeld.mono hbl.size), hH.below hHeld hHlt, hn2⟩
        case measure => simp [intOf]; omega
    · have hI : ¬ (k : Int) < n := by omega
      obtain rfl : k = n := by omega
      have hn2 : Hid (∀ (j : Nat) (f : En), es[j]? = some f → f.sm ≠ X) := Hid.mk' (fun j f hf => hno.out j f (by rw [hl.out]; exact (List.getElem?_eq_some_iff.1 hf).1) hf)
      go_wp2_with fail
      go_ret2
      exact ⟨hbl, .inr ⟨pre_none hn2.out, rfl⟩⟩
end Go.Proofs.Ytmljihggooaboaa
/- Layer interp: what the layers below give. -/
namespace Go.Proofs.Ytmljihggooaboaa
open Go.RowKit
set_option maxRecDepth 100000
set_option linter.unusedVariables false
set_option linter.unusedSimpArgs false

theorem Chg.setRow {S : Nat → Prop} {a b : World} (h : Chg S a b) {g : Nat} (D : Array Value) (hg : g < a.heap.size → S g) : Chg S a (b.setRow g D) :=
  ⟨h.os, h.tape, h.output, by simpa using h.size, fun i hi hs => (setRow_other b g i D (fun e => hs (by subst e; exact hg hi))).trans (h.block i hi hs)⟩
end Go.Proofs.Ytmljihggooaboaa
/- Layer interp: what the layers below give. -/
namespace Go.Proofs.Ytmljihggooaboaa
open Go.RowKit
set_option maxRecDepth 100000
set_option linter.unusedVariables false
set_option linter.unusedSimpArgs false

theorem words_step1 {C : Array Value} {H : Nat → Int} {k : Nat} (hH : ∀ t, t < 32 → 0 ≤ H t ∧ H t ≤ 255) (hk : k < 32) (hs : C.size = 4) (h : ∀ j, j < 4 → C[j]? = some (.int .u64 (wpart H k j))) :
    ∀ j, j < 4 → (C.setIfInBounds (k / 8) (.int .u64 (bits .or .u64 (IntKind.u64.wrap (wpart H k (k / 8) * 256)) (IntKind.u64.wrap (H k)))))[j]? = some (.int .u64 (wpart H (k + 1) j)) := by
  intro j hj
  rw [words_val hH hk, Array.getElem?_setIfInBounds]
  by_cases e : k / 8 = j
  · subst e; simp [hs, hj]
  · rw [if_neg e, h j hj, words_other (Ne.symm e)]
set_option maxHeartbeats 1000000 in
theorem refWords_any (C0 : Array Value) (H : Nat → Int) (w : World) (hC0 : ∀ t, t < 32 → C0[t]? = some (.int .u8 (H t))) (hH : ∀ t, t < 32 → 0 ≤ H t ∧ H t ≤ 255) :
    Calls Try.prog 68 #[.agg C0] w fun e w' => e = .returned (.agg (wordsOf H)) ∧ Below w.heap.size w w' := by
  go_enter Try.func68, Try.ntmps68
  go_wp2
  go_loopw [4] (fun i wr => ∃ (k : Nat) (C Z : Array Value), k ≤ 32 ∧ i = .int .i64 k ∧ Arr wr w.heap.size 55 C0 ∧ Arr wr (w.heap.size + 1) 126 Z ∧ Z.size = 4 ∧ Arr wr (w.heap.size + 1 + 1) 126 C ∧ C.size = 4 ∧ (∀ j, j < 4 → C[j]? = some (.int .u64 (wpart H k j))) ∧ Below w.heap.size w wr)
    (fun i _ => 32 - (intOf i).toNat)
  case atStart => exact ⟨0, _, _, by omega, rfl, ((Arr.new w 55 C0).alloc _).alloc _, by simpa using (Arr.new (w.alloc _) 126 _).alloc _, rfl, by simpa using Arr.new ((w.alloc _).alloc _) 126 _, rfl, fun j hj => by (match j, hj with | 0, _ => rfl | 1, _ => rfl | 2, _ => rfl | 3, _ => rfl), (((Below.refl _ _).alloc (by simp) _).alloc (by simp) _).alloc (by simp; omega) _⟩
  case round =>
    obtain ⟨k, C, Z, hk, rfl, hX, hZ, hZs, hC, hCs, hw, hbl⟩ := hrel
    have HW := Hid.mk' hw
    clear hw
    by_cases hlt : k < 32
    · have h3 : (k : Int) < 32 := by omega
      have h4 : (0 : Int) ≤ k := by omega
      have h5 : (k : Int) / 8 < 4 := by omega
      have h6 : (0 : Int) ≤ (k : Int) / 8 := by omega
      have c1 : wr.cell? ⟨w.heap.size, k, none⟩ = some (.int .u8 (H k)) := (hX.cell _).trans (hC0 _ hlt)
      have c0 : wr.cell? ⟨w.heap.size + 1 + 1, k / 8, none⟩ = some (.int .u64 (wpart H k (k / 8))) := (hC.cell _).trans (HW.out _ (by omega))
      have f0 := hC.frozen (k / 8)
      go_wp2
      go_region
      all_goals go_wp2
      all_goals
        go_roundw
        case rel =>
          exact ⟨k + 1, _, Z, by omega, by go_num, (hX.setOther _ (by simp; omega)).drew, (hZ.setOther _ (by simp)).drew, hZs, (hC.set _ _).drew, by simp [hCs], words_step1 hH hlt hCs HW.out, (hbl.setCell (by simp; omega) _).drew⟩
        case measure => simp [intOf]; omega
    · obtain rfl : k = 32 := by omega
      have hCe : C = wordsOf H := arr_eq hCs (fun j hj => by rw [HW.out j hj]; unfold wpart; rw [show min (32 - 8 * j) 8 = 8 by omega])
      subst hCe
      go_wp2_with (first
        | (refine wpList_load_row (by rfl) 126 (.tmp 3) (by rfl) (w.heap.size + 1 + 1) (by rfl) 126 (wordsOf H) (0, 0) _ hC Try.underlying126 rfl (s30u _) ?_)
        | (refine wpList_store_arr (by rfl) 126 (.tmp 2) (.tmp 22) (by rfl) (w.heap.size + 1) (wordsOf H) (by rfl) (by rfl) 126 _ hZ (s30u _) (by rw [hZs]; exact (u64s_size _ _).symm) (u64s_one _ _) ?_))
      exact bodyPost_ret (v := .agg (wordsOf H)) (results_cell_row Try.results68 _ _ (w.heap.size + 1) 126 _ (0, 0) _ rfl (hZ.setRow _) Try.underlying126 rfl (s30u _)) rfl ⟨rfl, below_setRow hbl (by omega) _⟩
set_option maxHeartbeats 1000000 in
theorem refFrom_any (C0 : Array Value) (W : Nat → Int) (w : World) (hC0 : ∀ t, t < 4 → C0[t]? = some (.int .u64 (W t))) :
    Calls Try.prog 70 #[.agg C0] w fun e w' => e = .returned (.agg (u8s 32 (fromB W))) ∧ Below w.heap.size w w' := by
  go_enter Try.func70, Try.ntmps70
  go_wp2
  go_loopw [4] (fun i wr => ∃ (k : Nat) (C Z : Array Value), k ≤ 32 ∧ i = .int .i64 k ∧ Arr wr w.heap.size 126 C0 ∧ Arr wr (w.heap.size + 1) 55 Z ∧ Z.size = 32 ∧ Arr wr (w.heap.size + 1 + 1) 55 C ∧ C.size = 32 ∧ (∀ t, t < k → C[t]? = some (.int .u8 (fromB W t))) ∧ Below w.heap.size w wr)
    (fun i _ => 32 - (intOf i).toNat)
  case atStart => exact ⟨0, _, _, by omega, rfl, ((Arr.new w 126 C0).alloc _).alloc _, by simpa using (Arr.new (w.alloc _) 55 _).alloc _, rfl, by simpa using Arr.new ((w.alloc _).alloc _) 55 _, rfl, fun j hj => by omega, (((Below.refl _ _).alloc (by simp) _).alloc (by simp) _).alloc (by simp; omega) _⟩
  case round =>
    obtain ⟨k, C, Z, hk, rfl, hX, hZ, hZs, hC, hCs, hw, hbl⟩ := hrel
    have HW := Hid.mk' hw
    clear hw
    by_cases hlt : k < 32
    · have h3 : (k : Int) < 32 := by omega
      have h4 : (0 : Int) ≤ k := by omega
      have c0 : wr.cell? ⟨w.heap.size, k / 8, none⟩ = some (.int .u64 (W (k / 8))) := (hX.cell _).trans (hC0 _ (by omega))
      obtain ⟨v1, c1⟩ := hC.got (j := k) (by omega)
      have f0 := hC.frozen k
      go_wp2
      go_roundw
      case rel =>
        have q := set_step (f := fun t => .int .u8 (fromB W t)) hCs (by omega) HW.out
        exact ⟨k + 1, _, Z, by omega, by go_num, hX.setOther _ (by simp; omega), hZ.setOther _ (by simp), hZs, hC.set _ _, by simp [hCs], q, hbl.setCell (by simp; omega) _⟩
      case measure => simp [intOf]; omega
    · obtain rfl : k = 32 := by omega
      have hCe : C = u8s 32 (fromB W) := arr_eq hCs HW.out
      subst hCe
      go_wp2_with (first
        | (refine wpList_load_row (by rfl) 55 (.tmp 3) (by rfl) (w.heap.size + 1 + 1) (by rfl) 55 (u8s 32 (fromB W)) (0, 0) _ hC Try.underlying55 rfl (s24u8 _) ?_)
        | (refine wpList_store_arr (by rfl) 55 (.tmp 2) (.tmp 22) (by rfl) (w.heap.size + 1) (u8s 32 (fromB W)) (by rfl) (by rfl) 55 _ hZ (s24u8 _) (by rw [hZs]; exact (u8s_size _ _).symm) (u8s_one _ _) ?_))
      exact bodyPost_ret (v := .agg (u8s 32 (fromB W))) (results_cell_row Try.results70 _ _ (w.heap.size + 1) 55 _ (0, 0) _ rfl (hZ.setRow _) Try.underlying55 rfl (s24u8 _)) rfl ⟨rfl, below_setRow hbl (by omega) _⟩
end Go.Proofs.Ytmljihggooaboaa
