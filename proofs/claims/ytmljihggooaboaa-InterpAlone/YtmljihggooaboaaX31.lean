/- Layer interp: what the layers below give. -/
import Derived.Test.YtmljihggooaboaaX01
import Derived.Test.YtmljihggooaboaaX16
import Derived.Test.YtmljihggooaboaaX17
import Derived.Test.YtmljihggooaboaaX20
import Derived.Test.YtmljihggooaboaaX30
import Derived.Test.YtmljihggooaboaaX21
import Derived.Test.YtmljihggooaboaaX28
import Derived.Test.YtmljihggooaboaaX22
import Derived.BigQuiet
import Derived.BigRegion
import Derived.ChangeKeysEq
import Derived.Deep.DeepCutAuto
import Derived.Deep.DrawnRows
import Derived.Deep.MidRow
import Derived.Deep.QuietTactic
import Derived.Deep.RegionHeld3
import Derived.Deep.RegionLaw
import Derived.Deep.RegionWith
import Derived.Deep.WholeRow
import Derived.DeepKeys3
import Derived.Great.BuildSlice
import Derived.Laws.AppendOwnNone
import Derived.Laws.BitsLemmas
import Derived.Laws.BytesArg
import Derived.Laws.CopyOwn
import Derived.Laws.ResultCell
import Derived.Laws.Tables
import Derived.Lib.SlBytesConst
import Derived.LoopIn
import Derived.LoopNIn
import Derived.Maps.AppendAt
import Derived.OwnWalkIn
import Derived.RangeFuncBound
import Derived.RangeFuncCalls
import Derived.RangeFuncLeaves
import Derived.RangeFuncNested
import Derived.RangeFuncRecord
import Derived.Shelf.Abstract
import Derived.Shelf.RegionOpen
import Derived.TacticsInMore
import Derived.WalkKit
import Derived.WalkLawsBesides
import Derived.WalkSpells
namespace Go.Proofs.Ytmljihggooaboaa
open Go.RowKit
set_option maxRecDepth 100000
set_option linter.unusedVariables false
set_option linter.unusedSimpArgs false

/-- The first entry that says to be a sum's. -/
structure Fst (es : List En) (X : List Int) (i : Nat) (e : En) : Prop where
  here : es[i]? = some e
  sm : e.sm = X
  first : ∀ (j : Nat) (f : En), j < i → es[j]? = some f → f.sm ≠ X
def pre (es : List En) (X : List Int) : Option En := match es.find? (fun e => decide (e.sm = X)) with
  | some e => if shl e.bs = X then some e else none
  | none => none
theorem Fst.find {es : List En} {X : List Int} {i : Nat} {e : En} (h : Fst es X i e) : es.find? (fun e => decide (e.sm = X)) = some e := by
  rw [List.find?_eq_some_iff_getElem]
  obtain ⟨hi, he⟩ := List.getElem?_eq_some_iff.1 h.here
  refine ⟨by simpa using h.sm, i, hi, he, fun j hj => ?_⟩
  have := h.first j _ hj (List.getElem?_eq_getElem (by omega))
  simpa using this
theorem Fst.pre {es : List En} {X : List Int} {i : Nat} {e : En} (h : Fst es X i e) : pre es X = if shl e.bs = X then some e else none := by
  unfold Ytmljihggooaboaa.pre; rw [h.find]
theorem pre_none {es : List En} {X : List Int} (h : ∀ (j : Nat) (f : En), es[j]? = some f → f.sm ≠ X) : pre es X = none := by
  have : es.find? (fun e => decide (e.sm = X)) = none := by
    rw [List.find?_eq_none]
    intro f hf
    obtain ⟨j, hj⟩ := List.getElem?_of_mem hf
    simpa using h j f hj
  unfold pre; rw [this]
/-- What place answers. -/
def PlPost (es : List En) (X : List Int) (w : World) (r : Ending) (w' : World) : Prop := Below w.heap.size w w' ∧
  ((∃ i e, Fst es X i e ∧ r = .returned (.tuple #[.int .i64 (i : Nat), .bool (decide (shl e.bs = X))])) ∨ ((∀ (j : Nat) (f : En), es[j]? = some f → f.sm ≠ X) ∧ r = .returned (.tuple #[.int .i64 0, .bool false])))
theorem eq_sum (L X : List Int) (hX : X.length = 32) (w : World) : (binOp .eql 55 (.agg (sha L)) (.agg (h8 X))).run Try.prog w = .ok (.bool (decide (shl L = X))) w := by
  rw [sha_h8]; exact run_eq24 (shl_len L) hX w
set_option maxHeartbeats 1000000 in
theorem place_any (sp : Option Addr) (n cap : Nat) (es : List En) (X : List Int) (N : Nat) (w : World) (hS : ES N w sp n cap es) (hX : X.length = 32) :
    Calls Try.prog 86 #[.slice sp n cap, .agg (h8 X)] w (PlPost es X w) := by
  have hl := hS.len
  have hsm := hS.small
  have hS := hS.here
  go_enter Try.func86, Try.ntmps86
  go_wp2_with fail
  go_loopw [10] (fun q wr => ∃ (k : Nat), q = .int .i64 (k : Int) ∧ k ≤ n ∧ Below w.heap.size w wr ∧ Arr wr w.heap.size 55 (h8 X) ∧ Hid (∀ (j : Nat) (f : En), j < k → es[j]? = some f → f.sm ≠ X))
    (fun q _ => n - (intOf q).toNat)
  case atStart => exact ⟨0, rfl, by omega, (Below.refl _ _).alloc (Nat.le_refl _) _, Arr.new w 55 _, Hid.mk' (fun j f hj => by omega)⟩
  case round =>
    obtain ⟨k, rfl, hk, hbl, hH, hno⟩ := hrel
    by_cases hlt : k < n
    · have hI : (k : Int) < n := by omega
      have hSr := hS.below hbl
      obtain ⟨g, off, rfl, hgN, hR⟩ := hSr.at0 (by omega)
      obtain ⟨e, he⟩ : ∃ e, es[k]? = some e := ⟨es[k]'(by rw [← hl.out]; exact hlt), List.getElem?_eq_getElem _⟩
      have hok := hSr.ok e (List.mem_of_getElem? he)
      have he32 := hok.s32
      have hRe := hR k e he
      have AE := Arr.new wr 57 e.arr
      have rE := range_sm (rangeE AE)
      have cE := range_c0 (rangeE AE)
      have hbE := alloc_bel' wr (.cells e.arr 57)
      have hbW := hbl.alloc hbl.size (.cells e.arr 57)
      have hH1 := (hH.alloc (.cells e.arr 57)).range
      have q1 := run_eq24 he32 hX
      have hHlt := hH.lt
      replace he := Hid.mk' he
      by_cases hq : e.sm = X
      · have hd : decide (e.sm = X) = true := by simpa using hq
        rw [hd] at q1
        have hfst := Hid.mk' (Fst.mk he.out hq hno.out)
        have hq2 := eq_sum e.bs X hX
        have hbs := hok.body.below (hbE.mono hbl.size)
        replace hq := Hid.mk' hq
        clear hd
        go_upto_region 5 with (first
          | (refine ld54 (by rfl) _ (by rfl) g (off + k * 33) (by rfl) e he32 hRe ?_)
          | (refine st54n (by rfl) _ _ (by rfl) wr wr.heap.size rfl (by rfl) e (by rfl) (by rfl) he32 ?_)
          | (refine ld24 (by rfl) _ (by rfl) wr.heap.size (0 + 1) (by rfl) e.sm he32 rE ?_)
          | (refine ld24 (by rfl) _ (by rfl) w.heap.size 0 (by rfl) X hX hH1 ?_))
        refine wp_region_held_drew (S := fun u => Below (wr.alloc (.cells e.arr 57)).heap.size (wr.alloc (.cells e.arr 57)) u) (by kernel_rfl) ((Below.refl _ _).drew) (fun hHeld => ?_)
        refine wpAnyH_take (i := 0) (oi := ⟨_, _, _, _, _, _⟩) (v := ?_) rfl (by kernel_rfl) (by kernel_rfl) (by kernel_rfl) (fun _ _ _ h => h) (Or.inl ⟨by rfl, ?_⟩) (by assumption) ?_
        rotate_left
        · intro u hSw
          go_simp
          try (with_reducible rfl)
        try simp only [Act.put, List.setIfInBounds_toArray, List.set_cons_zero, List.set_cons_succ]
        refine wpAnyH_take (i := 1) (oi := ⟨_, _, _, _, _, _⟩) (v := ?_) rfl (by kernel_rfl) (by kernel_rfl) (by kernel_rfl) (fun _ _ _ h => h) (Or.inl ⟨by rfl, ?_⟩) (by assumption) ?_
        rotate_left
        · intro u hSw
          go_simp
          try (with_reducible rfl)
        try simp only [Act.put, List.setIfInBounds_toArray, List.set_cons_zero, List.set_cons_succ]
        refine wpAnyH_take (i := 2) (oi := ⟨_, _, _, _, _, _⟩) (v := ?_) rfl (by kernel_rfl) (by kernel_rfl) (by kernel_rfl) (fun _ _ _ h => h) (Or.inl ⟨by rfl, ?_⟩) (by assumption) ?_
        rotate_left
        · intro u hSw
          have cu := (hSw.cell (p := ⟨wr.heap.size, 0, none⟩) (by simp)).trans cE
          go_simp
          try (with_reducible rfl)
        try simp only [Act.put, List.setIfInBounds_toArray, List.set_cons_zero, List.set_cons_succ]
        refine wpAnyH_take (i := 4) (oi := ⟨_, _, _, _, _, _⟩) rfl (by kernel_rfl) (by kernel_rfl) (by kernel_rfl) (fun _ _ _ h => h) (y24 (by rfl) (.tmp 3) rfl (w.heap.size) (0) rfl X hX (fun u hu => range_below hH1 hu (by simp; omega))) (by assumption) ?_
        try simp only [Act.put, List.setIfInBounds_toArray, List.set_cons_zero, List.set_cons_succ]
        refine wpAnyH_ready (rs := [3]) (by kernel_rfl) (by simp) ?_
        refine AllReadyH.cons (o := ⟨_, _, _, _, _, _⟩) rfl (fun K hK => ?_) AllReadyH.nil
        go_simp
        refine (sum_sl e.sp e.n e.cap e.bs (wr.alloc (.cells e.arr 57)).drew hbs.len.out hbs.nil hbs.sl hbs.le (by have := hbs.small; omega)).mono ?_
        rintro r u ⟨rfl, hu⟩
        have hHu := ((Below.refl (wr.alloc (.cells e.arr 57)).heap.size (wr.alloc (.cells e.arr 57))).drew).trans (hu.mono (by simp))
        go_wp2_with fail
        refine hK.out _ _ hHu (fun hHeld => ?_)
        clear hK K
        try simp only [Act.put, List.setIfInBounds_toArray, List.set_cons_zero, List.set_cons_succ]
        refine wpAnyH_take (i := 5) (oi := ⟨_, _, _, _, _, _⟩) (v := ?_) rfl (by kernel_rfl) (by kernel_rfl) (by kernel_rfl) (fun _ _ _ h => h) (Or.inl ⟨by rfl, ?_⟩) (by assumption) ?_
        rotate_left
        · intro u hSw
          go_simp
          try (with_reducible rfl)
        try simp only [Act.put, List.setIfInBounds_toArray, List.set_cons_zero, List.set_cons_succ]
        refine wpAnyH_take (i := 6) (oi := ⟨_, _, _, _, _, _⟩) (v := ?_) rfl (by kernel_rfl) (by kernel_rfl) (by kernel_rfl) (fun _ _ _ h => h) (Or.inl ⟨by rfl, ?_⟩) (by assumption) ?_
        rotate_left
        · intro u hSw
          go_simp
          try (with_reducible rfl)
        try simp only [Act.put, List.setIfInBounds_toArray, List.set_cons_zero, List.set_cons_succ]
        refine wpAnyH_take (i := 7) (oi := ⟨_, _, _, _, _, _⟩) (v := ?_) rfl (by kernel_rfl) (by kernel_rfl) (by kernel_rfl) (fun _ _ _ h => h) (Or.inl ⟨by rfl, ?_⟩) (by assumption) ?_
        rotate_left
        · intro u hSw
          go_simp
          try (with_reducible rfl)
        try simp only [Act.put, List.setIfInBounds_toArray, List.set_cons_zero, List.set_cons_succ]
        refine wpAnyH_done (by kernel_rfl) ?_ _
        go_wp2_with fail
        go_ret2
        exact ⟨hbW.trans (hHeld.mono (by have := hbl.size; simp; omega)), .inl ⟨k, e, hfst.out, rfl⟩⟩
      · have hd : decide (e.sm = X) = false := by simpa using hq
        rw [hd] at q1
        have hn2 : Hid (∀ (j : Nat) (f : En), j < k + 1 → es[j]? = some f → f.sm ≠ X) := Hid.mk' (fun j f hj hf => by
          by_cases hjk : j = k
          · subst hjk; rw [he.out] at hf; cases hf; exact hq
          · exact hno.out j f (by omega) hf)
        replace hq := Hid.mk' hq
        clear hd
        go_wp2_with (first
          | (refine ld54 (by rfl) _ (by rfl) g (off + k * 33) (by rfl) e he32 hRe ?_)
          | (refine st54n (by rfl) _ _ (by rfl) wr wr.heap.size rfl (by rfl) e (by rfl) (by rfl) he32 ?_)
          | (refine ld24 (by rfl) _ (by rfl) wr.heap.size (0 + 1) (by rfl) e.sm he32 rE ?_)
          | (refine ld24 (by rfl) _ (by rfl) w.heap.size 0 (by rfl) X hX hH1 ?_))
        go_roundw
        case rel => exact ⟨k + 1, by go_num, by omega, hbW, hH.alloc _, hn2⟩
        case measure => simp [intOf]; omega
    · have hI : ¬ (k : Int) < n := by omega
      obtain rfl : k = n := by omega
      have hn2 : Hid (∀ (j : Nat) (f : En), es[j]? = some f → f.sm ≠ X) := Hid.mk' (fun j f hf => hno.out j f (by rw [hl.out]; exact (List.getElem?_eq_some_iff.1 hf).1) hf)
      go_wp2_with fail
      go_ret2
      exact ⟨hbl, .inr ⟨hn2.out, rfl⟩⟩
end Go.Proofs.Ytmljihggooaboaa
