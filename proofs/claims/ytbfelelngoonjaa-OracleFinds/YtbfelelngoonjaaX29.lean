/- Layer oracle: what the layers below give. -/
import Derived.Test.YtbfelelngoonjaaX01
import Derived.Test.YtbfelelngoonjaaX02
import Derived.Test.YtbfelelngoonjaaX03
import Derived.Test.YtbfelelngoonjaaX04
import Derived.Test.YtbfelelngoonjaaX05
import Derived.Test.YtbfelelngoonjaaX17
import Derived.Test.YtbfelelngoonjaaX10
import Derived.Test.YtbfelelngoonjaaX06
import Derived.Test.YtbfelelngoonjaaX12
import Derived.Test.YtbfelelngoonjaaX13
import Derived.Test.YtbfelelngoonjaaX14
import Derived.Test.YtbfelelngoonjaaX16
import Derived.Test.YtbfelelngoonjaaX18
import Derived.Test.YtbfelelngoonjaaX23
import Derived.Test.YtbfelelngoonjaaX19
import Derived.Test.YtbfelelngoonjaaX21
import Derived.BigQuiet
import Derived.BigRegion
import Derived.ChangeKeysEq
import Derived.Deep.DeepCutAuto
import Derived.Deep.DrawnRows
import Derived.Deep.MidRow
import Derived.Deep.QuietTactic
import Derived.Deep.RegionHeld3
import Derived.Deep.RegionLaw
import Derived.Deep.RegionWith
import Derived.Deep.WholeRow
import Derived.Great.BuildSlice
import Derived.Great.FillDense
import Derived.Laws.AppendOwnNone
import Derived.Laws.BitsLemmas
import Derived.Laws.BytesArg
import Derived.Laws.CopyOwn
import Derived.Laws.CopyRow
import Derived.Laws.MakeOwn
import Derived.Laws.OwnMore
import Derived.Laws.Tables
import Derived.Lib.SlBytesConst
import Derived.LoopIn
import Derived.LoopNIn
import Derived.Maps.AppendAt
import Derived.OwnWalkIn
import Derived.RangeFuncBound
import Derived.RangeFuncCalls
import Derived.RangeFuncLeaves
import Derived.RangeFuncNested
import Derived.RangeFuncRecord
import Derived.Shelf.Abstract
import Derived.Shelf.RegionOpen
import Derived.TacticsInMore
import Derived.WalkKit
import Derived.WalkLawsBesides
import Derived.WalkSpells
namespace Go.Proofs.Ytbfelelngoonjaa
open Go.RowKit Go.Shelf
set_option maxRecDepth 100000
set_option linter.unusedVariables false
set_option linter.unusedSimpArgs false
attribute [local go_sem] Oper.semAt_some

theorem zl_eq : zl = List.replicate 32 Z32 := rfl
/-- What the entry j of a tree's pairs is. -/
def PT (S0 : Nat) (L : List (List Int)) (j : Nat) (e : En) : Prop := ∃ B, L[j]? = some B ∧ Hid (e.bs = B ∧ e.sm = shl B) ∧ ∀ b off, e.sp = some ⟨b, off, none⟩ → S0 ≤ b
theorem sam_cells {S0 g : Nat} {own : Nat → Prop} {W : World} (hg : S0 ≤ g) (ho : ¬ own g) (vs : List Value) (o : Nat) : Sam S0 own W (W.setCells g o vs) := by
  have h := below_setCells (Below.refl S0 W) hg vs o
  exact ⟨h.os, h.tape, h.output, h.size, fun b hb hbo => heap_setCells_other (fun e => by subst e; rcases hbo with h | h; omega; exact ho h) vs o W⟩
theorem drop_get {α : Type} {L M : List α} {T i : Nat} {x : α} (h : L.drop T = M) (hx : M[i]? = some x) : L[T + i]? = some x := by
  rw [← h, List.getElem?_drop] at hx; exact hx
theorem lvl_bts {l : List (List Int)} : ∀ x ∈ (lvl l).map shl, Bts x := by
  intro x hx
  obtain ⟨y, -, rfl⟩ := List.mem_map.1 hx
  exact shl_bts _
theorem y24b {ops : Array Oper} {S : World → Prop} {op : Oper} {a : Act} (hw : Region.wanted op (yielded ops a.tmps) = true) (x : Operand) (ho : op.op = .load 32 x)
    (b off : Nat) (hx : a.eval x = .pointer (some ⟨b, off, none⟩)) (X : List Int) (hX : X.length = 32) (hS : ∀ w, S w → w.rangeAt b off (by8 X)) : YieldsIf Try.prog ops S op (.agg (h8 X)) a :=
  yieldsIf_load_mid hw 32 x ho b off hx (by8 X) _ hS Try.underlying32 rfl (by rw [by8_len, hX]; exact size24)
set_option maxHeartbeats 4000000 in
theorem pairs_in (gc S0 B0 : Nat) (sp : Option Addr) (n cap : Nat) (es : List En) (ls : List (List Int)) (hgc : gc < S0) (hn : n ≤ 32) (hls : Hid (es.map En.sm = ls)) (bls : ∀ x ∈ ls, Bts x) :
    Tells 94 #[.pointer (some ⟨gc, 0, none⟩)] S0 B0 (fun W => W.cell? ⟨gc, 0, none⟩ = some (.slice sp n cap) ∧ ES S0 W sp n cap es) (PT S0 (prs 5 (pad ls))) 31 := by
  intro k lp J hJM hJB hY W own0 h0
  refine callsIn_of_wp Try.func94 rfl trivial ?_ rfl
  simp only [Try.ntmps94, List.size_toArray, List.length_cons, List.length_nil, Nat.reduceAdd, Nat.reduceSub, Array.replicate_succ, Array.replicate_zero, List.push_toArray, List.append_toArray, List.nil_append, List.cons_append]
  obtain ⟨⟨c1, hE0⟩, hsz, hown0⟩ := hJM 0 own0 W h0
  have hl : Hid (n = ls.length) := Hid.mk' (by rw [← hls.out, List.length_map]; exact hE0.len.out)
  have hl32 := ES.s32'' hE0 hls
  have hb0 := alloc_bel' W (.cells (flat32 zl).toArray 32)
  have A0 := Arr.new W 32 (flat32 zl).toArray
  have c1' := (hb0.cell (p := ⟨gc, 0, none⟩) (by show gc < _; omega)).trans c1
  have hE1 := hE0.below (hb0.mono hsz)
  have hLv := leaves_any S0 sp n cap es _ hE1 hn
  rw [hls.out] at hLv
  clear hE0 hE1 c1
  replace hLv := Hid.mk' hLv
  gi_wp2_with (first
    | (refine mk24w (by rfl) _ (by rfl) (by rfl) ?_)
    | (refine ⟨trivial, fun h => (by cases h), ?_⟩; gi_at_call 90; go_must (refine (callsIn_wide.2 hLv.out).mono ?_; rintro e w1 ⟨s1, k1, rfl, hH1, -, hb1⟩; have A1 := A0.below hb1 A0.lt; rw [zl_eq] at A1; replace A1 := Hid.mk' A1))
    | (refine cp24w (by rfl) _ _ (by rfl) W.heap.size 32 _ s1 n k1 ls (by rfl) (by rfl) hH1 A1.out hn ?_))
  have hB1 := hb0.trans (hb1.mono (by simp))
  have hp : ls ++ List.replicate (32 - n) Z32 = pad ls := by unfold pad; rw [hl.out]
  rw [hp]
  have A2 := A1.out.setRow (flat32 (pad ls)).toArray
  have hB2 : Below W.heap.size W (w1.setRow W.heap.size (flat32 (pad ls)).toArray) := below_setRow hB1 (Nat.le_refl _) _
  have hJ2 := hJB 0 own0 W _ h0 (Sam.of hB2)
  have hog0 : ¬ own0 W.heap.size := fun ho => by have := hown0 _ ho; omega
  have hL2 := LL.arr A2 (pad_32 hl32)
  have hpl : (pad ls).length = 32 := pad_len (by have := hl.out; omega)
  have hpb : ∀ x ∈ pad ls, Bts x := by
    intro x hx
    rcases List.mem_append.1 hx with h | h
    · exact bls x h
    · rw [(List.mem_replicate.1 h).2]; exact Z32_bts
  have hpr := prs_len 5 (pad ls) hpl
  clear A2 A1 A0 hp c1'
  obtain ⟨gl, hgle⟩ : ∃ gl, gl = W.heap.size := ⟨_, rfl⟩
  have hgS : S0 ≤ gl := by omega
  rw [← hgle] at hL2 hJ2 hog0 ⊢
  replace hgle := Hid.mk' hgle
  clear hLv hb0
  generalize w1.setRow gl (flat32 (pad ls)).toArray = W2 at *
  simp only [Act.put, goInt, List.setIfInBounds_toArray, List.set_cons_zero, List.set_cons_succ]
  gi_loopw [3] (fun v wr => ∃ (d m T : Nat) (l F : List (List Int)) (own : Nat → Prop), v = .slice (some ⟨gl, 0, none⟩) m 32 ∧ m = 2 ^ d ∧ d ≤ 5 ∧ l.length = m ∧ (∀ x ∈ l, Bts x) ∧ F.length = 32 ∧ F.take m = l ∧ LL wr gl F ∧ J T own wr ∧ ¬ own gl ∧ Hid ((prs 5 (pad ls)).drop T = prs d l) ∧ T + m = 32) (fun v _ => match v with | .slice _ m _ => m | _ => 0)
  case atStart => exact ⟨5, 32, 0, pad ls, pad ls, own0, rfl, rfl, by omega, hpl, hpb, hpl, List.take_of_length_le (by omega), hL2, hJ2, hog0, Hid.mk' rfl, rfl⟩
  case round =>
    obtain ⟨d, m, T, l, F, own1, rfl, hm, hd, hlm, hlb, hF, hFl, hLo, hJT, hog1, hto, hTm⟩ := hrel
    clear hJ2 hL2 h0
    cases d with
    | zero =>
      obtain rfl : m = 1 := hm
      obtain rfl : T = 31 := by omega
      gi_wp2
      go_end0
      exact ⟨⟨_, rfl⟩, own1, hJT⟩
    | succ d =>
      obtain ⟨h, hh⟩ : ∃ h, h = 2 ^ d := ⟨_, rfl⟩
      have hmh : m = 2 * h := by rw [hm, hh, Nat.pow_succ]; omega
      have hh0 : 0 < h := by rw [hh]; exact Nat.pow_pos (by omega)
      have hm1 : (1 : Int) < m := by omega
      have hq : m / 2 = h := by omega
      have hlv := lvl_len h l (by omega)
      have hpd : Hid (prs (d + 1) l = lvl l ++ prs d ((lvl l).map shl)) := Hid.mk' rfl
      have hh16 : h ≤ 16 := by omega
      replace hm := Hid.mk' hm
      replace hh := Hid.mk' hh
      replace hmh := Hid.mk' hmh
      gi_wp2_with fail
      gi_loopw [19] (fun q wr => ∃ (i : Nat) (own : Nat → Prop), q = .int .i64 (i : Int) ∧ i ≤ h ∧ J (T + i) own wr ∧ LL wr gl (((lvl l).map shl).take i ++ F.drop i) ∧ ¬ own gl) (fun q _ => h - (intOf q).toNat)
      case atStart => exact ⟨0, own1, rfl, by omega, hJT, by simpa using hLo, hog1⟩
      case round =>
        obtain ⟨i, own, rfl, hi, hJi, hL, hogl⟩ := hrel
        clear hJT hLo
        obtain ⟨-, hszr, howr⟩ := hJM _ own wr hJi
        have hmo := hmh.out
        have hFi : (((lvl l).map shl).take i ++ F.drop i).length = 32 := by simp [hlv, hF]; omega
        have hgl := hL.lt (by omega)
        by_cases hlt : i < h
        · have hI : (i : Int) < h := by omega
          obtain ⟨X, hX⟩ : ∃ X, l[2 * i]? = some X := ⟨l[2 * i]'(by omega), List.getElem?_eq_getElem _⟩
          obtain ⟨Y, hY'⟩ : ∃ Y, l[2 * i + 1]? = some Y := ⟨l[2 * i + 1]'(by omega), List.getElem?_eq_getElem _⟩
          have hlv1 := lvl_get l i X Y hX hY'
          have hFX : F[2 * i]? = some X := by rw [← hFl, List.getElem?_take_of_lt (by omega)] at hX; exact hX
          have hFY : F[2 * i + 1]? = some Y := by rw [← hFl, List.getElem?_take_of_lt (by omega)] at hY'; exact hY'
          have bX := hlb X (List.mem_of_getElem? hX)
          have bY := hlb Y (List.mem_of_getElem? hY')
          have gX : (((lvl l).map shl).take i ++ F.drop i)[2 * i]? = some X := by rw [upd_get (by omega) (by simp [hlv]; omega)]; exact hFX
          have gY : (((lvl l).map shl).take i ++ F.drop i)[2 * i + 1]? = some Y := by rw [upd_get (by omega) (by simp [hlv]; omega)]; exact hFY
          have rX := hL.rg _ X gX
          have rY := hL.rg _ Y gY
          have hX32 := hL.l32 X (List.mem_of_getElem? gX)
          have hY32 := hL.l32 Y (List.mem_of_getElem? gY)
          have htold : Hid ((prs 5 (pad ls))[T + i]? = some (1 :: (X ++ Y))) := Hid.mk' (drop_get (hto.out.trans hpd.out) (by rw [List.getElem?_append_left (by omega)]; exact hlv1))
          have hAi : Hid (((lvl l).map shl)[i]? = some (shl (1 :: (X ++ Y)))) := Hid.mk' (by rw [List.getElem?_map, hlv1]; rfl)
          have hiF : i < (((lvl l).map shl).take i ++ F.drop i).length := by omega
          have hw1 : (2 * (i : Int) < m) := by omega
          have hw2 : (2 * (i : Int) + 1 < m) := by omega
          have hw3 : (0 : Int) ≤ 2 * (i : Int) := by omega
          have hw4 : (0 : Int) ≤ 2 * (i : Int) + 1 := by omega
          have hw5 : IntKind.i64.wrap (2 * (i : Int)) = 2 * i := by rw [IntKind.wrap_i64]; omega
          have hw6 : IntKind.i64.wrap (2 * (i : Int) + 1) = 2 * i + 1 := by rw [IntKind.wrap_i64]; omega
          have hw7 : (2 * (i : Int)).toNat = 2 * i := by omega
          have hw8 : (2 * (i : Int) + 1).toNat = 2 * i + 1 := by omega
          have hTi : T + i < 31 := by omega
          clear hmo
          have hq' : Hid (m / 2 = h) := Hid.mk' hq
          have hTm' := Hid.mk' hTm
          have hi16 : i < 16 := by omega
          clear hq hlm
          clear gX gY hFX hFY hX hY' hlv1
          gi_wp2_with fail
          refine region_wide (S := fun u => Below wr.heap.size wr u) (by kernel_rfl) ((Below.refl _ _).drew) (fun hHeld => ?_)
          refine wpAnyH_take (i := 0) (oi := ⟨_, _, _, _, _, _⟩) (v := ?_) rfl (by kernel_rfl) (by kernel_rfl) (by kernel_rfl) (fun _ _ _ h => h) (Or.inl ⟨by rfl, ?_⟩) (by assumption) ?_
          rotate_left
          · intro u hSw
            go_simp
            try (with_reducible rfl)
          try simp only [Act.put, List.setIfInBounds_toArray, List.set_cons_zero, List.set_cons_succ]
          refine wpAnyH_take (i := 1) (oi := ⟨_, _, _, _, _, _⟩) (v := ?_) rfl (by kernel_rfl) (by kernel_rfl) (by kernel_rfl) (fun _ _ _ h => h) (Or.inl ⟨by rfl, ?_⟩) (by assumption) ?_
          rotate_left
          · intro u hSw
            go_simp
            try (with_reducible rfl)
          try simp only [Act.put, List.setIfInBounds_toArray, List.set_cons_zero, List.set_cons_succ]
          refine wpAnyH_take (i := 2) (oi := ⟨_, _, _, _, _, _⟩) (v := ?_) rfl (by kernel_rfl) (by kernel_rfl) (by kernel_rfl) (fun _ _ _ h => h) (Or.inl ⟨by rfl, ?_⟩) (by assumption) ?_
          rotate_left
          · intro u hSw
            go_simp
            try (with_reducible rfl)
          try simp only [Act.put, List.setIfInBounds_toArray, List.set_cons_zero, List.set_cons_succ]
          refine wpAnyH_take (i := 3) (oi := ⟨_, _, _, _, _, _⟩) (v := ?_) rfl (by kernel_rfl) (by kernel_rfl) (by kernel_rfl) (fun _ _ _ h => h) (Or.inl ⟨by rfl, ?_⟩) (by assumption) ?_
          rotate_left
          · intro u hSw
            go_simp
            try (with_reducible rfl)
          try simp only [Act.put, List.setIfInBounds_toArray, List.set_cons_zero, List.set_cons_succ]
          refine wpAnyH_take (i := 4) (oi := ⟨_, _, _, _, _, _⟩) rfl (by kernel_rfl) (by kernel_rfl) (by kernel_rfl) (fun _ _ _ h => h) (y24b (by rfl) (.tmp 25) rfl gl (2 * i * 32) rfl X hX32 (fun u hu => range_below rX hu hgl)) (by assumption) ?_
          try simp only [Act.put, List.setIfInBounds_toArray, List.set_cons_zero, List.set_cons_succ]
          refine wpAnyH_take (i := 5) (oi := ⟨_, _, _, _, _, _⟩) (v := ?_) rfl (by kernel_rfl) (by kernel_rfl) (by kernel_rfl) (fun _ _ _ h => h) (Or.inl ⟨by rfl, ?_⟩) (by assumption) ?_
          rotate_left
          · intro u hSw
            go_simp
            try (with_reducible rfl)
          try simp only [Act.put, List.setIfInBounds_toArray, List.set_cons_zero, List.set_cons_succ]
          refine wpAnyH_take (i := 6) (oi := ⟨_, _, _, _, _, _⟩) (v := ?_) rfl (by kernel_rfl) (by kernel_rfl) (by kernel_rfl) (fun _ _ _ h => h) (Or.inl ⟨by rfl, ?_⟩) (by assumption) ?_
          rotate_left
          · intro u hSw
            go_simp
            try (with_reducible rfl)
          try simp only [Act.put, List.setIfInBounds_toArray, List.set_cons_zero, List.set_cons_succ]
          refine wpAnyH_take (i := 7) (oi := ⟨_, _, _, _, _, _⟩) (v := ?_) rfl (by kernel_rfl) (by kernel_rfl) (by kernel_rfl) (fun _ _ _ h => h) (Or.inl ⟨by rfl, ?_⟩) (by assumption) ?_
          rotate_left
          · intro u hSw
            go_simp
            try (with_reducible rfl)
          try simp only [Act.put, List.setIfInBounds_toArray, List.set_cons_zero, List.set_cons_succ]
          refine wpAnyH_take (i := 8) (oi := ⟨_, _, _, _, _, _⟩) (v := ?_) rfl (by kernel_rfl) (by kernel_rfl) (by kernel_rfl) (fun _ _ _ h => h) (Or.inl ⟨by rfl, ?_⟩) (by assumption) ?_
          rotate_left
          · intro u hSw
            go_simp
            try (with_reducible rfl)
          try simp only [Act.put, List.setIfInBounds_toArray, List.set_cons_zero, List.set_cons_succ]
          refine wpAnyH_take (i := 9) (oi := ⟨_, _, _, _, _, _⟩) (v := ?_) rfl (by kernel_rfl) (by kernel_rfl) (by kernel_rfl) (fun _ _ _ h => h) (Or.inl ⟨by rfl, ?_⟩) (by assumption) ?_
          rotate_left
          · intro u hSw
            go_simp
            try (with_reducible rfl)
          try simp only [Act.put, List.setIfInBounds_toArray, List.set_cons_zero, List.set_cons_succ]
          refine wpAnyH_take (i := 10) (oi := ⟨_, _, _, _, _, _⟩) rfl (by kernel_rfl) (by kernel_rfl) (by kernel_rfl) (fun _ _ _ h => h) (y24b (by rfl) (.tmp 31) rfl gl ((2 * i + 1) * 32) rfl Y hY32 (fun u hu => range_below rY hu hgl)) (by assumption) ?_
          try simp only [Act.put, List.setIfInBounds_toArray, List.set_cons_zero, List.set_cons_succ]
          refine wpAnyH_ready (rs := [11, 12]) (by kernel_rfl) (by simp) ?_
          refine AllReadyH.cons (o := ⟨_, _, _, _, _, _⟩) rfl (fun K hK => ?_) (AllReadyH.cons (o := ⟨_, _, _, _, _, _⟩) rfl (fun K hK => ?_) AllReadyH.nil)
          · go_simp
            refine (pairOf6_any X Y _ hX32 hY32 bX bY).mono ?_; rintro r u1 ⟨e, rfl, hEo, he, hfr, hb1⟩
            have hBu := (Below.refl wr.heap.size wr).drew.trans (hb1.mono (by simp))
            have he32 := hEo.s32
            go_wp2_with fail
            refine hK.out _ _ hBu (fun hHeld => ?_)
            clear hK K
            try simp only [Act.put, List.setIfInBounds_toArray, List.set_cons_zero, List.set_cons_succ]
            refine wpAnyH_ready (rs := [12]) (by kernel_rfl) (by simp) ?_
            refine AllReadyH.cons (o := ⟨_, _, _, _, _, _⟩) rfl (fun K hK => ?_) AllReadyH.nil
            go_simp
            go_wp2_with fail
            refine hK.out _ _ (hBu.alloc hBu.size _) (fun hHeld => ?_)
            clear hK K
            try simp only [Act.put, List.setIfInBounds_toArray, List.set_cons_zero, List.set_cons_succ]
            rw [← z77]
            refine wpAnyH_ready (rs := [13]) (by kernel_rfl) (by simp) ?_
            refine AllReadyH.cons (o := ⟨_, _, _, _, _, _⟩) rfl (fun K hK => ?_) AllReadyH.nil
            refine step_want rfl (wp_store_row 71 (.tmp 6) (.tmp 33) rfl u1.heap.size e.arr rfl rfl 71 _ (Arr.new u1 71 _) (s54 he32) (by rw [En.size he32]; exact En.size Z32_len) e.oneA ?_)
            rw [World.setRow_alloc_new]
            have hBV := hBu.alloc hBu.size (.cells e.arr 71)
            have AV := Arr.new u1 71 e.arr
            have hEV := (hEo.below (alloc_bel' u1 (.cells e.arr 71))).mono (show u1.heap.size ≤ (u1.alloc (.cells e.arr 71)).heap.size by simp)
            have hgeS : S0 ≤ u1.heap.size := Nat.le_trans hszr hBu.size
            generalize u1.alloc (.cells e.arr 71) = V at *
            refine hK.out _ _ hBV (fun hHeld => ?_)
            clear hK K
            try simp only [Act.put, List.setIfInBounds_toArray, List.set_cons_zero, List.set_cons_succ]
            refine wpAnyH_done (by kernel_rfl) ?_ _
            refine q0n ?_
            have hJV := hJB (T + i) own wr V hJi (Sam.of hBV)
            have hLV := hL.block (hBV.block gl hgl)
            obtain ⟨fn, tmps, assign, body, hy, hR⟩ := hY (T + i) own V e hJV hTi hEV ⟨_, htold.out, he, fun b off q => by have := hfr b off q; (try simp at this); omega⟩ (fun b ⟨_, off, q⟩ => .inr (fun ho => by have := howr b ho; have := hfr b off q; (try simp at this); omega))
            gi_wp2_with (refine li77w (by rfl) _ (by rfl) (u1.heap.size) 0 (by rfl) e he32 (rangeE AV) ?_)
            refine ⟨fun h => (by cases h), hR.mono ?_⟩
            rintro r W3 ⟨rfl, own3, hJ3, hown3, hkeep⟩
            have hgV : gl < (V).heap.size := Nat.lt_of_lt_of_le hgl hBV.size
            have hL3 := hLV.block (hkeep gl (by omega) hgV hogl)
            have A3 : Arr W3 (u1.heap.size) 71 e.arr := (hkeep (u1.heap.size) (by omega) AV.lt (fun ho => by have := howr _ ho; have := hBV.size; have := hBu.size; omega)).trans AV
            have hrs := range_sm (rangeE A3)
            gi_wp2_with (first
              | (refine li24w (by rfl) _ (by rfl) (u1.heap.size) (0 + 1) (by rfl) e.sm he32 hrs ?_)
              | (refine si24mw (by rfl) _ _ (by rfl) gl i _ e.sm (i * 32) rfl (by rfl) (by rfl) he32 hL3 hiF ?_))
            go_roundw
            case rel =>
              have hogl3 : ¬ own3 gl := fun ho => by rcases hown3 gl ho with h | h | ⟨h0, off, q⟩; exact hogl h; omega; have := hfr gl off q; (try simp at this); omega
              refine ⟨i + 1, own3, by go_num, by omega, ?_, ?_, hogl3⟩
              · exact hJB (T + i + 1) own3 W3 _ hJ3 (sam_cells (by omega) hogl3 _ _)
              · have := hL3.set hiF he32
                rw [he.out.2, upd_set hAi.out (by omega)] at this
                rw [he.out.2]
                exact this
            case measure => simp [intOf]; omega
          · go_simp
            go_wp2_with fail
            have hBu := (Below.refl wr.heap.size wr).drew.alloc (by simp) (.cells (En.arr ⟨none, 0, 0, [], Z32⟩) 71)
            refine hK.out _ _ hBu (fun hHeld => ?_)
            clear hK K
            try simp only [Act.put, List.setIfInBounds_toArray, List.set_cons_zero, List.set_cons_succ]
            rw [← z77]
            clear hBu
            have hBu := ((Below.refl wr.heap.size wr).alloc (Nat.le_refl _) (.cells (En.arr ⟨none, 0, 0, [], Z32⟩) 71)).drew
            have Au := (Arr.new wr 71 (En.arr ⟨none, 0, 0, [], Z32⟩)).drew
            have hsu : (wr.alloc (.cells (En.arr ⟨none, 0, 0, [], Z32⟩) 71)).drew.heap.size = wr.heap.size + 1 := by simp
            generalize (wr.alloc (.cells (En.arr ⟨none, 0, 0, [], Z32⟩) 71)).drew = u0 at *
            replace hsu := Hid.mk' hsu
            have Au : Arr u0 wr.heap.size 71 (En.arr ⟨none, 0, 0, [], Z32⟩) := Au
            refine wpAnyH_ready (rs := [11]) (by kernel_rfl) (by simp) ?_
            refine AllReadyH.cons (o := ⟨_, _, _, _, _, _⟩) rfl (fun K hK => ?_) AllReadyH.nil
            go_simp
            refine (pairOf6_any X Y _ hX32 hY32 bX bY).mono ?_; rintro r u1 ⟨e, rfl, hEo, he, hfr0, hb1⟩
            have he32 := hEo.s32
            have hB1 := hBu.trans (hb1.mono hBu.size)
            have A1 := Au.below hb1 Au.lt
            go_wp2_with fail
            refine hK.out _ _ hB1 (fun hHeld => ?_)
            clear hK K
            try simp only [Act.put, List.setIfInBounds_toArray, List.set_cons_zero, List.set_cons_succ]
            refine wpAnyH_ready (rs := [13]) (by kernel_rfl) (by simp) ?_
            refine AllReadyH.cons (o := ⟨_, _, _, _, _, _⟩) rfl (fun K hK => ?_) AllReadyH.nil
            refine step_want rfl (wp_store_row 71 (.tmp 6) (.tmp 33) rfl wr.heap.size e.arr rfl rfl 71 _ A1 (s54 he32) (by rw [En.size he32]; exact En.size Z32_len) e.oneA ?_)
            have hBV : Below wr.heap.size wr (u1.setRow wr.heap.size e.arr) := below_setRow hB1 (Nat.le_refl _) _
            have AV := A1.setRow e.arr
            have hsz1 := hsu.out
            have hfr : ∀ b off, e.sp = some ⟨b, off, none⟩ → wr.heap.size + 1 ≤ b := fun b off q => by have := hfr0 b off q; omega
            have hEV : EnOK (u1.setRow wr.heap.size e.arr).heap.size (u1.setRow wr.heap.size e.arr) e := by
              refine ⟨⟨hEo.body.len, hEo.body.nil, hEo.body.le, hEo.body.big, hEo.body.small, fun h0 => ?_, hEo.body.bts⟩, he32⟩
              obtain ⟨b, off, q, hbN, hB⟩ := hEo.body.at0 h0
              have := hfr b off q
              exact ⟨b, off, q, by simpa using hbN, fun u hu => (World.cell?_of_block (w := u1) (a := ⟨b, off + u, none⟩) (setRow_other u1 wr.heap.size b _ (by omega))).trans (hB u hu)⟩
            generalize u1.setRow wr.heap.size e.arr = V at *
            refine hK.out _ _ hBV (fun hHeld => ?_)
            clear hK K
            try simp only [Act.put, List.setIfInBounds_toArray, List.set_cons_zero, List.set_cons_succ]
            refine wpAnyH_done (by kernel_rfl) ?_ _
            refine q0n ?_
            have hJV := hJB (T + i) own wr V hJi (Sam.of hBV)
            have hLV := hL.block (hBV.block gl hgl)
            obtain ⟨fn, tmps, assign, body, hy, hR⟩ := hY (T + i) own V e hJV hTi hEV ⟨_, htold.out, he, fun b off q => by have := hfr b off q; (try simp at this); omega⟩ (fun b ⟨_, off, q⟩ => .inr (fun ho => by have := howr b ho; have := hfr b off q; (try simp at this); omega))
            gi_wp2_with (refine li77w (by rfl) _ (by rfl) (wr.heap.size) 0 (by rfl) e he32 (rangeE AV) ?_)
            refine ⟨fun h => (by cases h), hR.mono ?_⟩
            rintro r W3 ⟨rfl, own3, hJ3, hown3, hkeep⟩
            have hgV : gl < (V).heap.size := Nat.lt_of_lt_of_le hgl hBV.size
            have hL3 := hLV.block (hkeep gl (by omega) hgV hogl)
            have A3 : Arr W3 (wr.heap.size) 71 e.arr := (hkeep (wr.heap.size) (by omega) AV.lt (fun ho => by have := howr _ ho; have := hBV.size; have := hBu.size; omega)).trans AV
            have hrs := range_sm (rangeE A3)
            gi_wp2_with (first
              | (refine li24w (by rfl) _ (by rfl) (wr.heap.size) (0 + 1) (by rfl) e.sm he32 hrs ?_)
              | (refine si24mw (by rfl) _ _ (by rfl) gl i _ e.sm (i * 32) rfl (by rfl) (by rfl) he32 hL3 hiF ?_))
            go_roundw
            case rel =>
              have hogl3 : ¬ own3 gl := fun ho => by rcases hown3 gl ho with h | h | ⟨h0, off, q⟩; exact hogl h; omega; have := hfr gl off q; (try simp at this); omega
              refine ⟨i + 1, own3, by go_num, by omega, ?_, ?_, hogl3⟩
              · exact hJB (T + i + 1) own3 W3 _ hJ3 (sam_cells (by omega) hogl3 _ _)
              · have := hL3.set hiF he32
                rw [he.out.2, upd_set hAi.out (by omega)] at this
                rw [he.out.2]
                exact this
            case measure => simp [intOf]; omega
        · obtain rfl : i = h := by omega
          have hI : ¬ (i : Int) < i := by omega
          clear hmo
          gi_wp2_with fail
          go_roundw
          case rel =>
            have hmo := hmh.out
            refine ⟨d, i, T + i, (lvl l).map shl, _, own, by first | rfl | rw [hq], hh.out, by omega, by simp [hlv], lvl_bts, hFi, ?_, hL, hJi, hogl, Hid.mk' ?_, by omega⟩
            · rw [List.take_append_of_le_length (by simp [hlv]), List.take_take, Nat.min_self, List.take_of_length_le (by simp [hlv])]
            · rw [← List.drop_drop, hto.out, hpd.out, List.drop_append_of_le_length (by omega), List.drop_of_length_le (by omega)]; rfl
          case measure => have hmo := hmh.out; simp; omega
end Go.Proofs.Ytbfelelngoonjaa
