/- Layer oracle: what the layers below give. -/
import Derived.Test.YtbfelelngoonjaaX01
import Derived.Test.YtbfelelngoonjaaX02
import Derived.Test.YtbfelelngoonjaaX03
import Derived.Test.YtbfelelngoonjaaX04
import Derived.Test.YtbfelelngoonjaaX05
import Derived.Test.YtbfelelngoonjaaX09
import Derived.Test.YtbfelelngoonjaaX10
import Derived.Test.YtbfelelngoonjaaX06
import Derived.Test.YtbfelelngoonjaaX12
import Derived.Test.YtbfelelngoonjaaX13
import Derived.Test.YtbfelelngoonjaaX14
import Derived.Test.YtbfelelngoonjaaX16
import Derived.Test.YtbfelelngoonjaaX17
import Derived.Test.YtbfelelngoonjaaX18
import Derived.Test.YtbfelelngoonjaaX22
import Derived.Test.YtbfelelngoonjaaX19
import Derived.Test.YtbfelelngoonjaaX21
import Derived.Test.YtbfelelngoonjaaX34
import Derived.Test.YtbfelelngoonjaaX23
import Derived.BigQuiet
import Derived.BigRegion
import Derived.ChangeKeysEq
import Derived.Deep.DeepCutAuto
import Derived.Deep.DrawnRows
import Derived.Deep.MidRow
import Derived.Deep.QuietTactic
import Derived.Deep.RegionHeld3
import Derived.Deep.RegionLaw
import Derived.Deep.RegionWith
import Derived.Deep.WholeRow
import Derived.Great.BuildSlice
import Derived.Great.FillDense
import Derived.Laws.AppendOwnNone
import Derived.Laws.BitsLemmas
import Derived.Laws.BytesArg
import Derived.Laws.CopyOwn
import Derived.Laws.CopyRow
import Derived.Laws.MakeOwn
import Derived.Laws.OwnMore
import Derived.Laws.Tables
import Derived.Lib.AppendZeros
import Derived.Lib.SlBytesConst
import Derived.LoopIn
import Derived.LoopNIn
import Derived.Maps.AppendAt
import Derived.OwnWalkIn
import Derived.RangeFuncBound
import Derived.RangeFuncCalls
import Derived.RangeFuncLeaves
import Derived.RangeFuncNested
import Derived.RangeFuncRecord
import Derived.Shelf.Abstract
import Derived.Shelf.RegionOpen
import Derived.TacticsInMore
import Derived.WalkKit
import Derived.WalkLawsBesides
import Derived.WalkSpells
namespace Go.Proofs.Ytbfelelngoonjaa
open Go.RowKit
set_option maxRecDepth 100000
set_option linter.unusedVariables false
set_option linter.unusedSimpArgs false

theorem OI.start {w W : World} {l : List (List Int)} {n G : Nat} (hn : n = l.length) (hn2 : n ≤ 32) (hl : ∀ x ∈ l, x.length = 32) (hb : ∀ x ∈ l, Bts x) (hA : Arr W G 32 (flat32 (pad l)).toArray) (hG : w.heap.size < G) (hR : Arr W w.heap.size 32 (h8 Z32)) (hB : Below w.heap.size w W) :
    OI w (prs 5 (pad l)) (tr 5 l) 5 (pad l) [] (.slice none 0 0) (some ⟨G, 0, none⟩) 32 32 W :=
  ⟨Hid.mk' ⟨pad_len (by omega), rfl, by omega⟩, hs_arr hA (pad_32 hl) (pad_len (by omega)).symm (by omega), Hid.mk' (pad_bts hb), EO.nil _ _ _, (fun b off q r => by cases r), (fun b off q => by cases q; exact hG), Hid.mk' rfl, Hid.mk' (fun e he => (by cases he)), Hid.mk' (pad_tr 5 l), hR, hB⟩
theorem II.start {w W : World} {B : List (List Int)} {R : List Int} {d : Nat} {F : List (List Int)} {es : List En} {vo : Value} {spF : Option Addr} {nF cF K : Nat} (h : OI w B R d F es vo spF nF cF W) : II w F K (es.map En.bs) spF nF cF 0 es vo (.slice none 0 0) w.heap.size W :=
  ⟨h.hs, h.eo, World.ownsRow_nil _ _ _ _, fun j hj => (by cases hj), fun q => by have := (own_eq h.eo.own q).1; omega, h.res.lt, h.far, fun b off q r => (by cases r), Hid.mk' (by simp), h.sm, h.res, h.bel⟩
theorem EO.row {ax : Nat} {w : World} {v : Value} {es : List En} (h : EO (ax + 1) ax w v es) (D : Array Value) : EO (ax + 1) ax (w.drew.setRow ax D) v es := by
  have hz : (w.drew.setRow ax D).heap.size = w.heap.size := by simp
  refine ⟨own_same h.own (fun k hk => setRow_other w.drew ax k D (by have := own_ge h.own k hk; omega)), fun e he => ⟨?_, (h.ok e he).s32⟩, fun e he b off q => ?_⟩
  · rw [hz]
    exact bs_row (w := w.drew) ⟨(h.ok e he).body.len, (h.ok e he).body.nil, (h.ok e he).body.le, (h.ok e he).body.big, (h.ok e he).body.small, (h.ok e he).body.at0, (h.ok e he).body.bts⟩ (fun b off q => (h.ap e he b off q).2.2.2)
  · rw [hz]; exact h.ap e he b off q
theorem range_row {w : World} {g b o : Nat} {cs : List Value} {D : Array Value} (h : w.rangeAt b o cs) (hne : b ≠ g) : (w.setRow g D).rangeAt b o cs := fun j v hv => (World.cell?_of_block (w := w) (a := ⟨b, o + j, none⟩) (setRow_other w g b D hne)).trans (h j v hv)
theorem En.range {w : World} {g ty : Nat} {e : En} (h : Arr w g ty e.arr) : w.rangeAt g 0 e.cells := fun j v hv => by
  rw [Nat.zero_add, h.cell]; simpa [En.arr] using hv
set_option maxHeartbeats 4000000 in
theorem refPairs_any (l : List (List Int)) (N : Nat) (sp : Option Addr) (n cap : Nat) (w : World) (hS : HS N w sp n cap l) (hn : n ≤ 32) (hb : ∀ x ∈ l, Bts x) :
    Calls Try.prog 40 #[.slice sp n cap] w (PRPost l w) := by
  have hlen := hS.len
  have R0 := Arr.new w 32 (h8 Z32)
  have B0 := alloc_bel' w (.cells (h8 Z32) 32)
  have S0 := (hS.here).below B0
  have hG0 : w.heap.size < (w.alloc (.cells (h8 Z32) 32)).heap.size := by simp
  have hpad : Hid (l ++ List.replicate (32 - n) Z32 = pad l) := Hid.mk' (by rw [hlen.out]; rfl)
  have hl32 := Hid.mk' hS.l32
  have hzz : (En.arr ⟨none, 0, 0, [], Z32⟩).size = 33 := En.size Z32_len
  obtain ⟨B, hBB⟩ : ∃ B, Hid (B = prs 5 (pad l)) := ⟨_, rfl⟩
  obtain ⟨R, hRR⟩ : ∃ R, Hid (R = tr 5 l) := ⟨_, rfl⟩
  have hBl : Hid (B.length = 31) := Hid.mk' (by rw [hBB.out]; have := prs_len 5 (pad l) (pad_len (by rw [← hlen.out]; exact hn)); omega)
  go_enter Try.func40, Try.ntmps40
  go_upto_region 1 with fail
  rw [← h8_Z]
  generalize w.alloc (.cells (h8 Z32) 32) = V0 at R0 B0 S0 hG0 ⊢
  go_upto_region 3 with (first
    | (at_make; go_must (refine mk24 (by rfl) (.const (.int .i64 32)) (by rfl) 32 (by rfl) (by omega) ?_; have A1 := Arr.new V0 32 (flat32 (List.replicate 32 Z32)).toArray; have R1 := R0.alloc (.cells (flat32 (List.replicate 32 Z32)).toArray 32); have B1 := B0.alloc B0.size (.cells (flat32 (List.replicate 32 Z32)).toArray 32); have S1 := (S0.mono B0.size).here.below (alloc_bel' V0 (.cells (flat32 (List.replicate 32 Z32)).toArray 32))))
    | (refine cp24 (by rfl) (.tmp 10) (.tmp 11) (by rfl) V0.heap.size 32 _ sp n cap l (by rfl) (by rfl) S1 A1 hn ?_; rw [hpad.out]; have A2 := A1.setRow (flat32 (pad l)).toArray; have R2 := R1.setRowOther (flat32 (pad l)).toArray (Nat.ne_of_lt hG0); have B2 := below_setRow B1 (Nat.le_of_lt hG0) (flat32 (pad l)).toArray))
  have O0 := OI.start hlen.out hn hl32.out hb A2 hG0 R2 B2
  rw [← hBB.out, ← hRR.out] at O0
  clear A1 A2 R0 R1 R2 B0 B1 B2 S0 S1 hG0
  go_upto_region 4 with fail
  go_loopw [4, 5] (fun u q wr => ∃ d F es spF nF cF vo, vo = q ∧ u = .slice spF nF cF ∧ OI w B R d F es vo spF nF cF wr) (fun u _ _ => vlen u)
  case atStart => exact ⟨5, _, _, _, _, _, _, rfl, rfl, O0⟩
  case round =>
    obtain ⟨d, F, es0, spF, nF, cF, vO, rfl, rfl, hO⟩ := hrel
    clear O0
    cases d with
    | succ d =>
      have hFl := Hid.mk' hO.len.out.1
      have hnF := hO.len.out.2.1
      have hd5 := hO.len.out.2.2
      obtain ⟨K, hK⟩ : ∃ K, K = 2 ^ d := ⟨_, rfl⟩
      have hpw : 2 ^ (d + 1) = 2 * K := by rw [hK, Nat.pow_succ]; omega
      have hKp : 0 < K := by rw [hK]; exact Nat.two_pow_pos d
      rw [hpw] at hnF
      have hFK : Hid (F.length = 2 * K) := Hid.mk' (by rw [hFl.out, hpw])
      have hcF := hO.hs.le
      have hbig := hO.hs.big
      have hgt : (1 : Int) < nF := by omega
      have HnF := Hid.mk' hnF
      have hes0 : (es0.map En.bs).length ≤ 31 := by
        have h1 := congrArg List.length hO.bs.out
        rw [List.length_append, hBl.out] at h1
        omega
      have HK := Hid.mk' hK
      have hK16 : K ≤ 16 := by
        rw [hK]
        have : 2 ^ d ≤ 2 ^ 4 := Nat.pow_le_pow_right (by omega) (by omega)
        omega
      have hF32 := Hid.mk' hO.hs.l32
      have hFb := hO.bts
      have I0 := II.start (K := K) hO
      have hOB := hO.bs
      have hOR := hO.rt
      clear hK hpw hO hnF
      obtain ⟨bs0, hbs0⟩ : ∃ b, b = es0.map En.bs := ⟨_, rfl⟩
      rw [← hbs0] at I0 hOB hes0
      clear hbs0
      go_wp2_with fail
      go_loopw [5, 6, 7] (fun q u i wr => ∃ i' k es ub vo vu, vo = q ∧ vu = u ∧ i = .int .i64 ((i' : Nat) : Int) ∧ Hid (i' = 2 * k) ∧ Hid (k ≤ K) ∧ II w F K bs0 spF nF cF k es vo vu ub wr) (fun _ _ i _ => nF - (intOf i).toNat)
      case atStart => exact ⟨0, 0, _, _, _, _, rfl, rfl, rfl, Hid.mk' (by omega), Hid.mk' (by omega), I0⟩
      case round =>
        obtain ⟨i, k, es, ub, vo, vu, rfl, rfl, rfl, hik, hkK, hI⟩ := hrel
        clear I0
        by_cases hlt : i < nF
        · have hiI : (i : Int) < nF := by omega
          have hi0 : (0 : Int) ≤ i := by omega
          have hkK2 : k < K := by have := HnF.out; have := hik.out; omega
          have hi1 : (i : Int) + 1 < nF := by have := HnF.out; have := hik.out; omega
          have hi2 : (0 : Int) ≤ (i : Int) + 1 := by omega
          have hw1 : IntKind.i64.wrap ((i : Int) + 1) = (i : Int) + 1 := by have := HnF.out; rw [IntKind.wrap_i64]; omega
          have ei : ((i : Int) + 1).toNat = i + 1 := by omega
          obtain ⟨X, Y, hX, hY, hXY⟩ := lvl_two hFK.out hkK2
          rw [← hik.out] at hX hY
          replace hkK2 := Hid.mk' hkK2
          have hX32 := hF32.out X (List.mem_of_getElem? hX)
          have hY32 := hF32.out Y (List.mem_of_getElem? hY)
          have bX := hFb.out X (List.mem_of_getElem? hX)
          have bY := hFb.out Y (List.mem_of_getElem? hY)
          obtain ⟨gF, oF, rfl, hgF, hR⟩ := hI.hs.at0 (by omega)
          have rX := hR i X hX
          have rY := hR (i + 1) Y hY
          have hel : es.length ≤ 1000 := by
            have h1 := congrArg List.length hI.bs.out
            have h2 : ((lvl F).take k).length ≤ k := List.length_take_le _ _
            rw [List.length_map, List.length_append] at h1
            have := hkK.out
            omega
          have HXY := Hid.mk' hXY
          have hnpos : 0 < nF := by omega
          clear hX hY hXY hR
          go_upto_region 9 with fail
          go_cut [8] (fun s wc => ∃ b e, s = .pointer (some ⟨b, 0, none⟩) ∧ wr.heap.size ≤ b ∧ Arr wc b 71 (En.arr e) ∧ EnOK wc.heap.size wc e ∧ Hid (e.bs = 1 :: (X ++ Y) ∧ e.sm = shl (1 :: (X ++ Y))) ∧ (∀ b' off, e.sp = some ⟨b', off, none⟩ → wr.heap.size ≤ b') ∧ Below wr.heap.size wr wc)
          case first =>
            refine wp_region_held_drew (S := fun u => Below wr.heap.size wr u) (by kernel_rfl) ((Below.refl _ _).drew) (fun hHeld => ?_)
            refine wpAnyH_take (i := 0) (oi := ⟨_, _, _, _, _, _⟩) (v := ?_) rfl (by kernel_rfl) (by kernel_rfl) (by kernel_rfl) (fun _ _ _ h => h) (Or.inl ⟨by rfl, ?_⟩) (by assumption) ?_
            rotate_left
            · intro u hSw
              go_simp
              try (with_reducible rfl)
            try simp only [Act.put, List.setIfInBounds_toArray, List.set_cons_zero, List.set_cons_succ]
            refine wpAnyH_take (i := 1) (oi := ⟨_, _, _, _, _, _⟩) (v := ?_) rfl (by kernel_rfl) (by kernel_rfl) (by kernel_rfl) (fun _ _ _ h => h) (Or.inl ⟨by rfl, ?_⟩) (by assumption) ?_
            rotate_left
            · intro u hSw
              go_simp
              try (with_reducible rfl)
            try simp only [Act.put, List.setIfInBounds_toArray, List.set_cons_zero, List.set_cons_succ]
            refine wpAnyH_take (i := 2) (oi := ⟨_, _, _, _, _, _⟩) (v := ?_) rfl (by kernel_rfl) (by kernel_rfl) (by kernel_rfl) (fun _ _ _ h => h) (Or.inl ⟨by rfl, ?_⟩) (by assumption) ?_
            rotate_left
            · intro u hSw
              go_simp
              try (with_reducible rfl)
            try simp only [Act.put, List.setIfInBounds_toArray, List.set_cons_zero, List.set_cons_succ]
            refine wpAnyH_take (i := 3) (oi := ⟨_, _, _, _, _, _⟩) rfl (by kernel_rfl) (by kernel_rfl) (by kernel_rfl) (fun _ _ _ h => h) (y24 (by rfl) (.tmp 24) rfl gF (oF + i * 32) rfl X hX32 (fun u hu => range_below rX hu hgF)) (by assumption) ?_
            try simp only [Act.put, List.setIfInBounds_toArray, List.set_cons_zero, List.set_cons_succ]
            refine wpAnyH_take (i := 4) (oi := ⟨_, _, _, _, _, _⟩) (v := ?_) rfl (by kernel_rfl) (by kernel_rfl) (by kernel_rfl) (fun _ _ _ h => h) (Or.inl ⟨by rfl, ?_⟩) (by assumption) ?_
            rotate_left
            · intro u hSw
              go_simp
              try (with_reducible rfl)
            try simp only [Act.put, List.setIfInBounds_toArray, List.set_cons_zero, List.set_cons_succ]
            refine wpAnyH_take (i := 5) (oi := ⟨_, _, _, _, _, _⟩) (v := ?_) rfl (by kernel_rfl) (by kernel_rfl) (by kernel_rfl) (fun _ _ _ h => h) (Or.inl ⟨by rfl, ?_⟩) (by assumption) ?_
            rotate_left
            · intro u hSw
              go_simp
              try (with_reducible rfl)
            try simp only [Act.put, List.setIfInBounds_toArray, List.set_cons_zero, List.set_cons_succ]
            refine wpAnyH_take (i := 6) (oi := ⟨_, _, _, _, _, _⟩) (v := ?_) rfl (by kernel_rfl) (by kernel_rfl) (by kernel_rfl) (fun _ _ _ h => h) (Or.inl ⟨by rfl, ?_⟩) (by assumption) ?_
            rotate_left
            · intro u hSw
              go_simp
              try (with_reducible rfl)
            try simp only [Act.put, List.setIfInBounds_toArray, List.set_cons_zero, List.set_cons_succ]
            refine wpAnyH_take (i := 7) (oi := ⟨_, _, _, _, _, _⟩) (v := ?_) rfl (by kernel_rfl) (by kernel_rfl) (by kernel_rfl) (fun _ _ _ h => h) (Or.inl ⟨by rfl, ?_⟩) (by assumption) ?_
            rotate_left
            · intro u hSw
              go_simp
              try (with_reducible rfl)
            try simp only [Act.put, List.setIfInBounds_toArray, List.set_cons_zero, List.set_cons_succ]
            refine wpAnyH_take (i := 8) (oi := ⟨_, _, _, _, _, _⟩) rfl (by kernel_rfl) (by kernel_rfl) (by kernel_rfl) (fun _ _ _ h => h) (y24 (by rfl) (.tmp 29) rfl gF (oF + (i + 1) * 32) rfl Y hY32 (fun u hu => range_below rY hu hgF)) (by assumption) ?_
            try simp only [Act.put, List.setIfInBounds_toArray, List.set_cons_zero, List.set_cons_succ]
            refine wpAnyH_ready (rs := [9, 10]) (by kernel_rfl) (by simp) ?_
            refine AllReadyH.cons (o := ⟨_, _, _, _, _, _⟩) rfl (fun K hK => ?_) (AllReadyH.cons (o := ⟨_, _, _, _, _, _⟩) rfl (fun K hK => ?_) AllReadyH.nil)
            · go_simp
              refine (entry_any X Y _ hX32 hY32 bX bY).mono ?_; rintro r u1 ⟨e, rfl, he, hbse, hspe, hb1⟩
              have H1 := ((Below.refl wr.heap.size wr).drew).trans (hb1.mono (by simp))
              have hs1 := H1.size
              go_wp2_with fail
              refine hK.out _ _ H1 (fun hHeld => ?_)
              clear hK K
              try simp only [Act.put, List.setIfInBounds_toArray, List.set_cons_zero, List.set_cons_succ]
              refine wpAnyH_ready (rs := [10]) (by kernel_rfl) (by simp) ?_
              refine AllReadyH.cons (o := ⟨_, _, _, _, _, _⟩) rfl (fun K hK => ?_) AllReadyH.nil
              go_simp
              go_wp2_with fail
              rw [← z77]
              have H2 := H1.alloc H1.size (.cells (En.arr ⟨none, 0, 0, [], Z32⟩) 71)
              have A2 := Arr.new u1 71 (En.arr ⟨none, 0, 0, [], Z32⟩)
              refine hK.out _ _ H2 (fun hHeld => ?_)
              clear hK K
              try simp only [Act.put, List.setIfInBounds_toArray, List.set_cons_zero, List.set_cons_succ]
              refine wpAnyH_ready (rs := [11]) (by kernel_rfl) (by simp) ?_
              refine AllReadyH.cons (o := ⟨_, _, _, _, _, _⟩) rfl (fun K hK => ?_) AllReadyH.nil
              refine step_want rfl (wp_store_row 71 (.tmp 8) (.tmp 31) rfl u1.heap.size e.arr rfl rfl 71 _ A2 (s54 he.s32) (by rw [hzz, En.size he.s32]) e.oneA ?_)
              have H3 := below_setRow H2 hs1 e.arr
              have A3 := A2.setRow e.arr
              have he2 : EnOK ((u1.alloc (.cells (En.arr ⟨none, 0, 0, [], Z32⟩) 71)).setRow u1.heap.size e.arr).heap.size ((u1.alloc (.cells (En.arr ⟨none, 0, 0, [], Z32⟩) 71)).setRow u1.heap.size e.arr) e := by
                have q1 := (he.below (alloc_bel' u1 (.cells (En.arr ⟨none, 0, 0, [], Z32⟩) 71))).mono (alloc_bel' u1 (.cells (En.arr ⟨none, 0, 0, [], Z32⟩) 71)).size
                refine ⟨(bs_row q1.body (fun b off hb => ?_)).mono (by simp), q1.s32⟩
                have hn0 : 0 < e.n := by have := he.body.len.out; rw [hbse.out.1] at this; simp at this; omega
                obtain ⟨b', off', q', hb', -⟩ := he.body.at0 hn0
                rw [hb] at q'; cases q'; exact Nat.ne_of_lt hb'
              refine hK.out _ _ H3 (fun hHeld => ?_)
              clear hK K
              try simp only [Act.put, List.setIfInBounds_toArray, List.set_cons_zero, List.set_cons_succ]
              refine wpAnyH_done (by kernel_rfl) ?_ _
              go_wp2_with fail
              go_meet
              exact ⟨_, e, rfl, hs1, A3, he2, hbse, fun b' off q' => by have := hspe b' off q'; simpa using this, H3⟩
            · go_simp
              go_wp2_with fail
              rw [← z77]
              have H1 := ((Below.refl wr.heap.size wr).drew).alloc (by simp) (.cells (En.arr ⟨none, 0, 0, [], Z32⟩) 71)
              have A1 : Arr (wr.drew.alloc (.cells (En.arr ⟨none, 0, 0, [], Z32⟩) 71)) wr.heap.size 71 (En.arr ⟨none, 0, 0, [], Z32⟩) := Arr.new wr.drew 71 (En.arr ⟨none, 0, 0, [], Z32⟩)
              refine hK.out _ _ H1 (fun hHeld => ?_)
              clear hK K
              try simp only [Act.put, List.setIfInBounds_toArray, List.set_cons_zero, List.set_cons_succ]
              refine wpAnyH_ready (rs := [9]) (by kernel_rfl) (by simp) ?_
              refine AllReadyH.cons (o := ⟨_, _, _, _, _, _⟩) rfl (fun K hK => ?_) AllReadyH.nil
              go_simp
              refine (entry_any X Y _ hX32 hY32 bX bY).mono ?_; rintro r u2 ⟨e, rfl, he, hbse, hspe, hb2⟩
              have H2 := H1.trans (hb2.mono H1.size)
              have A2 := A1.bel hb2
              go_wp2_with fail
              refine hK.out _ _ H2 (fun hHeld => ?_)
              clear hK K
              try simp only [Act.put, List.setIfInBounds_toArray, List.set_cons_zero, List.set_cons_succ]
              refine wpAnyH_ready (rs := [11]) (by kernel_rfl) (by simp) ?_
              refine AllReadyH.cons (o := ⟨_, _, _, _, _, _⟩) rfl (fun K hK => ?_) AllReadyH.nil
              refine step_want rfl (wp_store_row 71 (.tmp 8) (.tmp 31) rfl wr.heap.size e.arr rfl rfl 71 _ A2 (s54 he.s32) (by rw [hzz, En.size he.s32]) e.oneA ?_)
              have H3 := below_setRow H2 (Nat.le_refl _) e.arr
              have A3 := A2.setRow e.arr
              have hsp' : ∀ b off, e.sp = some ⟨b, off, none⟩ → wr.heap.size + 1 ≤ b := fun b off q' => by have := hspe b off q'; simpa using this
              have he2 : EnOK (u2.setRow wr.heap.size e.arr).heap.size (u2.setRow wr.heap.size e.arr) e := ⟨(bs_row he.body (fun b off hb => by have := hsp' b off hb; omega)).mono (by simp), he.s32⟩
              refine hK.out _ _ H3 (fun hHeld => ?_)
              clear hK K
              try simp only [Act.put, List.setIfInBounds_toArray, List.set_cons_zero, List.set_cons_succ]
              refine wpAnyH_done (by kernel_rfl) ?_ _
              go_wp2_with fail
              go_meet
              exact ⟨_, e, rfl, Nat.le_refl _, A3, he2, hbse, fun b' off q' => by have := hsp' b' off q'; omega, H3⟩
          case rest =>
            obtain ⟨b, e, rfl, hb, Ae, he, hbse, hspe, hbc⟩ := hcut
            have hsm32 := he.s32
            have rE := En.range Ae
            have hbl := Ae.lt
            have I1 := hI.below hbc
            have hwz := hbc.size
            have hub := hI.lt
            have hbwr := hI.bel.size
            have hres := hI.res.lt
            have hapE := apart (base := w.heap.size + 1) (ax := ub) (v := vo) he.body (by have := he.body.len.out; rw [hbse.out.1] at this; simp at this; omega) hspe (fun j hj => (own_eq hI.eo.own hj).2) (by omega) hub (Nat.le_refl wc.heap.size)
            have I2 := I1.below (alloc_bel' wc (.cells e.arr 71))
            have he2 := (he.below (alloc_bel' wc (.cells e.arr 71))).mono (alloc_bel' wc (.cells e.arr 71)).size
            have Ax := Arr.new wc 71 e.arr
            have Ab := Ae.alloc (.cells e.arr 71)
            go_upto_region 11 with (first
              | (refine ld54 (by rfl) (.tmp 8) (by rfl) b 0 (by rfl) e hsm32 rE ?_)
              | (refine bldE (by rfl) (.tmp 33) (by rfl) e (by rfl) hsm32 ?_)
              | (at_builtin; go_must (refine appE (by rfl) (.tmp 32) (.tmp 34) (by rfl) (w.heap.size + 1) ub _ es e (by rfl) I2.eo wc.heap.size 1 (by rfl) Ax he2 (fun b' off q' => by have := hapE b' off q'; simp only [World.size_alloc] at *; exact ⟨this.1, by omega, this.2.2⟩) (by omega) (by simp; omega) ?_; intro vo2 W2 hE2 hg2 h52)))
            have z2 := hg2.size
            have hbo : some b ≠ vo.ownBlock := fun e' => by have := (own_eq hI.eo.own e'.symm).2; omega
            have Ab2 := Ab.grown hg2 (fun e' => hbo e')
            have sE := range_sm (En.range Ab2)
            have U3 := II.upAt I2 hg2 (alloc_bel' W2 (.cells (h8 e.sm) 32))
            have As := Arr.new W2 32 (h8 e.sm)
            go_wp2_with (first
              | (refine ld24 (by rfl) (.tmp 37) (by rfl) b (0 + 1) (by rfl) e.sm hsm32 sE ?_)
              | (refine bl24 (by rfl) (.tmp 38) (by rfl) e.sm (by rfl) hsm32 ?_)
              | (at_builtin; go_must (refine ag24b (by rfl) (.tmp 36) (.tmp 39) (by rfl) (w.heap.size + 1) k _ _ e.sm (by rfl) U3 W2.heap.size 1 (by rfl) As hsm32 (by have := hkK.out; omega) (by simp at z2 ⊢; omega) ?_; intro vu2 W4 hU4 hg4 h64)))
            obtain ⟨ub2, I4⟩ := II.next hnpos I2 hE2 hg2 h52 (alloc_bel' W2 (.cells (h8 e.sm) 32)) hU4 hg4 h64 (by rw [hbse.out.1]; exact HXY.out) (by rw [hbse.out.2, hbse.out.1])
            go_roundw
            case rel => exact ⟨i + 2, k + 1, _, _, _, _, rfl, rfl, by go_num, Hid.mk' (by have := hik.out; omega), Hid.mk' (by have := hkK2.out; omega), I4⟩
            case measure => simp [intOf]; omega
        · have hiI : ¬ (i : Int) < nF := by omega
          obtain ⟨sp2, c2, rfl, O2⟩ := II.done (k := k) hFl.out hd5 HK.out (by have := HnF.out; have := hik.out; have := hkK.out; omega) hOB.out hOR.out hI
          go_wp2_with fail
          go_roundw
          case rel => exact ⟨d, _, _, _, _, _, _, rfl, rfl, O2⟩
          case measure =>
            have := HK.out
            have := HnF.out
            simp only [vlen]
            omega
    | zero =>
      have hF1 : F.length = 1 := by have := hO.len.out.1; simpa using this
      have hnF : nF = 1 := by have := hO.len.out.2.1; simpa using this
      subst hnF
      match F, hF1 with
      | [X], _ =>
      have hXR : X = R := by have := hO.rt.out; simpa [tr] using this
      subst hXR
      obtain ⟨gF, oF, rfl, hgF, hR⟩ := hO.hs.at0 (by omega)
      have rX := hR 0 X rfl
      have hX32 := hO.hs.l32 X (by simp)
      have hbs := Hid.mk' hO.bs.out
      simp only [Nat.zero_mul, Nat.add_zero] at rX
      have hres := hO.res
      have E := hO.eo
      have hbel := hO.bel
      have hsm := hO.sm
      have hgb := hO.gb gF oF rfl
      have E' : EO (w.heap.size + 1) w.heap.size (wr.drew.setRow w.heap.size (h8 X)) vO es0 := E.row (h8 X)
      clear hO hR
      go_upto_region 13 with fail
      refine wp_region_held_drew (S := fun u => u.rangeAt gF oF (by8 X)) (by kernel_rfl) (by simpa using rX) (fun hHeld => ?_)
      refine wpAnyH_take (i := 0) (oi := ⟨_, _, _, _, _, _⟩) (v := ?_) rfl (by kernel_rfl) (by kernel_rfl) (by kernel_rfl) (fun _ _ _ h => h) (Or.inl ⟨by rfl, ?_⟩) (by assumption) ?_
      rotate_left
      · intro u hSw
        go_simp
        try (with_reducible rfl)
      try simp only [Act.put, List.setIfInBounds_toArray, List.set_cons_zero, List.set_cons_succ]
      refine wpAnyH_take (i := 1) (oi := ⟨_, _, _, _, _, _⟩) (v := ?_) rfl (by kernel_rfl) (by kernel_rfl) (by kernel_rfl) (fun _ _ _ h => h) (Or.inl ⟨by rfl, ?_⟩) (by assumption) ?_
      rotate_left
      · intro u hSw
        go_simp
        try (with_reducible rfl)
      try simp only [Act.put, List.setIfInBounds_toArray, List.set_cons_zero, List.set_cons_succ]
      refine wpAnyH_take (i := 2) (oi := ⟨_, _, _, _, _, _⟩) (v := ?_) rfl (by kernel_rfl) (by kernel_rfl) (by kernel_rfl) (fun _ _ _ h => h) (Or.inl ⟨by rfl, ?_⟩) (by assumption) ?_
      rotate_left
      · intro u hSw
        go_simp
        try (with_reducible rfl)
      try simp only [Act.put, List.setIfInBounds_toArray, List.set_cons_zero, List.set_cons_succ]
      refine wpAnyH_take (i := 3) (oi := ⟨_, _, _, _, _, _⟩) rfl (by kernel_rfl) (by kernel_rfl) (by kernel_rfl) (fun _ _ _ h => h) (y24 (by rfl) (.tmp 44) rfl gF oF rfl X hX32 (fun u hu => hu)) (by assumption) ?_
      try simp only [Act.put, List.setIfInBounds_toArray, List.set_cons_zero, List.set_cons_succ]
      refine wpAnyH_take (i := 4) (oi := ⟨_, _, _, _, _, _⟩) (v := ?_) rfl (by kernel_rfl) (by kernel_rfl) (by kernel_rfl) (fun _ _ _ h => h) (Or.inl ⟨by rfl, ?_⟩) (by assumption) ?_
      rotate_left
      · intro u hSw
        go_simp
        try (with_reducible rfl)
      try simp only [Act.put, List.setIfInBounds_toArray, List.set_cons_zero, List.set_cons_succ]
      refine wpAnyH_ready (rs := [5]) (by kernel_rfl) (by simp) ?_
      refine AllReadyH.cons (o := ⟨_, _, _, _, _, _⟩) rfl (fun K hK => ?_) AllReadyH.nil
      refine step_want rfl (wp_store_row 32 (.tmp 3) (.tmp 45) rfl w.heap.size (h8 X) rfl rfl 32 _ hres (s24h8 hX32) (by rw [h8_size, h8_size, hX32, Z32_len]) (h8_one X) ?_)
      refine hK.out _ _ (range_row rX (by omega)) (fun hHeld => ?_)
      clear hK K
      try simp only [Act.put, List.setIfInBounds_toArray, List.set_cons_zero, List.set_cons_succ]
      refine wpAnyH_done (by kernel_rfl) ?_ _
      go_wp2_with fail
      exact bodyPost_ret (v := .tuple #[vO, .agg (h8 X)]) (pairs_res Try.results40 rfl rfl hX32 (hres.drew.setRow _)) rfl ⟨vO, es0, by rw [hRR.out], E', Hid.mk' (by rw [← hBB.out, ← hbs.out]; simp [prs]), hsm, below_setRow hbel.drew (Nat.le_refl _) _⟩
end Go.Proofs.Ytbfelelngoonjaa
