/- Pd, Sa, L, U, No. -/
import Derived.Test.YtbhhbkoikocjgaaX03
import Derived.Test.YtbhhbkoikocjgaaX05
import Derived.Test.YtbhhbkoikocjgaaX06
import Derived.BigQuiet
import Derived.BigRegion
import Derived.ChangeKeysEq
import Derived.Deep.DeepCutAuto
import Derived.Deep.DrawnRows
import Derived.Deep.MidRow
import Derived.Deep.QuietTactic
import Derived.Deep.RegionHeld3
import Derived.Deep.RegionLaw
import Derived.Deep.RegionWith
import Derived.Deep.WholeRow
import Derived.JoinedTies
import Derived.KernelRfl
import Derived.Laws.AppendOwnNone
import Derived.Laws.BitsLemmas
import Derived.Laws.BytesArg
import Derived.Laws.CopyOwn
import Derived.Lib.SlBytesConst
import Derived.LoopIn
import Derived.LoopNIn
import Derived.OwnWalkIn
import Derived.RangeFuncBound
import Derived.RangeFuncCalls
import Derived.RangeFuncLeaves
import Derived.RangeFuncNested
import Derived.RangeFuncRecord
import Derived.Shelf.Abstract
import Derived.Shelf.RegionOpen
import Derived.TacticsInMore
import Derived.WalkKit
import Derived.WalkLawsBesides
import Derived.WalkSpells
import GoSem.Claim
import GoSem.ClaimJoined
import GoSem.ClaimMapViews
import Derived.Test.YtbhhbkoikocjgaaX01
import Derived.Test.YtbhhbkoikocjgaaX02
import Derived.Test.YtbhhbkoikocjgaaX04
import Derived.Test.YtbhhbkoikocjgaaX07
import Derived.ChangeOld
import Derived.Great.BuildSlice
import Derived.Great.FillDense
import Derived.Laws.CopyRow
import Derived.Laws.MakeOwn
import Derived.Laws.OwnMore
import Derived.Laws.Tables
import Derived.Maps.AppendAt
import Derived.OpenShut
import Derived.ProofKit
import Derived.ShutString
import Derived.SizedLaws
import Derived.Test.YtbhhbkoikocjgaaX12
import Derived.Test.YtbhhbkoikocjgaaX16
import Derived.Test.YtbhhbkoikocjgaaX17
import Derived.Test.YtbhhbkoikocjgaaX22
import Derived.Test.YtbhhbkoikocjgaaX26
import Derived.Laws.ResultCell
import Derived.Lib.AppendZeros
import Derived.Test.YtbhhbkoikocjgaaX14
import Derived.Test.YtbhhbkoikocjgaaX32
import Derived.Test.YtbhhbkoikocjgaaX15
/- Layer spec: what the layers below give. -/
namespace Go.Proofs.Ytbhhbkoikocjgaa
set_option linter.unusedSectionVars false
set_option maxHeartbeats 1000000
open Go.RowKit
set_option maxRecDepth 100000
set_option linter.unusedVariables false
set_option linter.unusedSimpArgs false

variable [DecidableEq Ac] [DecidableEq Ou] [DecidableEq Mg]
theorem e8_take {n : Int} {j : Nat} (hj : j < 8) : (e8 n).take (j + 1) = (e8 n).take j ++ [n / 2 ^ (56 - 8 * j) % 256] := by
  rw [List.take_add_one]
  congr 1
  simp [e8, hj]
theorem range_sl {w : World} {g o : Nat} {L : List Int} (h : w.rangeAt g o (by8 L)) : SlL w (some ⟨g, o, none⟩) L := fun _ => ⟨g, o, rfl, fun t ht => h t _ (by8_get ht)⟩
end Go.Proofs.Ytbhhbkoikocjgaa
/- Layer spec: what the layers below give. -/
namespace Go.Proofs.Ytbhhbkoikocjgaa
set_option linter.unusedSectionVars false
set_option maxHeartbeats 1000000
open Go.RowKit
set_option maxRecDepth 100000
set_option linter.unusedVariables false
set_option linter.unusedSimpArgs false

variable [DecidableEq Ac] [DecidableEq Ou] [DecidableEq Mg]
set_option maxHeartbeats 1000000 in
theorem eight_any (n : Int) (w : World) :
    Calls Try.prog 53 #[.int .u64 n] w fun e w' => ∃ v', e = .returned v' ∧ w'.ownsRow w.heap.size 5 1 v' 8 (by8 (e8 n)) ∧ Below w.heap.size w w' := by
  go_enter Try.func53, Try.ntmps53
  go_wp2_with fail
  go_loopw [3, 4] (fun u q wr => ∃ j : Nat, q = .int .i64 (7 - (j : Int)) ∧ j ≤ 8 ∧ wr.ownsRow w.heap.size 5 1 u j (by8 ((e8 n).take j)) ∧ Below w.heap.size w wr) (fun _ q _ => (intOf q + 1).toNat)
  case atStart => exact ⟨0, rfl, by omega, World.ownsRow_nil _ _ _ _, Below.refl _ _⟩
  case round =>
    obtain ⟨j, rfl, hj, hou, hbl⟩ := hrel
    have hsz := hbl.size
    by_cases hlt : j < 8
    · obtain ⟨i, hi⟩ : ∃ i, i = 7 - j := ⟨_, rfl⟩
      rw [show (7 - (j : Int)) = (i : Int) by omega]
      have hs0 : (0 : Int) ≤ (i : Int) := by omega
      have hs1 : (i : Int) ≤ 7 := by omega
      have hw1 : IntKind.i64.wrap (8 * (i : Int)) = 8 * i := by rw [IntKind.wrap_i64]; omega
      have hw2 : (8 * (i : Int)) % 18446744073709551616 = 8 * i := by omega
      have hw3 : (8 * (i : Int)).toNat = 8 * i := by omega
      have het : Hid ((e8 n).take (j + 1) = (e8 n).take j ++ [n / 2 ^ (8 * i) % 256]) := Hid.mk' (by rw [e8_take hlt, show 56 - 8 * j = 8 * i by omega])
      have hij : Hid ((i : Int) - 1 = 7 - ((j + 1 : Nat) : Int)) := Hid.mk' (by omega)
      clear hi
      go_wp2_with (at_builtin; go_must (refine append_bytes (by rfl) (.tmp 9) (.tmp 16) (by rfl) w.heap.size _ j ((e8 n).take j) (by rfl) (hou.alloc _) (some ⟨wr.heap.size, 0, none⟩) 1 1 [n / 2 ^ (8 * i) % 256] (by rfl) (by rfl) (fun h => by cases h) (Arr.sl (Arr.new wr 5 _)) (by omega) (by simp; omega) ?_; intro v2 w2 hown2 hg2; have hB2 := (hbl.alloc hsz _).grown hg2 (by simp; omega) (fun k e => own_ge hou k e)))
      go_roundw
      case rel => exact ⟨j + 1, congrArg (Value.int .i64) hij.out, by omega, by rw [het.out]; exact hown2, hB2⟩
      case measure => first | (simp [intOf]; omega) | simp [intOf]
    · obtain rfl : j = 8 := by omega
      have e8' : Hid ((e8 n).take 8 = e8 n) := Hid.mk' (List.take_of_length_le (by rw [e8_len]; exact Nat.le_refl _))
      go_wp2_with fail
      go_ret
      exact ⟨_, rfl, by rw [← e8'.out]; exact hou, hbl⟩
end Go.Proofs.Ytbhhbkoikocjgaa
/- Layer spec: what the layers below give. -/
namespace Go.Proofs.Ytbhhbkoikocjgaa
set_option linter.unusedSectionVars false
set_option maxHeartbeats 1000000
open Go.RowKit
set_option maxRecDepth 100000
set_option linter.unusedVariables false
set_option linter.unusedSimpArgs false

variable [DecidableEq Ac] [DecidableEq Ou] [DecidableEq Mg]
theorem cat5 (m : Mg) : cat (w13 m) 5 ++ m.ky ++ m.nx = m.bytes := by simp [cat, w13, Mg.bytes]
theorem lit5 (m : Mg) {k : Nat} (h : k < 5) : (#[.int .u64 m.kd, .int .u64 m.fr, .int .u64 m.tw, .int .u64 m.am, .int .u64 m.no] : Array Value)[k]? = some (.int .u64 (w13 m k)) := by
  match k, h with
  | 0, _ => rfl
  | 1, _ => rfl
  | 2, _ => rfl
  | 3, _ => rfl
  | 4, _ => rfl
set_option maxHeartbeats 2000000 in
theorem refWrite_any (m : Mg) (w : World) (hm : MgOK m) : Calls Try.prog 37 #[.agg m.arr] w (WPost m w) := by
  have A0 := Arr.new w 95 m.arr
  have hB0 := alloc_bel' w (.cells m.arr 95)
  have hcat := Hid.mk' (cat5 m)
  have hkl := hm.kl
  have hnl := hm.nl
  go_enter Try.func37, Try.ntmps37
  cases hmay : m.may
  · go_wp2_with (first
      | (refine atL 95 (.tmp 1) ?_; refine ld27M (by rfl) (.tmp 1) (by rfl) w.heap.size 95 (by rfl) m hm A0 ?_)
      | (go_at_call 52; go_must (refine (refMay_anyM m _ hm).mono ?_; rintro e w1 ⟨rfl, hb1⟩; have A1 := A0.bel hb1; have B1 := hB0.trans (hb1.mono (by simp)); clear A0)))
    go_ret2
    exact WPost.no hmay B1
  · go_upto_region 3 with (first
      | (refine atL 95 (.tmp 1) ?_; refine ld27M (by rfl) (.tmp 1) (by rfl) w.heap.size 95 (by rfl) m hm A0 ?_)
      | (go_at_call 52; go_must (refine (refMay_anyM m _ hm).mono ?_; rintro e w1 ⟨rfl, hb1⟩; have A1 := A0.bel hb1; have B1 := hB0.trans (hb1.mono (by simp)); clear A0)))
    have c0 := mg_c0 A1
    have c1 := mg_c1 A1
    have c2 := mg_c2 A1
    have c3 := mg_c3 A1
    have c4 := mg_c4 A1
    have k0 := hm.k0
    have k1 := hm.k1
    have kw : IntKind.u64.wrap m.kd = m.kd := wrap64_of k0 (by omega)
    have km : m.kd % 18446744073709551616 = m.kd := by omega
    have A2 := A1.alloc (.cells #[.int .u64 m.kd, .int .u64 m.fr, .int .u64 m.tw, .int .u64 m.am, .int .u64 m.no] 22)
    have L2 := Arr.new w1 22 #[.int .u64 m.kd, .int .u64 m.fr, .int .u64 m.tw, .int .u64 m.am, .int .u64 m.no]
    have B2 := B1.alloc B1.size (.cells #[.int .u64 m.kd, .int .u64 m.fr, .int .u64 m.tw, .int .u64 m.am, .int .u64 m.no] 22)
    have hA1 := A1.lt
    go_upto_region 6 with fail
    generalize hG : w1.heap.size = G at L2 ⊢
    have hGw : w.heap.size < G := by omega
    generalize w1.alloc (.cells #[.int .u64 m.kd, .int .u64 m.fr, .int .u64 m.tw, .int .u64 m.am, .int .u64 m.no] 22) = V at A2 L2 B2 ⊢
    clear c0 c1 c2 c3 c4 A1 B1 hb1 hB0
    go_loopw [5, 6] (fun u q wr => ∃ k : Nat, k ≤ 5 ∧ q = .int .i64 k ∧ wr.ownsRow (G + 1) 5 1 u (8 * k) (by8 (cat (w13 m) k)) ∧ Arr wr w.heap.size 95 m.arr ∧ Arr wr G 22 #[.int .u64 m.kd, .int .u64 m.fr, .int .u64 m.tw, .int .u64 m.am, .int .u64 m.no] ∧ Below w.heap.size w wr) (fun _ q _ => 5 - (intOf q).toNat)
    case atStart => exact ⟨0, by omega, rfl, World.ownsRow_nil _ _ _ _, A2, L2, B2⟩
    case round =>
      obtain ⟨k, hk, rfl, hou, A3, L3, B3⟩ := hrel
      clear A2 L2 B2
      have hsz := L3.lt
      by_cases hlt : k < 5
      · have h3 : (k : Int) < 5 := by omega
        have h4 : (0 : Int) ≤ k := by omega
        have x1 : wr.cell? ⟨G, k, none⟩ = some (.int .u64 (w13 m k)) := (L3.cell k).trans (lit5 m hlt)
        obtain ⟨x, hx⟩ : ∃ x, x = w13 m k := ⟨_, rfl⟩
        rw [← hx] at x1
        replace hx := Hid.mk' hx
        have het : Hid (cat (w13 m) (k + 1) = cat (w13 m) k ++ e8 x) := Hid.mk' (by rw [hx.out]; rfl)
        go_wp2_with (first
          | (go_at_call 53; go_must (refine (eight_any x _).mono ?_; rintro e u2 ⟨v2, rfl, hown2, hb2⟩; have B4 := B3.trans (hb2.mono B3.size); have A4 := A3.below hb2 A3.lt; have L4 := L3.below hb2 L3.lt; obtain ⟨s2, q2, rfl, hS2, hsp2⟩ := own_bs hown2 (e8_bts _) (by omega); have hou' := own_same hou (fun k hk => hb2.block k (own_lt hou hk)); have hn2 := hS2.nil; have hl2 := hS2.len; have hz2 := hb2.size; clear hou A3 L3 B3))
          | (at_builtin; go_must (refine append_bytes (by rfl) (.tmp 26) (.tmp 31) (by rfl) (G + 1) _ (8 * k) (cat (w13 m) k) (by rfl) hou' s2 8 q2 (e8 x) (by rfl) hl2.out hn2 hS2.sl (by omega) (by omega) ?_; intro v3 u3 hown3 hg3; have B5 := B4.grown hg3 B4.size (fun k e => by have := own_ge hou' k e; omega); have A5 := A4.grown hg3 (ne_own hou' (by omega)); have L5 := L4.grown hg3 (ne_own hou' (by omega)))))
        go_roundw
        case rel => exact ⟨k + 1, by omega, by go_num, by rw [het.out]; exact hown3, A5, L5, B5⟩
        case measure => simp [intOf]; omega
      · obtain rfl : k = 5 := by omega
        have K3 := mg_ky A3
        have lk := range_sl K3
        go_upto_region 9 with fail
        refine wp_region_held_drew (S := fun _ => True) (by kernel_rfl) trivial (fun hHeld => ?_)
        refine wpAnyH_take (i := 0) (oi := ⟨_, _, _, _, _, _⟩) (v := ?_) rfl (by kernel_rfl) (by kernel_rfl) (by kernel_rfl) (fun _ _ _ h => h) (Or.inl ⟨by rfl, ?_⟩) (by assumption) ?_
        rotate_left
        · intro u hSw
          go_simp
          try (with_reducible rfl)
        try simp only [Act.put, List.setIfInBounds_toArray, List.set_cons_zero, List.set_cons_succ]
        refine wpAnyH_take (i := 1) (oi := ⟨_, _, _, _, _, _⟩) (v := ?_) rfl (by kernel_rfl) (by kernel_rfl) (by kernel_rfl) (fun _ _ _ h => h) (Or.inl ⟨by rfl, ?_⟩) (by assumption) ?_
        rotate_left
        · intro u hSw
          go_simp
          try (with_reducible rfl)
        try simp only [Act.put, List.setIfInBounds_toArray, List.set_cons_zero, List.set_cons_succ]
        refine wpAnyH_take (i := 2) (oi := ⟨_, _, _, _, _, _⟩) (v := ?_) rfl (by kernel_rfl) (by kernel_rfl) (by kernel_rfl) (fun _ _ _ h => h) (Or.inl ⟨by rfl, ?_⟩) (by assumption) ?_
        rotate_left
        · intro u hSw
          go_simp
          try (with_reducible rfl)
        try simp only [Act.put, List.setIfInBounds_toArray, List.set_cons_zero, List.set_cons_succ]
        refine wpAnyH_take (i := 4) (oi := ⟨_, _, _, _, _, _⟩) (v := ?_) rfl (by kernel_rfl) (by kernel_rfl) (by kernel_rfl) (fun _ _ _ h => h) (Or.inl ⟨by rfl, ?_⟩) (by assumption) ?_
        rotate_left
        · intro u hSw
          go_simp
          try (with_reducible rfl)
        try simp only [Act.put, List.setIfInBounds_toArray, List.set_cons_zero, List.set_cons_succ]
        refine wpAnyH_take (i := 5) (oi := ⟨_, _, _, _, _, _⟩) (v := ?_) rfl (by kernel_rfl) (by kernel_rfl) (by kernel_rfl) (fun _ _ _ h => h) (Or.inl ⟨by rfl, ?_⟩) (by assumption) ?_
        rotate_left
        · intro u hSw
          go_simp
          try (with_reducible rfl)
        try simp only [Act.put, List.setIfInBounds_toArray, List.set_cons_zero, List.set_cons_succ]
        have hd : w.heap.size < G := hGw
        refine wpAnyH_ready (rs := [3]) (by kernel_rfl) (by simp) ?_
        refine AllReadyH.cons (o := ⟨_, _, _, _, _, _⟩) rfl (fun K hK => ?_) AllReadyH.nil
        refine step_append_bytes rfl (.tmp 33) (.tmp 35) rfl (G + 1) _ (8 * 5) (cat (w13 m) 5) rfl (own_same hou (fun k hk => rfl)) (some ⟨w.heap.size, 5, none⟩) 32 32 m.ky rfl hkl.symm (fun h => by cases h) lk (by omega) (by first | omega | (show G + 1 ≤ wr.heap.size; omega)) ?_; intro v4 u4 hown4 hg4; have B4 := B3.drew.grown hg4 (by simpa using B3.size) (fun k e => by have := own_ge hou k e; omega); have A4 := A3.drew.grown hg4 (ne_own hou (by omega)); have ln := range_sl (mg_nx A4 hkl); have hz4 := A4.lt; have hzz : wr.heap.size ≤ u4.heap.size := hg4.size
        refine hK.out _ _ trivial (fun hHeld => ?_)
        clear hK K
        try simp only [Act.put, List.setIfInBounds_toArray, List.set_cons_zero, List.set_cons_succ]
        refine wpAnyH_ready (rs := [6]) (by kernel_rfl) (by simp) ?_
        refine AllReadyH.cons (o := ⟨_, _, _, _, _, _⟩) rfl (fun K hK => ?_) AllReadyH.nil
        refine step_append_bytes rfl (.tmp 36) (.tmp 38) rfl (G + 1) _ (8 * 5 + 32) (cat (w13 m) 5 ++ m.ky) rfl hown4 (some ⟨w.heap.size, 37, none⟩) 32 32 m.nx rfl hnl.symm (fun h => by cases h) ln (by omega) (by first | omega | (show G + 1 ≤ wr.heap.size; omega)) ?_; intro v5 u5 hown5 hg5; have B5 := B4.grown hg5 B4.size (fun k e => by have := own_ge hown4 k e; omega)
        refine hK.out _ _ trivial (fun hHeld => ?_)
        clear hK K
        try simp only [Act.put, List.setIfInBounds_toArray, List.set_cons_zero, List.set_cons_succ]
        refine wpAnyH_take (i := 7) (oi := ⟨_, _, _, _, _, _⟩) (v := ?_) rfl (by kernel_rfl) (by kernel_rfl) (by kernel_rfl) (fun _ _ _ h => h) (Or.inl ⟨by rfl, ?_⟩) (by assumption) ?_
        rotate_left
        · intro u hSw
          go_simp
          try (with_reducible rfl)
        try simp only [Act.put, List.setIfInBounds_toArray, List.set_cons_zero, List.set_cons_succ]
        refine wpAnyH_take (i := 8) (oi := ⟨_, _, _, _, _, _⟩) (v := ?_) rfl (by kernel_rfl) (by kernel_rfl) (by kernel_rfl) (fun _ _ _ h => h) (Or.inl ⟨by rfl, ?_⟩) (by assumption) ?_
        rotate_left
        · intro u hSw
          go_simp
          try (with_reducible rfl)
        try simp only [Act.put, List.setIfInBounds_toArray, List.set_cons_zero, List.set_cons_succ]
        refine wpAnyH_done (by kernel_rfl) ?_ _
        go_wp2_with fail
        go_ret2
        exact WPost.yes hm hmay (by rw [← hcat.out]; exact hown5) B5
end Go.Proofs.Ytbhhbkoikocjgaa
/- Layer spec: what the layers below give. -/
namespace Go.Proofs.Ytbhhbkoikocjgaa
set_option linter.unusedSectionVars false
set_option maxHeartbeats 1000000
open Go.ChangeAt Go.ChangeShapes Go.RowKit Go.WideShapes
set_option maxRecDepth 100000
set_option linter.unusedVariables false
set_option linter.unusedSimpArgs false

variable [DecidableEq Ac] [DecidableEq Ou] [DecidableEq Mg]
theorem bs_open {W : World} {sp : Option Addr} {n cap : Nat} {L : List Int} (hn : n = L.length) (hnil : sp = none → n = 0 ∧ cap = 0) (hS : SlL W sp L) (hc : n ≤ cap) (hb : cap ≤ 140737488351232) (hw : ∀ x ∈ L, (Lit.int .u8 x).wf = true) : BS W.heap.size W sp n cap L :=
  ⟨Hid.mk' hn, hnil, hc, by omega, by omega, fun h0 => by
    obtain ⟨b, off, e, hB⟩ := hS (by omega)
    exact ⟨b, off, e, block_lt_of_cell (hB 0 (by omega)), by rw [hn]; exact hB⟩, bts_wf hw⟩
end Go.Proofs.Ytbhhbkoikocjgaa
/- Layer spec: what two deposits bring. -/
namespace Go.Proofs.Ytbhhbkoikocjgaa
set_option linter.unusedSectionVars false
set_option maxHeartbeats 1000000
open Go.RowKit Go.Shelf
set_option maxRecDepth 100000
set_option linter.unusedVariables false
set_option linter.unusedSimpArgs false


variable [DecidableEq Ac] [DecidableEq Ou] [DecidableEq Mg]
def m5 : Mg := ⟨1, 0, 0, 5, 0, Z32, Z32⟩
def m6 : Mg := ⟨1, 0, 1, 6, 0, Z32, Z32⟩
theorem Z32_b : Bts Z32 := Z32_bts
theorem m5_ok : MgOK m5 := ⟨by decide, by decide, by decide, by decide, by decide, by decide, by decide, by decide, by decide, by decide, rfl, Z32_bts, rfl, Z32_bts⟩
theorem m6_ok : MgOK m6 := ⟨by decide, by decide, by decide, by decide, by decide, by decide, by decide, by decide, by decide, by decide, rfl, Z32_bts, rfl, Z32_bts⟩
theorem anchI : (yR zs [] [wb m5, [], wb m6] 3).I = 11 := by kernel_rfl
theorem anchU : (yR zs [] [wb m5, [], wb m6] 3).U = 0 := by kernel_rfl
theorem anchE : xE zs [] = 0 := by kernel_rfl
theorem bm5 : Try.prog.built 95 [(0, .int .u8 1), (3, .int .u64 5)] = some m5.arr := by kernel_rfl
theorem bm6 : Try.prog.built 95 [(0, .int .u8 1), (2, .int .u64 1), (3, .int .u64 6)] = some m6.arr := by kernel_rfl
theorem m5_may : m5.may = true := by kernel_rfl
theorem m6_may : m6.may = true := by kernel_rfl
set_option maxHeartbeats 1000000 in
theorem anchored_any (w : World) : Calls Try.prog 15 #[] w fun r w' => r = .returned (.bool true) ∧ Below w.heap.size w w' := by
  have hb5 := bm5
  have hb6 := bm6
  have hbz := built30z
  have W5 := Hid.mk' (fun u => refWrite_any m5 u m5_ok)
  have W6 := Hid.mk' (fun u => refWrite_any m6 u m6_ok)
  have hM5 := m5_may
  have hM6 := m6_may
  unfold WPost at W5 W6
  rw [hM5] at W5
  rw [hM6] at W6
  have hI := Hid.mk' anchI
  have hU := Hid.mk' anchU
  have hE := Hid.mk' anchE
  generalize m5.arr = a5 at *
  generalize m6.arr = a6 at *
  generalize wb m5 = L5 at *
  generalize wb m6 = L6 at *
  clear hM5 hM6
  go_enter Try.func15, Try.ntmps15
  go_upto_region 3 with (first
    | (refine atB 95 ?_; refine bdT (by rfl) 95 #[(0, .const (.int .u8 1)), (3, .const (.int .u64 5))] (by rfl) (by rfl) hb5 ?_)
    | (refine atB 95 ?_; refine bdT (by rfl) 95 #[(0, .const (.int .u8 1)), (2, .const (.int .u64 1)), (3, .const (.int .u64 6))] (by rfl) (by rfl) hb6 ?_)
    | (go_at_call 37; have hz := W5; clear W5; go_must (refine (hz.out _).mono ?_; rintro r w1 ⟨s1, n1, c1, rfl, S1, b1⟩))
    | (go_at_call 37; go_must (refine (W6.out _).mono ?_; rintro r w2 ⟨s2, n2, c2, rfl, S2, b2⟩)))
  have S12 := (S1.below b2).mono b2.size
  have B2 := b1.trans (b2.mono b1.size)
  have bL := alloc_bel' w2 (.cells #[.slice s1 n1 c1, .slice none 0 0, .slice s2 n2 c2] 63)
  have AL := Arr.new w2 63 #[.slice s1 n1 c1, .slice none 0 0, .slice s2 n2 c2]
  have hBL : BL (w2.alloc (.cells #[.slice s1 n1 c1, .slice none 0 0, .slice s2 n2 c2] 63)).heap.size (w2.alloc (.cells #[.slice s1 n1 c1, .slice none 0 0, .slice s2 n2 c2] 63)) (some ⟨w2.heap.size, 0, none⟩) 3 3 [⟨s1, n1, c1, L5⟩, ⟨none, 0, 0, []⟩, ⟨s2, n2, c2, L6⟩] := by
    refine ⟨Hid.mk' rfl, (fun h => by cases h), by omega, by omega, by omega, fun _ => ⟨_, _, rfl, AL.lt, fun i e he => ?_⟩, fun e he => ?_⟩
    · rw [Nat.zero_add, AL.cell]
      match i, he with
      | 0, he => simp at he; subst he; rfl
      | 1, he => simp at he; subst he; rfl
      | 2, he => simp at he; subst he; rfl
    · simp only [List.mem_cons, List.mem_nil_iff, or_false] at he
      rcases he with rfl | rfl | rfl
      · exact (S12.below bL).mono bL.size
      · exact BS.nil0 _ _
      · exact (S2.below bL).mono bL.size
  have hfl := flow_any zs _ none 0 0 [] (some ⟨w2.heap.size, 0, none⟩) 3 3 _ _ (w2.alloc (.cells #[.slice s1 n1 c1, .slice none 0 0, .slice s2 n2 c2] 63)) (zsSS _) hBL (Nat.le_refl _)
  have e3 : bzs [⟨s1, n1, c1, L5⟩, ⟨none, 0, 0, []⟩, ⟨s2, n2, c2, L6⟩] = [L5, [], L6] := rfl
  rw [e3, hI.out, hU.out, hE.out] at hfl
  have B3 := B2.trans (bL.mono B2.size)
  clear e3 hBL AL S12 S1 S2
  generalize stA zs none 0 0 = Z at *
  go_wp2_with (first
    | (refine atB 30 ?_; refine bdT (by rfl) 30 #[] (by rfl) (by rfl) hbz ?_)
    | (go_at_call 13; go_must (refine hfl.mono ?_; rintro r w3 ⟨rfl, b3⟩)))
  go_ret
  exact ⟨rfl, B3.trans (b3.mono B3.size)⟩
end Go.Proofs.Ytbhhbkoikocjgaa
