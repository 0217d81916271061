/- L, U, No, Np. -/
import Derived.Test.YtbhhbkoikocjgaaX01
import Derived.Test.YtbhhbkoikocjgaaX02
import Derived.Test.YtbhhbkoikocjgaaX03
import Derived.Test.YtbhhbkoikocjgaaX04
import Derived.Test.YtbhhbkoikocjgaaX05
import Derived.Test.YtbhhbkoikocjgaaX06
import Derived.Test.YtbhhbkoikocjgaaX07
import Derived.Test.YtbhhbkoikocjgaaX12
import Derived.Test.YtbhhbkoikocjgaaX16
import Derived.Test.YtbhhbkoikocjgaaX17
import Derived.Test.YtbhhbkoikocjgaaX21
import Derived.Test.YtbhhbkoikocjgaaX32
import Derived.Test.YtbhhbkoikocjgaaX25
import Derived.BigQuiet
import Derived.BigRegion
import Derived.ChangeKeysEq
import Derived.ChangeOld
import Derived.Deep.DeepCutAuto
import Derived.Deep.DrawnRows
import Derived.Deep.MidRow
import Derived.Deep.QuietTactic
import Derived.Deep.RegionHeld3
import Derived.Deep.RegionLaw
import Derived.Deep.RegionWith
import Derived.Deep.WholeRow
import Derived.Great.BuildSlice
import Derived.Great.FillDense
import Derived.JoinedTies
import Derived.KernelRfl
import Derived.Laws.AppendOwnNone
import Derived.Laws.BitsLemmas
import Derived.Laws.BytesArg
import Derived.Laws.CopyOwn
import Derived.Laws.CopyRow
import Derived.Laws.MakeOwn
import Derived.Laws.OwnMore
import Derived.Laws.ResultCell
import Derived.Laws.Tables
import Derived.Lib.AppendZeros
import Derived.Lib.SlBytesConst
import Derived.LoopIn
import Derived.LoopNIn
import Derived.Maps.AppendAt
import Derived.OpenShut
import Derived.OwnWalkIn
import Derived.ProofKit
import Derived.RangeFuncBound
import Derived.RangeFuncCalls
import Derived.RangeFuncLeaves
import Derived.RangeFuncNested
import Derived.RangeFuncRecord
import Derived.Shelf.Abstract
import Derived.Shelf.RegionOpen
import Derived.ShutString
import Derived.SizedLaws
import Derived.TacticsInMore
import Derived.WalkKit
import Derived.WalkLawsBesides
import Derived.WalkSpells
import GoSem.Claim
import GoSem.ClaimJoined
import GoSem.ClaimMapViews
import Derived.Test.YtbhhbkoikocjgaaX14
import Derived.Test.YtbhhbkoikocjgaaX30
import Derived.Test.YtbhhbkoikocjgaaX15
import Derived.Test.YtbhhbkoikocjgaaX18
/- Layer spec: what the layers below give. -/
namespace Go.Proofs.Ytbhhbkoikocjgaa
set_option linter.unusedSectionVars false
set_option maxHeartbeats 1000000
open Go.RowKit
set_option maxRecDepth 100000
set_option linter.unusedVariables false
set_option linter.unusedSimpArgs false

variable [DecidableEq Ac] [DecidableEq Ou] [DecidableEq Mg]
theorem cat5 (m : Mg) : cat (w13 m) 5 ++ m.ky ++ m.nx = m.bytes := by simp [cat, w13, Mg.bytes]
theorem lit5 (m : Mg) {k : Nat} (h : k < 5) : (#[.int .u64 m.kd, .int .u64 m.fr, .int .u64 m.tw, .int .u64 m.am, .int .u64 m.no] : Array Value)[k]? = some (.int .u64 (w13 m k)) := by
  match k, h with
  | 0, _ => rfl
  | 1, _ => rfl
  | 2, _ => rfl
  | 3, _ => rfl
  | 4, _ => rfl
set_option maxHeartbeats 2000000 in
theorem refWrite_any (m : Mg) (w : World) (hm : MgOK m) : Calls Try.prog 37 #[.agg m.arr] w (WPost m w) := by
  have A0 := Arr.new w 95 m.arr
  have hB0 := alloc_bel' w (.cells m.arr 95)
  have hcat := Hid.mk' (cat5 m)
  have hkl := hm.kl
  have hnl := hm.nl
  go_enter Try.func37, Try.ntmps37
  cases hmay : m.may
  · go_wp2_with (first
      | (refine atL 95 (.tmp 1) ?_; refine ld27M (by rfl) (.tmp 1) (by rfl) w.heap.size 95 (by rfl) m hm A0 ?_)
      | (go_at_call 52; go_must (refine (refMay_anyM m _ hm).mono ?_; rintro e w1 ⟨rfl, hb1⟩; have A1 := A0.bel hb1; have B1 := hB0.trans (hb1.mono (by simp)); clear A0)))
    go_ret2
    exact WPost.no hmay B1
  · go_upto_region 3 with (first
      | (refine atL 95 (.tmp 1) ?_; refine ld27M (by rfl) (.tmp 1) (by rfl) w.heap.size 95 (by rfl) m hm A0 ?_)
      | (go_at_call 52; go_must (refine (refMay_anyM m _ hm).mono ?_; rintro e w1 ⟨rfl, hb1⟩; have A1 := A0.bel hb1; have B1 := hB0.trans (hb1.mono (by simp)); clear A0)))
    have c0 := mg_c0 A1
    have c1 := mg_c1 A1
    have c2 := mg_c2 A1
    have c3 := mg_c3 A1
    have c4 := mg_c4 A1
    have k0 := hm.k0
    have k1 := hm.k1
    have kw : IntKind.u64.wrap m.kd = m.kd := wrap64_of k0 (by omega)
    have km : m.kd % 18446744073709551616 = m.kd := by omega
    have A2 := A1.alloc (.cells #[.int .u64 m.kd, .int .u64 m.fr, .int .u64 m.tw, .int .u64 m.am, .int .u64 m.no] 22)
    have L2 := Arr.new w1 22 #[.int .u64 m.kd, .int .u64 m.fr, .int .u64 m.tw, .int .u64 m.am, .int .u64 m.no]
    have B2 := B1.alloc B1.size (.cells #[.int .u64 m.kd, .int .u64 m.fr, .int .u64 m.tw, .int .u64 m.am, .int .u64 m.no] 22)
    have hA1 := A1.lt
    go_upto_region 6 with fail
    generalize hG : w1.heap.size = G at L2 ⊢
    have hGw : w.heap.size < G := by omega
    generalize w1.alloc (.cells #[.int .u64 m.kd, .int .u64 m.fr, .int .u64 m.tw, .int .u64 m.am, .int .u64 m.no] 22) = V at A2 L2 B2 ⊢
    clear c0 c1 c2 c3 c4 A1 B1 hb1 hB0
    go_loopw [5, 6] (fun u q wr => ∃ k : Nat, k ≤ 5 ∧ q = .int .i64 k ∧ wr.ownsRow (G + 1) 5 1 u (8 * k) (by8 (cat (w13 m) k)) ∧ Arr wr w.heap.size 95 m.arr ∧ Arr wr G 22 #[.int .u64 m.kd, .int .u64 m.fr, .int .u64 m.tw, .int .u64 m.am, .int .u64 m.no] ∧ Below w.heap.size w wr) (fun _ q _ => 5 - (intOf q).toNat)
    case atStart => exact ⟨0, by omega, rfl, World.ownsRow_nil _ _ _ _, A2, L2, B2⟩
    case round =>
      obtain ⟨k, hk, rfl, hou, A3, L3, B3⟩ := hrel
      clear A2 L2 B2
      have hsz := L3.lt
      by_cases hlt : k < 5
      · have h3 : (k : Int) < 5 := by omega
        have h4 : (0 : Int) ≤ k := by omega
        have x1 : wr.cell? ⟨G, k, none⟩ = some (.int .u64 (w13 m k)) := (L3.cell k).trans (lit5 m hlt)
        obtain ⟨x, hx⟩ : ∃ x, x = w13 m k := ⟨_, rfl⟩
        rw [← hx] at x1
        replace hx := Hid.mk' hx
        have het : Hid (cat (w13 m) (k + 1) = cat (w13 m) k ++ e8 x) := Hid.mk' (by rw [hx.out]; rfl)
        go_wp2_with (first
          | (go_at_call 53; go_must (refine (eight_any x _).mono ?_; rintro e u2 ⟨v2, rfl, hown2, hb2⟩; have B4 := B3.trans (hb2.mono B3.size); have A4 := A3.below hb2 A3.lt; have L4 := L3.below hb2 L3.lt; obtain ⟨s2, q2, rfl, hS2, hsp2⟩ := own_bs hown2 (e8_bts _) (by omega); have hou' := own_same hou (fun k hk => hb2.block k (own_lt hou hk)); have hn2 := hS2.nil; have hl2 := hS2.len; have hz2 := hb2.size; clear hou A3 L3 B3))
          | (at_builtin; go_must (refine append_bytes (by rfl) (.tmp 26) (.tmp 31) (by rfl) (G + 1) _ (8 * k) (cat (w13 m) k) (by rfl) hou' s2 8 q2 (e8 x) (by rfl) hl2.out hn2 hS2.sl (by omega) (by omega) ?_; intro v3 u3 hown3 hg3; have B5 := B4.grown hg3 B4.size (fun k e => by have := own_ge hou' k e; omega); have A5 := A4.grown hg3 (ne_own hou' (by omega)); have L5 := L4.grown hg3 (ne_own hou' (by omega)))))
        go_roundw
        case rel => exact ⟨k + 1, by omega, by go_num, by rw [het.out]; exact hown3, A5, L5, B5⟩
        case measure => simp [intOf]; omega
      · obtain rfl : k = 5 := by omega
        have K3 := mg_ky A3
        have lk := range_sl K3
        go_upto_region 9 with fail
        refine wp_region_held_drew (S := fun _ => True) (by kernel_rfl) trivial (fun hHeld => ?_)
        refine wpAnyH_take (i := 0) (oi := ⟨_, _, _, _, _, _⟩) (v := ?_) rfl (by kernel_rfl) (by kernel_rfl) (by kernel_rfl) (fun _ _ _ h => h) (Or.inl ⟨by rfl, ?_⟩) (by assumption) ?_
        rotate_left
        · intro u hSw
          go_simp
          try (with_reducible rfl)
        try simp only [Act.put, List.setIfInBounds_toArray, List.set_cons_zero, List.set_cons_succ]
        refine wpAnyH_take (i := 1) (oi := ⟨_, _, _, _, _, _⟩) (v := ?_) rfl (by kernel_rfl) (by kernel_rfl) (by kernel_rfl) (fun _ _ _ h => h) (Or.inl ⟨by rfl, ?_⟩) (by assumption) ?_
        rotate_left
        · intro u hSw
          go_simp
          try (with_reducible rfl)
        try simp only [Act.put, List.setIfInBounds_toArray, List.set_cons_zero, List.set_cons_succ]
        refine wpAnyH_take (i := 2) (oi := ⟨_, _, _, _, _, _⟩) (v := ?_) rfl (by kernel_rfl) (by kernel_rfl) (by kernel_rfl) (fun _ _ _ h => h) (Or.inl ⟨by rfl, ?_⟩) (by assumption) ?_
        rotate_left
        · intro u hSw
          go_simp
          try (with_reducible rfl)
        try simp only [Act.put, List.setIfInBounds_toArray, List.set_cons_zero, List.set_cons_succ]
        refine wpAnyH_take (i := 4) (oi := ⟨_, _, _, _, _, _⟩) (v := ?_) rfl (by kernel_rfl) (by kernel_rfl) (by kernel_rfl) (fun _ _ _ h => h) (Or.inl ⟨by rfl, ?_⟩) (by assumption) ?_
        rotate_left
        · intro u hSw
          go_simp
          try (with_reducible rfl)
        try simp only [Act.put, List.setIfInBounds_toArray, List.set_cons_zero, List.set_cons_succ]
        refine wpAnyH_take (i := 5) (oi := ⟨_, _, _, _, _, _⟩) (v := ?_) rfl (by kernel_rfl) (by kernel_rfl) (by kernel_rfl) (fun _ _ _ h => h) (Or.inl ⟨by rfl, ?_⟩) (by assumption) ?_
        rotate_left
        · intro u hSw
          go_simp
          try (with_reducible rfl)
        try simp only [Act.put, List.setIfInBounds_toArray, List.set_cons_zero, List.set_cons_succ]
        have hd : w.heap.size < G := hGw
        refine wpAnyH_ready (rs := [3]) (by kernel_rfl) (by simp) ?_
        refine AllReadyH.cons (o := ⟨_, _, _, _, _, _⟩) rfl (fun K hK => ?_) AllReadyH.nil
        refine step_append_bytes rfl (.tmp 33) (.tmp 35) rfl (G + 1) _ (8 * 5) (cat (w13 m) 5) rfl (own_same hou (fun k hk => rfl)) (some ⟨w.heap.size, 5, none⟩) 32 32 m.ky rfl hkl.symm (fun h => by cases h) lk (by omega) (by first | omega | (show G + 1 ≤ wr.heap.size; omega)) ?_; intro v4 u4 hown4 hg4; have B4 := B3.drew.grown hg4 (by simpa using B3.size) (fun k e => by have := own_ge hou k e; omega); have A4 := A3.drew.grown hg4 (ne_own hou (by omega)); have ln := range_sl (mg_nx A4 hkl); have hz4 := A4.lt; have hzz : wr.heap.size ≤ u4.heap.size := hg4.size
        refine hK.out _ _ trivial (fun hHeld => ?_)
        clear hK K
        try simp only [Act.put, List.setIfInBounds_toArray, List.set_cons_zero, List.set_cons_succ]
        refine wpAnyH_ready (rs := [6]) (by kernel_rfl) (by simp) ?_
        refine AllReadyH.cons (o := ⟨_, _, _, _, _, _⟩) rfl (fun K hK => ?_) AllReadyH.nil
        refine step_append_bytes rfl (.tmp 36) (.tmp 38) rfl (G + 1) _ (8 * 5 + 32) (cat (w13 m) 5 ++ m.ky) rfl hown4 (some ⟨w.heap.size, 37, none⟩) 32 32 m.nx rfl hnl.symm (fun h => by cases h) ln (by omega) (by first | omega | (show G + 1 ≤ wr.heap.size; omega)) ?_; intro v5 u5 hown5 hg5; have B5 := B4.grown hg5 B4.size (fun k e => by have := own_ge hown4 k e; omega)
        refine hK.out _ _ trivial (fun hHeld => ?_)
        clear hK K
        try simp only [Act.put, List.setIfInBounds_toArray, List.set_cons_zero, List.set_cons_succ]
        refine wpAnyH_take (i := 7) (oi := ⟨_, _, _, _, _, _⟩) (v := ?_) rfl (by kernel_rfl) (by kernel_rfl) (by kernel_rfl) (fun _ _ _ h => h) (Or.inl ⟨by rfl, ?_⟩) (by assumption) ?_
        rotate_left
        · intro u hSw
          go_simp
          try (with_reducible rfl)
        try simp only [Act.put, List.setIfInBounds_toArray, List.set_cons_zero, List.set_cons_succ]
        refine wpAnyH_take (i := 8) (oi := ⟨_, _, _, _, _, _⟩) (v := ?_) rfl (by kernel_rfl) (by kernel_rfl) (by kernel_rfl) (fun _ _ _ h => h) (Or.inl ⟨by rfl, ?_⟩) (by assumption) ?_
        rotate_left
        · intro u hSw
          go_simp
          try (with_reducible rfl)
        try simp only [Act.put, List.setIfInBounds_toArray, List.set_cons_zero, List.set_cons_succ]
        refine wpAnyH_done (by kernel_rfl) ?_ _
        go_wp2_with fail
        go_ret2
        exact WPost.yes hm hmay (by rw [← hcat.out]; exact hown5) B5
end Go.Proofs.Ytbhhbkoikocjgaa
/- Layer spec: what the layers below give. -/
namespace Go.Proofs.Ytbhhbkoikocjgaa
set_option linter.unusedSectionVars false
set_option maxHeartbeats 1000000
open Go.ChangeAt Go.ChangeShapes Go.RowKit Go.WideShapes
set_option maxRecDepth 100000
set_option linter.unusedVariables false
set_option linter.unusedSimpArgs false

variable [DecidableEq Ac] [DecidableEq Ou] [DecidableEq Mg]
theorem bs_open {W : World} {sp : Option Addr} {n cap : Nat} {L : List Int} (hn : n = L.length) (hnil : sp = none → n = 0 ∧ cap = 0) (hS : SlL W sp L) (hc : n ≤ cap) (hb : cap ≤ 140737488351232) (hw : ∀ x ∈ L, (Lit.int .u8 x).wf = true) : BS W.heap.size W sp n cap L :=
  ⟨Hid.mk' hn, hnil, hc, by omega, by omega, fun h0 => by
    obtain ⟨b, off, e, hB⟩ := hS (by omega)
    exact ⟨b, off, e, block_lt_of_cell (hB 0 (by omega)), by rw [hn]; exact hB⟩, bts_wf hw⟩
end Go.Proofs.Ytbhhbkoikocjgaa
/- Layer spec: what two deposits bring. -/
namespace Go.Proofs.Ytbhhbkoikocjgaa
set_option linter.unusedSectionVars false
set_option maxHeartbeats 1000000
open Go.RowKit Go.Shelf
set_option maxRecDepth 100000
set_option linter.unusedVariables false
set_option linter.unusedSimpArgs false


variable [DecidableEq Ac] [DecidableEq Ou] [DecidableEq Mg]
def m5 : Mg := ⟨1, 0, 0, 5, 0, Z32, Z32⟩
def m6 : Mg := ⟨1, 0, 1, 6, 0, Z32, Z32⟩
theorem Z32_b : Bts Z32 := Z32_bts
theorem m5_ok : MgOK m5 := ⟨by decide, by decide, by decide, by decide, by decide, by decide, by decide, by decide, by decide, by decide, rfl, Z32_bts, rfl, Z32_bts⟩
theorem m6_ok : MgOK m6 := ⟨by decide, by decide, by decide, by decide, by decide, by decide, by decide, by decide, by decide, by decide, rfl, Z32_bts, rfl, Z32_bts⟩
theorem anchI : (yR zs [] [wb m5, [], wb m6] 3).I = 11 := by kernel_rfl
theorem anchU : (yR zs [] [wb m5, [], wb m6] 3).U = 0 := by kernel_rfl
theorem anchE : xE zs [] = 0 := by kernel_rfl
theorem bm5 : Try.prog.built 95 [(0, .int .u8 1), (3, .int .u64 5)] = some m5.arr := by kernel_rfl
theorem bm6 : Try.prog.built 95 [(0, .int .u8 1), (2, .int .u64 1), (3, .int .u64 6)] = some m6.arr := by kernel_rfl
theorem m5_may : m5.may = true := by kernel_rfl
theorem m6_may : m6.may = true := by kernel_rfl
set_option maxHeartbeats 1000000 in
theorem anchored_any (w : World) : Calls Try.prog 15 #[] w fun r w' => r = .returned (.bool true) ∧ Below w.heap.size w w' := by
  have hb5 := bm5
  have hb6 := bm6
  have hbz := built30z
  have W5 := Hid.mk' (fun u => refWrite_any m5 u m5_ok)
  have W6 := Hid.mk' (fun u => refWrite_any m6 u m6_ok)
  have hM5 := m5_may
  have hM6 := m6_may
  unfold WPost at W5 W6
  rw [hM5] at W5
  rw [hM6] at W6
  have hI := Hid.mk' anchI
  have hU := Hid.mk' anchU
  have hE := Hid.mk' anchE
  generalize m5.arr = a5 at *
  generalize m6.arr = a6 at *
  generalize wb m5 = L5 at *
  generalize wb m6 = L6 at *
  clear hM5 hM6
  go_enter Try.func15, Try.ntmps15
  go_upto_region 3 with (first
    | (refine atB 95 ?_; refine bdT (by rfl) 95 #[(0, .const (.int .u8 1)), (3, .const (.int .u64 5))] (by rfl) (by rfl) hb5 ?_)
    | (refine atB 95 ?_; refine bdT (by rfl) 95 #[(0, .const (.int .u8 1)), (2, .const (.int .u64 1)), (3, .const (.int .u64 6))] (by rfl) (by rfl) hb6 ?_)
    | (go_at_call 37; have hz := W5; clear W5; go_must (refine (hz.out _).mono ?_; rintro r w1 ⟨s1, n1, c1, rfl, S1, b1⟩))
    | (go_at_call 37; go_must (refine (W6.out _).mono ?_; rintro r w2 ⟨s2, n2, c2, rfl, S2, b2⟩)))
  have S12 := (S1.below b2).mono b2.size
  have B2 := b1.trans (b2.mono b1.size)
  have bL := alloc_bel' w2 (.cells #[.slice s1 n1 c1, .slice none 0 0, .slice s2 n2 c2] 63)
  have AL := Arr.new w2 63 #[.slice s1 n1 c1, .slice none 0 0, .slice s2 n2 c2]
  have hBL : BL (w2.alloc (.cells #[.slice s1 n1 c1, .slice none 0 0, .slice s2 n2 c2] 63)).heap.size (w2.alloc (.cells #[.slice s1 n1 c1, .slice none 0 0, .slice s2 n2 c2] 63)) (some ⟨w2.heap.size, 0, none⟩) 3 3 [⟨s1, n1, c1, L5⟩, ⟨none, 0, 0, []⟩, ⟨s2, n2, c2, L6⟩] := by
    refine ⟨Hid.mk' rfl, (fun h => by cases h), by omega, by omega, by omega, fun _ => ⟨_, _, rfl, AL.lt, fun i e he => ?_⟩, fun e he => ?_⟩
    · rw [Nat.zero_add, AL.cell]
      match i, he with
      | 0, he => simp at he; subst he; rfl
      | 1, he => simp at he; subst he; rfl
      | 2, he => simp at he; subst he; rfl
    · simp only [List.mem_cons, List.mem_nil_iff, or_false] at he
      rcases he with rfl | rfl | rfl
      · exact (S12.below bL).mono bL.size
      · exact BS.nil0 _ _
      · exact (S2.below bL).mono bL.size
  have hfl := flow_any zs _ none 0 0 [] (some ⟨w2.heap.size, 0, none⟩) 3 3 _ _ (w2.alloc (.cells #[.slice s1 n1 c1, .slice none 0 0, .slice s2 n2 c2] 63)) (zsSS _) hBL (Nat.le_refl _)
  have e3 : bzs [⟨s1, n1, c1, L5⟩, ⟨none, 0, 0, []⟩, ⟨s2, n2, c2, L6⟩] = [L5, [], L6] := rfl
  rw [e3, hI.out, hU.out, hE.out] at hfl
  have B3 := B2.trans (bL.mono B2.size)
  clear e3 hBL AL S12 S1 S2
  generalize stA zs none 0 0 = Z at *
  go_wp2_with (first
    | (refine atB 30 ?_; refine bdT (by rfl) 30 #[] (by rfl) (by rfl) hbz ?_)
    | (go_at_call 13; go_must (refine hfl.mono ?_; rintro r w3 ⟨rfl, b3⟩)))
  go_ret
  exact ⟨rfl, B3.trans (b3.mono B3.size)⟩
end Go.Proofs.Ytbhhbkoikocjgaa
/- Layer spec: the law SpecRuns. -/
namespace Go.Proofs.Ytbhhbkoikocjgaa
set_option linter.unusedSectionVars false
set_option maxHeartbeats 1000000
open Go.RowKit Go.Shelf
set_option maxRecDepth 100000
set_option linter.unusedVariables false
set_option linter.unusedSimpArgs false


variable [DecidableEq Ac] [DecidableEq Ou] [DecidableEq Mg]
theorem yR_ok {ps : List Ac} {os : List Ou} {Ls : List (List Int)} {k : Nat} (h : RnOK (rnA ps os Ls k)) : (yR ps os Ls k).P.length = 32 ∧ (∀ a ∈ (yR ps os Ls k).P, AcOK a) ∧ (∀ o ∈ (yR ps os Ls k).O, OuOK o) := by
  unfold yR
  split
  · exact ⟨h.a32, h.ok, h.ou⟩
  · exact ⟨zs_len, zs_ok, fun o ho => by cases ho⟩
theorem aR_ok {ps : List Ac} {os : List Ou} {Ls : List (List Int)} {nl : Nat} {m : Int} (h : ∀ k, RnOK (rnA ps os Ls k)) : (aR ps os Ls nl m).P.length = 32 ∧ (∀ a ∈ (aR ps os Ls nl m).P, AcOK a) ∧ (∀ o ∈ (aR ps os Ls nl m).O, OuOK o) := by
  unfold aR
  split
  · exact ⟨(h _).a32, (h _).ok, (h _).ou⟩
  · exact ⟨zs_len, zs_ok, fun o ho => by cases ho⟩
/-- A bool of a row of one's own. -/
theorem row_bool {w : World} {base k cd j : Nat} {sd : Option Addr} {D : List Bool} (h : w.ownsRow base 4 1 (.slice sd k cd) k (bls D)) (hj : j < k) : ∃ g b, sd = some ⟨g, 0, none⟩ ∧ k ≤ cd ∧ g < w.heap.size ∧ D[j]? = some b ∧ w.cell? ⟨g, j, none⟩ = some (.bool b) := by
  have h0 := h
  obtain ⟨hl, ⟨-, q⟩ | ⟨g', cap', cur, q, hg, hh, hn, -⟩⟩ := h
  · omega
  · simp at q
    obtain ⟨rfl, rfl⟩ := q
    have hD : j < D.length := by rw [bls_len] at hl; omega
    have hc := h0.cellAt j (by omega)
    have hb : (bls D)[j]? = some (.bool D[j]) := by simp [bls, List.getElem?_eq_getElem hD]
    refine ⟨g', D[j], rfl, hn, ?_, List.getElem?_eq_getElem hD, hc.trans hb⟩
    exact (Array.getElem?_eq_some_iff.1 hh).1
set_option maxHeartbeats 4000000 in
theorem runs_walk (ps : List Ac) (sp : Option Addr) (n cap : Nat) (os : List Ou) (sl : Option Addr) (nl cl : Nat) (es : List Bz) (m : Int) (w : World) (hS : SS w.heap.size w ps sp n cap os) (hL : BL w.heap.size w sl nl cl es) :
    Calls Try.prog 3 #[.agg (stA ps sp n cap), .slice sl nl cl, .int .i64 m] w fun e w' => e = .returned (.bool true) ∧ Below w.heap.size w w' := by
  have h1 := hS.a32.out
  have h2 := hS.l32
  have hz30 := zeroValue30
  have hzsz : (stA zs none 0 0).size = 1089 := stA_size zs_len zs_l32
  generalize stA zs none 0 0 = Z at hz30 hzsz
  have A0 := Arr.new w 30 (stA ps sp n cap)
  have B0 := alloc_bel' w (.cells (stA ps sp n cap) 30)
  have hrok := rnA_ok (Ls := bzs es) h1 hS.ok.out hS.outs.ok hL.bts
  have hR8 := Hid.mk' (fun u (hb : Below w.heap.size w u) => run_any ps w.heap.size sp n cap os sl nl cl w.heap.size es u (hS.below hb) (hL.below hb) hb.size)
  have hR9 := Hid.mk' (fun u (hb : Below w.heap.size w u) => refRun_any ps w.heap.size sp n cap os sl nl cl w.heap.size es u (hS.below hb) (hL.below hb) hb.size)
  have hR11 := Hid.mk' (fun u (hb : Below w.heap.size w u) => after_any ps w.heap.size sp n cap os sl nl cl w.heap.size es m u (hS.below hb) (hL.below hb) hb.size)
  have hR12 := Hid.mk' (fun u (hb : Below w.heap.size w u) => refAfter_any ps w.heap.size sp n cap os sl nl cl w.heap.size es m u (hS.below hb) (hL.below hb) hb.size)
  have hR13 := Hid.mk' (fun u (hb : Below w.heap.size w u) => flow_any ps w.heap.size sp n cap os sl nl cl w.heap.size es u (hS.below hb) (hL.below hb) hb.size)
  have hR14 := Hid.mk' (fun u (hb : Below w.heap.size w u) => refFlow_any ps w.heap.size sp n cap os sl nl cl w.heap.size es u (hS.below hb) (hL.below hb) hb.size)
  obtain ⟨hq1, hq3, -⟩ := yR_ok (hrok nl)
  have hq2 : ∀ a ∈ (yR ps os (bzs es) nl).P, a.lk.length = 32 := fun a ha => (hq3 a ha).l32
  obtain ⟨ha1, ha3, -⟩ := aR_ok (nl := nl) (m := m) hrok
  have ha2 : ∀ a ∈ (aR ps os (bzs es) nl m).P, a.lk.length = 32 := fun a ha => (ha3 a ha).l32
  unfold RunPost at hR8 hR9
  unfold AfterPost at hR11 hR12
  have hdl : Hid ((yR ps os (bzs es) nl).D.length ≤ 140737488351232) := Hid.mk' (by
    unfold yR
    split
    · rw [rnA_D nl (by rw [bzs_len, hL.len.out]; exact Nat.le_refl _)]
      have := hL.small
      omega
    · simp)
  clear hq3 ha3 hrok
  generalize yR ps os (bzs es) nl = R at *
  generalize aR ps os (bzs es) nl m = A at *
  generalize xE ps os = e1 at *
  generalize aE ps os nl m = e2 at *
  have hsR := Hid.mk' (smB_self R.P R.O)
  have hsA := Hid.mk' (smB_self A.P A.O)
  have hee1 : (e1 == e1) = true := by simp
  have hee2 : (e2 == e2) = true := by simp
  have hii : (R.I == R.I) = true := by simp
  have huu : (R.U == R.U) = true := by simp
  generalize R.I = ri at *
  generalize R.U = ru at *
  go_enter Try.func3, Try.ntmps3
  go_upto_region 2 with (first
    | (refine atL 30 (.tmp 3) ?_; refine ld30 (by rfl) _ (by rfl) w.heap.size 30 (by rfl) ps sp n cap h1 h2 A0 ?_)
    | (go_at_call 8; go_must (refine (hR8.out _ B0).mono ?_; rintro r w1 ⟨s1, n1, c1, sd, k, cd, rfl, hst1, hk1, row1, hb1⟩))
    | (refine atS 30 (.tmp 7) (.tmp 28) ?_; refine st30n (by rfl) _ _ (by rfl) w1 w1.heap.size rfl hzsz R.P s1 n1 c1 (by rfl) (by rfl) hq1 hq2 ?_))
  have bb := alloc_bel' w1 (.cells (stA R.P s1 n1 c1) 30)
  have A1 := (A0.below hb1 A0.lt).alloc (.cells (stA R.P s1 n1 c1) 30)
  have B1 := (B0.trans (hb1.mono B0.size)).alloc (Nat.le_trans B0.size hb1.size) (.cells (stA R.P s1 n1 c1) 30)
  have T1 := Arr.new w1 30 (stA R.P s1 n1 c1)
  have S1 := (hst1.ss.below bb).here
  have rowA := own_mono (row1.alloc (.cells (stA R.P s1 n1 c1) 30)) B0.size
  generalize w1.alloc (.cells (stA R.P s1 n1 c1) 30) = W1 at *
  generalize w1.heap.size = G1 at *
  clear hb1 hst1 row1 A0 B0 hR8 bb
  go_upto_region 3 with (first
    | (refine atL 30 (.tmp 3) ?_; refine ld30 (by rfl) _ (by rfl) w.heap.size 30 (by rfl) ps sp n cap h1 h2 A1 ?_)
    | (go_at_call 9; go_must (refine (hR9.out _ B1).mono ?_; rintro r w2 ⟨s2, n2, c2, sd2, k2, cd2, rfl, hst2, hk2, row2, hb2⟩; obtain rfl : k2 = k := by rw [hk2.out, hk1.out]))
    | (refine atS 30 (.tmp 10) (.tmp 35) ?_; refine st30n (by rfl) _ _ (by rfl) w2 w2.heap.size rfl hzsz R.P s2 n2 c2 (by rfl) (by rfl) hq1 hq2 ?_))
  have bb := alloc_bel' w2 (.cells (stA R.P s2 n2 c2) 30)
  have A2 := (A1.below hb2 A1.lt).alloc (.cells (stA R.P s2 n2 c2) 30)
  have B2 := (B1.trans (hb2.mono B1.size)).alloc (Nat.le_trans B1.size hb2.size) (.cells (stA R.P s2 n2 c2) 30)
  have T12 := (T1.below hb2 T1.lt).alloc (.cells (stA R.P s2 n2 c2) 30)
  have T2 := Arr.new w2 30 (stA R.P s2 n2 c2)
  have S12 := ((S1.below hb2).mono hb2.size |>.below bb).here
  have S2 := (hst2.ss.below bb).here
  have rowA2 := (own_same rowA (fun b hb => hb2.block b (own_lt rowA hb))).alloc (.cells (stA R.P s2 n2 c2) 30)
  have rowB := own_mono (row2.alloc (.cells (stA R.P s2 n2 c2) 30)) B1.size
  generalize w2.alloc (.cells (stA R.P s2 n2 c2) 30) = W2 at *
  generalize w2.heap.size = G2 at *
  have hk9 : k2 ≤ 9223372036854775807 := by rw [hk2.out]; exact Nat.le_trans hdl.out (by omega)
  have hkI : (k2 : Int) ≤ 9223372036854775807 := by omega
  clear hb2 hst2 row2 A1 B1 hR9 bb S1 T1 rowA hk1 hk2 hdl
  go_upto_region 6 with (first
    | (refine atL 30 (.tmp 7) ?_; refine ld30 (by rfl) _ (by rfl) G1 30 (by rfl) R.P s1 n1 c1 hq1 hq2 T12 ?_)
    | (refine atL 30 (.tmp 10) ?_; refine ld30 (by rfl) _ (by rfl) G2 30 (by rfl) R.P s2 n2 c2 hq1 hq2 T2 ?_)
    | (go_at_call 10; go_must (refine (refSsame_any R.P _ s1 n1 c1 R.O R.P _ s2 n2 c2 R.O _ S12 S2).mono ?_; rw [hsR.out]; rintro r w3 ⟨rfl, hb3⟩)))
  have A3 := A2.below hb3 A2.lt
  have B3 := B2.trans (hb3.mono B2.size)
  have rowA3 := own_same rowA2 (fun b hb => hb3.block b (own_lt rowA2 hb))
  have rowB3 := own_same rowB (fun b hb => hb3.block b (own_lt rowB hb))
  clear A2 B2 S12 S2 T12 T2 rowA2 rowB hb3
  go_loopw [13] (fun d wr => ∃ j : Nat, d = .int .i64 (j : Int) ∧ j ≤ k2 ∧ Below w3.heap.size w3 wr) (fun d _ => k2 - (intOf d).toNat)
  case atStart => exact ⟨0, rfl, by omega, Below.refl _ _⟩
  case round =>
    obtain ⟨j, rfl, hj, hbr⟩ := hrel
    by_cases hlt : j < k2
    · have hI : (j : Int) < k2 := by omega
      obtain ⟨g1, b1, rfl, hc1, hg1, hD1, hcc1⟩ := row_bool rowA3 hlt
      obtain ⟨g2, b2, rfl, hc2, hg2, hD2, hcc2⟩ := row_bool rowB3 hlt
      obtain rfl : b1 = b2 := by rw [hD1] at hD2; exact Option.some.inj hD2
      have hbb : (b1 == b1) = true := by simp
      have hbb2 : (b1 != b1) = false := by simp
      replace hD1 := Hid.mk' hD1
      replace hD2 := Hid.mk' hD2
      go_upto_region 8 with fail
      refine wp_region_held_drew (S := fun u => Below w3.heap.size w3 u) (by kernel_rfl) (hbr.drew) (fun hHeld => ?_)
      refine wpAnyH_take (i := 0) (oi := ⟨_, _, _, _, _, _⟩) (v := ?_) rfl (by kernel_rfl) (by kernel_rfl) (by kernel_rfl) (fun _ _ _ h => h) (Or.inl ⟨by rfl, ?_⟩) (by assumption) ?_
      rotate_left
      · intro u hSw
        go_simp
        try (with_reducible rfl)
      try simp only [Act.put, List.setIfInBounds_toArray, List.set_cons_zero, List.set_cons_succ]
      refine wpAnyH_take (i := 1) (oi := ⟨_, _, _, _, _, _⟩) (v := ?_) rfl (by kernel_rfl) (by kernel_rfl) (by kernel_rfl) (fun _ _ _ h => h) (Or.inl ⟨by rfl, ?_⟩) (by assumption) ?_
      rotate_left
      · intro u hSw
        go_simp
        try (with_reducible rfl)
      try simp only [Act.put, List.setIfInBounds_toArray, List.set_cons_zero, List.set_cons_succ]
      refine wpAnyH_take (i := 2) (oi := ⟨_, _, _, _, _, _⟩) (v := ?_) rfl (by kernel_rfl) (by kernel_rfl) (by kernel_rfl) (fun _ _ _ h => h) (Or.inl ⟨by rfl, ?_⟩) (by assumption) ?_
      rotate_left
      · intro u hSw
        have cc := (hSw.cell (p := ⟨g1, j, none⟩) hg1).trans hcc1
        go_simp
        try (with_reducible rfl)
      try simp only [Act.put, List.setIfInBounds_toArray, List.set_cons_zero, List.set_cons_succ]
      refine wpAnyH_take (i := 3) (oi := ⟨_, _, _, _, _, _⟩) (v := ?_) rfl (by kernel_rfl) (by kernel_rfl) (by kernel_rfl) (fun _ _ _ h => h) (Or.inl ⟨by rfl, ?_⟩) (by assumption) ?_
      rotate_left
      · intro u hSw
        have cc := (hSw.cell (p := ⟨g1, j, none⟩) hg1).trans hcc1
        go_simp
        try (with_reducible rfl)
      try simp only [Act.put, List.setIfInBounds_toArray, List.set_cons_zero, List.set_cons_succ]
      refine wpAnyH_take (i := 4) (oi := ⟨_, _, _, _, _, _⟩) (v := ?_) rfl (by kernel_rfl) (by kernel_rfl) (by kernel_rfl) (fun _ _ _ h => h) (Or.inl ⟨by rfl, ?_⟩) (by assumption) ?_
      rotate_left
      · intro u hSw
        go_simp
        try (with_reducible rfl)
      try simp only [Act.put, List.setIfInBounds_toArray, List.set_cons_zero, List.set_cons_succ]
      refine wpAnyH_take (i := 5) (oi := ⟨_, _, _, _, _, _⟩) (v := ?_) rfl (by kernel_rfl) (by kernel_rfl) (by kernel_rfl) (fun _ _ _ h => h) (Or.inl ⟨by rfl, ?_⟩) (by assumption) ?_
      rotate_left
      · intro u hSw
        go_simp
        try (with_reducible rfl)
      try simp only [Act.put, List.setIfInBounds_toArray, List.set_cons_zero, List.set_cons_succ]
      refine wpAnyH_take (i := 6) (oi := ⟨_, _, _, _, _, _⟩) (v := ?_) rfl (by kernel_rfl) (by kernel_rfl) (by kernel_rfl) (fun _ _ _ h => h) (Or.inl ⟨by rfl, ?_⟩) (by assumption) ?_
      rotate_left
      · intro u hSw
        have cc := (hSw.cell (p := ⟨g2, j, none⟩) hg2).trans hcc2
        go_simp
        try (with_reducible rfl)
      try simp only [Act.put, List.setIfInBounds_toArray, List.set_cons_zero, List.set_cons_succ]
      refine wpAnyH_take (i := 7) (oi := ⟨_, _, _, _, _, _⟩) (v := ?_) rfl (by kernel_rfl) (by kernel_rfl) (by kernel_rfl) (fun _ _ _ h => h) (Or.inl ⟨by rfl, ?_⟩) (by assumption) ?_
      rotate_left
      · intro u hSw
        have cc := (hSw.cell (p := ⟨g2, j, none⟩) hg2).trans hcc2
        go_simp
        try (with_reducible rfl)
      try simp only [Act.put, List.setIfInBounds_toArray, List.set_cons_zero, List.set_cons_succ]
      refine wpAnyH_take (i := 8) (oi := ⟨_, _, _, _, _, _⟩) (v := ?_) rfl (by kernel_rfl) (by kernel_rfl) (by kernel_rfl) (fun _ _ _ h => h) (Or.inl ⟨by rfl, ?_⟩) (by assumption) ?_
      rotate_left
      · intro u hSw
        go_simp
        try (with_reducible rfl)
      try simp only [Act.put, List.setIfInBounds_toArray, List.set_cons_zero, List.set_cons_succ]
      refine wpAnyH_done (by kernel_rfl) ?_ _
      go_wp2_with fail
      go_roundw
      case rel => exact ⟨j + 1, by go_num, by omega, hHeld⟩
      case measure => simp [intOf]; omega
    · obtain rfl : j = k2 := by omega
      have hI : ¬ (j : Int) < j := by omega
      have A4 := A3.below hbr A3.lt
      have B4 := B3.trans (hbr.mono B3.size)
      clear A3 B3 rowA3 rowB3 hbr
      go_upto_region 11 with (first
        | (refine atL 30 (.tmp 3) ?_; refine ld30 (by rfl) _ (by rfl) w.heap.size 30 (by rfl) ps sp n cap h1 h2 A4 ?_)
        | (go_at_call 11; go_must (refine (hR11.out _ B4).mono ?_; rintro r w5 ⟨s5, n5, c5, rfl, hst5, hb5⟩))
        | (refine atS 30 (.tmp 14) (.tmp 74) ?_; refine st30n (by rfl) _ _ (by rfl) w5 w5.heap.size rfl hzsz A.P s5 n5 c5 (by rfl) (by rfl) ha1 ha2 ?_))
      have bb := alloc_bel' w5 (.cells (stA A.P s5 n5 c5) 30)
      have A5 := (A4.below hb5 A4.lt).alloc (.cells (stA A.P s5 n5 c5) 30)
      have B5 := (B4.trans (hb5.mono B4.size)).alloc (Nat.le_trans B4.size hb5.size) (.cells (stA A.P s5 n5 c5) 30)
      have T5 := Arr.new w5 30 (stA A.P s5 n5 c5)
      have S5 := (hst5.ss.below bb).here
      generalize w5.alloc (.cells (stA A.P s5 n5 c5) 30) = W5 at *
      generalize w5.heap.size = G5 at *
      clear hb5 hst5 A4 B4 hR11 bb
      go_upto_region 12 with (first
        | (refine atL 30 (.tmp 3) ?_; refine ld30 (by rfl) _ (by rfl) w.heap.size 30 (by rfl) ps sp n cap h1 h2 A5 ?_)
        | (go_at_call 12; go_must (refine (hR12.out _ B5).mono ?_; rintro r w6 ⟨s6, n6, c6, rfl, hst6, hb6⟩))
        | (refine atS 30 (.tmp 16) (.tmp 81) ?_; refine st30n (by rfl) _ _ (by rfl) w6 w6.heap.size rfl hzsz A.P s6 n6 c6 (by rfl) (by rfl) ha1 ha2 ?_))
      have bb := alloc_bel' w6 (.cells (stA A.P s6 n6 c6) 30)
      have A6 := (A5.below hb6 A5.lt).alloc (.cells (stA A.P s6 n6 c6) 30)
      have B6 := (B5.trans (hb6.mono B5.size)).alloc (Nat.le_trans B5.size hb6.size) (.cells (stA A.P s6 n6 c6) 30)
      have T56 := (T5.below hb6 T5.lt).alloc (.cells (stA A.P s6 n6 c6) 30)
      have T6 := Arr.new w6 30 (stA A.P s6 n6 c6)
      have S56 := ((S5.below hb6).mono hb6.size |>.below bb).here
      have S6 := (hst6.ss.below bb).here
      generalize w6.alloc (.cells (stA A.P s6 n6 c6) 30) = W6 at *
      generalize w6.heap.size = G6 at *
      clear hb6 hst6 A5 B5 hR12 bb T5 S5
      go_upto_region 13 with (first
        | (refine atL 30 (.tmp 3) ?_; refine ld30 (by rfl) _ (by rfl) w.heap.size 30 (by rfl) ps sp n cap h1 h2 A6 ?_)
        | (go_at_call 13; go_must (refine (hR13.out _ B6).mono ?_; rintro r w7 ⟨rfl, hb7⟩)))
      have A7 := A6.below hb7 A6.lt
      have B7 := B6.trans (hb7.mono B6.size)
      have T57 := T56.below hb7 T56.lt
      have T67 := T6.below hb7 T6.lt
      have S57 := (S56.below hb7).mono hb7.size
      have S67 := (S6.below hb7).mono hb7.size
      clear hb7 A6 B6 T56 T6 S56 S6 hR13
      go_upto_region 14 with (first
        | (refine atL 30 (.tmp 3) ?_; refine ld30 (by rfl) _ (by rfl) w.heap.size 30 (by rfl) ps sp n cap h1 h2 A7 ?_)
        | (go_at_call 14; go_must (refine (hR14.out _ B7).mono ?_; rintro r w8 ⟨rfl, hb8⟩)))
      have B8 := B7.trans (hb8.mono B7.size)
      have T58 := T57.below hb8 T57.lt
      have T68 := T67.below hb8 T67.lt
      have S58 := (S57.below hb8).mono hb8.size
      have S68 := (S67.below hb8).mono hb8.size
      clear hb8 A7 B7 T57 T67 S57 S67 hR14
      go_wp2_with (first
        | (refine atL 30 (.tmp 14) ?_; refine ld30 (by rfl) _ (by rfl) G5 30 (by rfl) A.P s5 n5 c5 ha1 ha2 T58 ?_)
        | (refine atL 30 (.tmp 16) ?_; refine ld30 (by rfl) _ (by rfl) G6 30 (by rfl) A.P s6 n6 c6 ha1 ha2 T68 ?_)
        | (go_at_call 10; go_must (refine (refSsame_any A.P _ s5 n5 c5 A.O A.P _ s6 n6 c6 A.O _ S58 S68).mono ?_; rw [hsA.out]; rintro r w9 ⟨rfl, hb9⟩; have B9 := B8.trans (hb9.mono B8.size)))
        | (go_at_call 15; go_must (refine (anchored_any _).mono ?_; rintro r w10 ⟨rfl, hb10⟩; have B10 := B9.trans (hb10.mono B9.size))))
      go_ret
      exact ⟨rfl, B10⟩
end Go.Proofs.Ytbhhbkoikocjgaa
