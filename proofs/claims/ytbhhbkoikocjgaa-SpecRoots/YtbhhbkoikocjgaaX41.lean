/- L, U, No, Nt, Nq, Ek. -/
import Derived.Test.YtbhhbkoikocjgaaX01
import Derived.Test.YtbhhbkoikocjgaaX02
import Derived.Test.YtbhhbkoikocjgaaX03
import Derived.Test.YtbhhbkoikocjgaaX04
import Derived.Test.YtbhhbkoikocjgaaX05
import Derived.Test.YtbhhbkoikocjgaaX06
import Derived.Test.YtbhhbkoikocjgaaX07
import Derived.Test.YtbhhbkoikocjgaaX12
import Derived.Test.YtbhhbkoikocjgaaX16
import Derived.Test.YtbhhbkoikocjgaaX17
import Derived.Test.YtbhhbkoikocjgaaX21
import Derived.Test.YtbhhbkoikocjgaaX30
import Derived.Test.YtbhhbkoikocjgaaX39
import Derived.Test.YtbhhbkoikocjgaaX25
import Derived.BigQuiet
import Derived.BigRegion
import Derived.ChangeKeysEq
import Derived.ChangeOld
import Derived.Deep.DeepCutAuto
import Derived.Deep.DrawnRows
import Derived.Deep.MidRow
import Derived.Deep.QuietTactic
import Derived.Deep.RegionHeld3
import Derived.Deep.RegionLaw
import Derived.Deep.RegionWith
import Derived.Deep.WholeRow
import Derived.Great.BuildSlice
import Derived.Great.FillDense
import Derived.JoinedTies
import Derived.KernelRfl
import Derived.Laws.AppendOwnNone
import Derived.Laws.BitsLemmas
import Derived.Laws.BytesArg
import Derived.Laws.CopyOwn
import Derived.Laws.CopyRow
import Derived.Laws.MakeOwn
import Derived.Laws.OwnMore
import Derived.Laws.ResultCell
import Derived.Laws.Tables
import Derived.Lib.AppendZeros
import Derived.Lib.SlBytesConst
import Derived.LoopIn
import Derived.LoopNIn
import Derived.Maps.AppendAt
import Derived.OpenShut
import Derived.OwnWalkIn
import Derived.ProofKit
import Derived.RangeFuncBound
import Derived.RangeFuncCalls
import Derived.RangeFuncLeaves
import Derived.RangeFuncNested
import Derived.RangeFuncRecord
import Derived.Shelf.Abstract
import Derived.Shelf.RegionOpen
import Derived.ShutString
import Derived.SizedLaws
import Derived.TacticsInMore
import Derived.WalkKit
import Derived.WalkLawsBesides
import Derived.WalkSpells
import GoSem.Claim
import GoSem.ClaimJoined
import GoSem.ClaimMapViews
import Derived.Test.YtbhhbkoikocjgaaX14
import Derived.Test.YtbhhbkoikocjgaaX40
import Derived.Test.YtbhhbkoikocjgaaX15
import Derived.Test.YtbhhbkoikocjgaaX35
import Derived.Test.YtbhhbkoikocjgaaX33
import Derived.WideWitness
/- Layer spec: what the layers below give. -/
namespace Go.Proofs.Ytbhhbkoikocjgaa
set_option linter.unusedSectionVars false
set_option maxHeartbeats 1000000
open Go.RowKit
set_option maxRecDepth 100000
set_option linter.unusedVariables false
set_option linter.unusedSimpArgs false

variable [DecidableEq Ac] [DecidableEq Ou] [DecidableEq Mg]
theorem cat5 (m : Mg) : cat (w13 m) 5 ++ m.ky ++ m.nx = m.bytes := by simp [cat, w13, Mg.bytes]
theorem lit5 (m : Mg) {k : Nat} (h : k < 5) : (#[.int .u64 m.kd, .int .u64 m.fr, .int .u64 m.tw, .int .u64 m.am, .int .u64 m.no] : Array Value)[k]? = some (.int .u64 (w13 m k)) := by
  match k, h with
  | 0, _ => rfl
  | 1, _ => rfl
  | 2, _ => rfl
  | 3, _ => rfl
  | 4, _ => rfl
set_option maxHeartbeats 2000000 in
theorem refWrite_any (m : Mg) (w : World) (hm : MgOK m) : Calls Try.prog 37 #[.agg m.arr] w (WPost m w) := by
  have A0 := Arr.new w 95 m.arr
  have hB0 := alloc_bel' w (.cells m.arr 95)
  have hcat := Hid.mk' (cat5 m)
  have hkl := hm.kl
  have hnl := hm.nl
  go_enter Try.func37, Try.ntmps37
  cases hmay : m.may
  · go_wp2_with (first
      | (refine atL 95 (.tmp 1) ?_; refine ld27M (by rfl) (.tmp 1) (by rfl) w.heap.size 95 (by rfl) m hm A0 ?_)
      | (go_at_call 52; go_must (refine (refMay_anyM m _ hm).mono ?_; rintro e w1 ⟨rfl, hb1⟩; have A1 := A0.bel hb1; have B1 := hB0.trans (hb1.mono (by simp)); clear A0)))
    go_ret2
    exact WPost.no hmay B1
  · go_upto_region 3 with (first
      | (refine atL 95 (.tmp 1) ?_; refine ld27M (by rfl) (.tmp 1) (by rfl) w.heap.size 95 (by rfl) m hm A0 ?_)
      | (go_at_call 52; go_must (refine (refMay_anyM m _ hm).mono ?_; rintro e w1 ⟨rfl, hb1⟩; have A1 := A0.bel hb1; have B1 := hB0.trans (hb1.mono (by simp)); clear A0)))
    have c0 := mg_c0 A1
    have c1 := mg_c1 A1
    have c2 := mg_c2 A1
    have c3 := mg_c3 A1
    have c4 := mg_c4 A1
    have k0 := hm.k0
    have k1 := hm.k1
    have kw : IntKind.u64.wrap m.kd = m.kd := wrap64_of k0 (by omega)
    have km : m.kd % 18446744073709551616 = m.kd := by omega
    have A2 := A1.alloc (.cells #[.int .u64 m.kd, .int .u64 m.fr, .int .u64 m.tw, .int .u64 m.am, .int .u64 m.no] 22)
    have L2 := Arr.new w1 22 #[.int .u64 m.kd, .int .u64 m.fr, .int .u64 m.tw, .int .u64 m.am, .int .u64 m.no]
    have B2 := B1.alloc B1.size (.cells #[.int .u64 m.kd, .int .u64 m.fr, .int .u64 m.tw, .int .u64 m.am, .int .u64 m.no] 22)
    have hA1 := A1.lt
    go_upto_region 6 with fail
    generalize hG : w1.heap.size = G at L2 ⊢
    have hGw : w.heap.size < G := by omega
    generalize w1.alloc (.cells #[.int .u64 m.kd, .int .u64 m.fr, .int .u64 m.tw, .int .u64 m.am, .int .u64 m.no] 22) = V at A2 L2 B2 ⊢
    clear c0 c1 c2 c3 c4 A1 B1 hb1 hB0
    go_loopw [5, 6] (fun u q wr => ∃ k : Nat, k ≤ 5 ∧ q = .int .i64 k ∧ wr.ownsRow (G + 1) 5 1 u (8 * k) (by8 (cat (w13 m) k)) ∧ Arr wr w.heap.size 95 m.arr ∧ Arr wr G 22 #[.int .u64 m.kd, .int .u64 m.fr, .int .u64 m.tw, .int .u64 m.am, .int .u64 m.no] ∧ Below w.heap.size w wr) (fun _ q _ => 5 - (intOf q).toNat)
    case atStart => exact ⟨0, by omega, rfl, World.ownsRow_nil _ _ _ _, A2, L2, B2⟩
    case round =>
      obtain ⟨k, hk, rfl, hou, A3, L3, B3⟩ := hrel
      clear A2 L2 B2
      have hsz := L3.lt
      by_cases hlt : k < 5
      · have h3 : (k : Int) < 5 := by omega
        have h4 : (0 : Int) ≤ k := by omega
        have x1 : wr.cell? ⟨G, k, none⟩ = some (.int .u64 (w13 m k)) := (L3.cell k).trans (lit5 m hlt)
        obtain ⟨x, hx⟩ : ∃ x, x = w13 m k := ⟨_, rfl⟩
        rw [← hx] at x1
        replace hx := Hid.mk' hx
        have het : Hid (cat (w13 m) (k + 1) = cat (w13 m) k ++ e8 x) := Hid.mk' (by rw [hx.out]; rfl)
        go_wp2_with (first
          | (go_at_call 53; go_must (refine (eight_any x _).mono ?_; rintro e u2 ⟨v2, rfl, hown2, hb2⟩; have B4 := B3.trans (hb2.mono B3.size); have A4 := A3.below hb2 A3.lt; have L4 := L3.below hb2 L3.lt; obtain ⟨s2, q2, rfl, hS2, hsp2⟩ := own_bs hown2 (e8_bts _) (by omega); have hou' := own_same hou (fun k hk => hb2.block k (own_lt hou hk)); have hn2 := hS2.nil; have hl2 := hS2.len; have hz2 := hb2.size; clear hou A3 L3 B3))
          | (at_builtin; go_must (refine append_bytes (by rfl) (.tmp 26) (.tmp 31) (by rfl) (G + 1) _ (8 * k) (cat (w13 m) k) (by rfl) hou' s2 8 q2 (e8 x) (by rfl) hl2.out hn2 hS2.sl (by omega) (by omega) ?_; intro v3 u3 hown3 hg3; have B5 := B4.grown hg3 B4.size (fun k e => by have := own_ge hou' k e; omega); have A5 := A4.grown hg3 (ne_own hou' (by omega)); have L5 := L4.grown hg3 (ne_own hou' (by omega)))))
        go_roundw
        case rel => exact ⟨k + 1, by omega, by go_num, by rw [het.out]; exact hown3, A5, L5, B5⟩
        case measure => simp [intOf]; omega
      · obtain rfl : k = 5 := by omega
        have K3 := mg_ky A3
        have lk := range_sl K3
        go_upto_region 9 with fail
        refine wp_region_held_drew (S := fun _ => True) (by kernel_rfl) trivial (fun hHeld => ?_)
        refine wpAnyH_take (i := 0) (oi := ⟨_, _, _, _, _, _⟩) (v := ?_) rfl (by kernel_rfl) (by kernel_rfl) (by kernel_rfl) (fun _ _ _ h => h) (Or.inl ⟨by rfl, ?_⟩) (by assumption) ?_
        rotate_left
        · intro u hSw
          go_simp
          try (with_reducible rfl)
        try simp only [Act.put, List.setIfInBounds_toArray, List.set_cons_zero, List.set_cons_succ]
        refine wpAnyH_take (i := 1) (oi := ⟨_, _, _, _, _, _⟩) (v := ?_) rfl (by kernel_rfl) (by kernel_rfl) (by kernel_rfl) (fun _ _ _ h => h) (Or.inl ⟨by rfl, ?_⟩) (by assumption) ?_
        rotate_left
        · intro u hSw
          go_simp
          try (with_reducible rfl)
        try simp only [Act.put, List.setIfInBounds_toArray, List.set_cons_zero, List.set_cons_succ]
        refine wpAnyH_take (i := 2) (oi := ⟨_, _, _, _, _, _⟩) (v := ?_) rfl (by kernel_rfl) (by kernel_rfl) (by kernel_rfl) (fun _ _ _ h => h) (Or.inl ⟨by rfl, ?_⟩) (by assumption) ?_
        rotate_left
        · intro u hSw
          go_simp
          try (with_reducible rfl)
        try simp only [Act.put, List.setIfInBounds_toArray, List.set_cons_zero, List.set_cons_succ]
        refine wpAnyH_take (i := 4) (oi := ⟨_, _, _, _, _, _⟩) (v := ?_) rfl (by kernel_rfl) (by kernel_rfl) (by kernel_rfl) (fun _ _ _ h => h) (Or.inl ⟨by rfl, ?_⟩) (by assumption) ?_
        rotate_left
        · intro u hSw
          go_simp
          try (with_reducible rfl)
        try simp only [Act.put, List.setIfInBounds_toArray, List.set_cons_zero, List.set_cons_succ]
        refine wpAnyH_take (i := 5) (oi := ⟨_, _, _, _, _, _⟩) (v := ?_) rfl (by kernel_rfl) (by kernel_rfl) (by kernel_rfl) (fun _ _ _ h => h) (Or.inl ⟨by rfl, ?_⟩) (by assumption) ?_
        rotate_left
        · intro u hSw
          go_simp
          try (with_reducible rfl)
        try simp only [Act.put, List.setIfInBounds_toArray, List.set_cons_zero, List.set_cons_succ]
        have hd : w.heap.size < G := hGw
        refine wpAnyH_ready (rs := [3]) (by kernel_rfl) (by simp) ?_
        refine AllReadyH.cons (o := ⟨_, _, _, _, _, _⟩) rfl (fun K hK => ?_) AllReadyH.nil
        refine step_append_bytes rfl (.tmp 33) (.tmp 35) rfl (G + 1) _ (8 * 5) (cat (w13 m) 5) rfl (own_same hou (fun k hk => rfl)) (some ⟨w.heap.size, 5, none⟩) 32 32 m.ky rfl hkl.symm (fun h => by cases h) lk (by omega) (by first | omega | (show G + 1 ≤ wr.heap.size; omega)) ?_; intro v4 u4 hown4 hg4; have B4 := B3.drew.grown hg4 (by simpa using B3.size) (fun k e => by have := own_ge hou k e; omega); have A4 := A3.drew.grown hg4 (ne_own hou (by omega)); have ln := range_sl (mg_nx A4 hkl); have hz4 := A4.lt; have hzz : wr.heap.size ≤ u4.heap.size := hg4.size
        refine hK.out _ _ trivial (fun hHeld => ?_)
        clear hK K
        try simp only [Act.put, List.setIfInBounds_toArray, List.set_cons_zero, List.set_cons_succ]
        refine wpAnyH_ready (rs := [6]) (by kernel_rfl) (by simp) ?_
        refine AllReadyH.cons (o := ⟨_, _, _, _, _, _⟩) rfl (fun K hK => ?_) AllReadyH.nil
        refine step_append_bytes rfl (.tmp 36) (.tmp 38) rfl (G + 1) _ (8 * 5 + 32) (cat (w13 m) 5 ++ m.ky) rfl hown4 (some ⟨w.heap.size, 37, none⟩) 32 32 m.nx rfl hnl.symm (fun h => by cases h) ln (by omega) (by first | omega | (show G + 1 ≤ wr.heap.size; omega)) ?_; intro v5 u5 hown5 hg5; have B5 := B4.grown hg5 B4.size (fun k e => by have := own_ge hown4 k e; omega)
        refine hK.out _ _ trivial (fun hHeld => ?_)
        clear hK K
        try simp only [Act.put, List.setIfInBounds_toArray, List.set_cons_zero, List.set_cons_succ]
        refine wpAnyH_take (i := 7) (oi := ⟨_, _, _, _, _, _⟩) (v := ?_) rfl (by kernel_rfl) (by kernel_rfl) (by kernel_rfl) (fun _ _ _ h => h) (Or.inl ⟨by rfl, ?_⟩) (by assumption) ?_
        rotate_left
        · intro u hSw
          go_simp
          try (with_reducible rfl)
        try simp only [Act.put, List.setIfInBounds_toArray, List.set_cons_zero, List.set_cons_succ]
        refine wpAnyH_take (i := 8) (oi := ⟨_, _, _, _, _, _⟩) (v := ?_) rfl (by kernel_rfl) (by kernel_rfl) (by kernel_rfl) (fun _ _ _ h => h) (Or.inl ⟨by rfl, ?_⟩) (by assumption) ?_
        rotate_left
        · intro u hSw
          go_simp
          try (with_reducible rfl)
        try simp only [Act.put, List.setIfInBounds_toArray, List.set_cons_zero, List.set_cons_succ]
        refine wpAnyH_done (by kernel_rfl) ?_ _
        go_wp2_with fail
        go_ret2
        exact WPost.yes hm hmay (by rw [← hcat.out]; exact hown5) B5
end Go.Proofs.Ytbhhbkoikocjgaa
/- Layer spec: what the layers below give. -/
namespace Go.Proofs.Ytbhhbkoikocjgaa
set_option linter.unusedSectionVars false
set_option maxHeartbeats 1000000
open Go.ChangeAt Go.ChangeShapes Go.RowKit Go.WideShapes
set_option maxRecDepth 100000
set_option linter.unusedVariables false
set_option linter.unusedSimpArgs false

variable [DecidableEq Ac] [DecidableEq Ou] [DecidableEq Mg]
theorem bs_open {W : World} {sp : Option Addr} {n cap : Nat} {L : List Int} (hn : n = L.length) (hnil : sp = none → n = 0 ∧ cap = 0) (hS : SlL W sp L) (hc : n ≤ cap) (hb : cap ≤ 140737488351232) (hw : ∀ x ∈ L, (Lit.int .u8 x).wf = true) : BS W.heap.size W sp n cap L :=
  ⟨Hid.mk' hn, hnil, hc, by omega, by omega, fun h0 => by
    obtain ⟨b, off, e, hB⟩ := hS (by omega)
    exact ⟨b, off, e, block_lt_of_cell (hB 0 (by omega)), by rw [hn]; exact hB⟩, bts_wf hw⟩
end Go.Proofs.Ytbhhbkoikocjgaa
/- Layer spec: what two deposits bring. -/
namespace Go.Proofs.Ytbhhbkoikocjgaa
set_option linter.unusedSectionVars false
set_option maxHeartbeats 1000000
open Go.RowKit Go.Shelf
set_option maxRecDepth 100000
set_option linter.unusedVariables false
set_option linter.unusedSimpArgs false


variable [DecidableEq Ac] [DecidableEq Ou] [DecidableEq Mg]
def m5 : Mg := ⟨1, 0, 0, 5, 0, Z32, Z32⟩
def m6 : Mg := ⟨1, 0, 1, 6, 0, Z32, Z32⟩
theorem Z32_b : Bts Z32 := Z32_bts
theorem m5_ok : MgOK m5 := ⟨by decide, by decide, by decide, by decide, by decide, by decide, by decide, by decide, by decide, by decide, rfl, Z32_bts, rfl, Z32_bts⟩
theorem m6_ok : MgOK m6 := ⟨by decide, by decide, by decide, by decide, by decide, by decide, by decide, by decide, by decide, by decide, rfl, Z32_bts, rfl, Z32_bts⟩
theorem anchI : (yR zs [] [wb m5, [], wb m6] 3).I = 11 := by kernel_rfl
theorem anchU : (yR zs [] [wb m5, [], wb m6] 3).U = 0 := by kernel_rfl
theorem anchE : xE zs [] = 0 := by kernel_rfl
theorem bm5 : Try.prog.built 95 [(0, .int .u8 1), (3, .int .u64 5)] = some m5.arr := by kernel_rfl
theorem bm6 : Try.prog.built 95 [(0, .int .u8 1), (2, .int .u64 1), (3, .int .u64 6)] = some m6.arr := by kernel_rfl
theorem m5_may : m5.may = true := by kernel_rfl
theorem m6_may : m6.may = true := by kernel_rfl
set_option maxHeartbeats 1000000 in
theorem anchored_any (w : World) : Calls Try.prog 15 #[] w fun r w' => r = .returned (.bool true) ∧ Below w.heap.size w w' := by
  have hb5 := bm5
  have hb6 := bm6
  have hbz := built30z
  have W5 := Hid.mk' (fun u => refWrite_any m5 u m5_ok)
  have W6 := Hid.mk' (fun u => refWrite_any m6 u m6_ok)
  have hM5 := m5_may
  have hM6 := m6_may
  unfold WPost at W5 W6
  rw [hM5] at W5
  rw [hM6] at W6
  have hI := Hid.mk' anchI
  have hU := Hid.mk' anchU
  have hE := Hid.mk' anchE
  generalize m5.arr = a5 at *
  generalize m6.arr = a6 at *
  generalize wb m5 = L5 at *
  generalize wb m6 = L6 at *
  clear hM5 hM6
  go_enter Try.func15, Try.ntmps15
  go_upto_region 3 with (first
    | (refine atB 95 ?_; refine bdT (by rfl) 95 #[(0, .const (.int .u8 1)), (3, .const (.int .u64 5))] (by rfl) (by rfl) hb5 ?_)
    | (refine atB 95 ?_; refine bdT (by rfl) 95 #[(0, .const (.int .u8 1)), (2, .const (.int .u64 1)), (3, .const (.int .u64 6))] (by rfl) (by rfl) hb6 ?_)
    | (go_at_call 37; have hz := W5; clear W5; go_must (refine (hz.out _).mono ?_; rintro r w1 ⟨s1, n1, c1, rfl, S1, b1⟩))
    | (go_at_call 37; go_must (refine (W6.out _).mono ?_; rintro r w2 ⟨s2, n2, c2, rfl, S2, b2⟩)))
  have S12 := (S1.below b2).mono b2.size
  have B2 := b1.trans (b2.mono b1.size)
  have bL := alloc_bel' w2 (.cells #[.slice s1 n1 c1, .slice none 0 0, .slice s2 n2 c2] 63)
  have AL := Arr.new w2 63 #[.slice s1 n1 c1, .slice none 0 0, .slice s2 n2 c2]
  have hBL : BL (w2.alloc (.cells #[.slice s1 n1 c1, .slice none 0 0, .slice s2 n2 c2] 63)).heap.size (w2.alloc (.cells #[.slice s1 n1 c1, .slice none 0 0, .slice s2 n2 c2] 63)) (some ⟨w2.heap.size, 0, none⟩) 3 3 [⟨s1, n1, c1, L5⟩, ⟨none, 0, 0, []⟩, ⟨s2, n2, c2, L6⟩] := by
    refine ⟨Hid.mk' rfl, (fun h => by cases h), by omega, by omega, by omega, fun _ => ⟨_, _, rfl, AL.lt, fun i e he => ?_⟩, fun e he => ?_⟩
    · rw [Nat.zero_add, AL.cell]
      match i, he with
      | 0, he => simp at he; subst he; rfl
      | 1, he => simp at he; subst he; rfl
      | 2, he => simp at he; subst he; rfl
    · simp only [List.mem_cons, List.mem_nil_iff, or_false] at he
      rcases he with rfl | rfl | rfl
      · exact (S12.below bL).mono bL.size
      · exact BS.nil0 _ _
      · exact (S2.below bL).mono bL.size
  have hfl := flow_any zs _ none 0 0 [] (some ⟨w2.heap.size, 0, none⟩) 3 3 _ _ (w2.alloc (.cells #[.slice s1 n1 c1, .slice none 0 0, .slice s2 n2 c2] 63)) (zsSS _) hBL (Nat.le_refl _)
  have e3 : bzs [⟨s1, n1, c1, L5⟩, ⟨none, 0, 0, []⟩, ⟨s2, n2, c2, L6⟩] = [L5, [], L6] := rfl
  rw [e3, hI.out, hU.out, hE.out] at hfl
  have B3 := B2.trans (bL.mono B2.size)
  clear e3 hBL AL S12 S1 S2
  generalize stA zs none 0 0 = Z at *
  go_wp2_with (first
    | (refine atB 30 ?_; refine bdT (by rfl) 30 #[] (by rfl) (by rfl) hbz ?_)
    | (go_at_call 13; go_must (refine hfl.mono ?_; rintro r w3 ⟨rfl, b3⟩)))
  go_ret
  exact ⟨rfl, B3.trans (b3.mono B3.size)⟩
end Go.Proofs.Ytbhhbkoikocjgaa
/- Layer spec: the law SpecRoots. -/
namespace Go.Proofs.Ytbhhbkoikocjgaa
set_option linter.unusedSectionVars false
set_option maxHeartbeats 1000000
open Go.RowKit Go.Shelf
set_option maxRecDepth 100000
set_option linter.unusedVariables false
set_option linter.unusedSimpArgs false


variable [DecidableEq Ac] [DecidableEq Ou] [DecidableEq Mg]
theorem run_neqX {X : List Int} (hX : X.length = 32) (w : World) : (Op.equalIn 10000 24 (.agg (h8 X)) (.agg (h8 X))).run Try.prog w = .ok true w := by
  rw [run_eqIn24 hX hX]
  simp

/-- A sum of a row of one's own. -/
theorem row_sum {w : World} {base k c j : Nat} {s : Option Addr} {hs : List (List Int)} (h : w.ownsRow base 24 32 (.slice s k c) k (flat32 hs)) (h32 : ∀ X ∈ hs, X.length = 32) (hj : j < k) (hk : k = hs.length) : ∃ g X, s = some ⟨g, 0, none⟩ ∧ k ≤ c ∧ g < w.heap.size ∧ hs[j]? = some X ∧ w.rangeAt g (j * 32) (by8 X) := by
  have h0 := h
  obtain ⟨hl, ⟨-, q⟩ | ⟨g', cap', cur, q, hg, hh, hn, -⟩⟩ := h
  · omega
  · simp at q
    obtain ⟨rfl, rfl⟩ := q
    have hx : hs[j]? = some hs[j] := List.getElem?_eq_getElem (by omega)
    refine ⟨g', hs[j], rfl, hn, (Array.getElem?_eq_some_iff.1 hh).1, hx, fun t v hv => ?_⟩
    have hc := h0.cells (g := g') rfl (j * 32 + t) v (flat32_at h32 hx hv)
    rwa [Addr.add_mid, Nat.zero_add] at hc
set_option maxHeartbeats 4000000 in
theorem roots_walk (ps : List Ac) (sp : Option Addr) (n cap : Nat) (os : List Ou) (sl : Option Addr) (nl cl : Nat) (es : List Bz) (w : World) (hS : SS w.heap.size w ps sp n cap os) (hL : BL w.heap.size w sl nl cl es) :
    Calls Try.prog 4 #[.agg (stA ps sp n cap), .slice sl nl cl] w fun e w' => e = .returned (.bool true) ∧ Below w.heap.size w w' := by
  have h1 := hS.a32.out
  have h2 := hS.l32
  have A0 := Arr.new w 30 (stA ps sp n cap)
  have B0 := alloc_bel' w (.cells (stA ps sp n cap) 30)
  have hR16 := Hid.mk' (fun u (hb : Below w.heap.size w u) => roots_any ps w.heap.size sp n cap os sl nl cl w.heap.size es u (hS.below hb) (hL.below hb) hb.size)
  have hR17 := Hid.mk' (fun u (hb : Below w.heap.size w u) => refRoots_any ps w.heap.size sp n cap os sl nl cl w.heap.size es u (hS.below hb) (hL.below hb) hb.size)
  unfold RootsPost at hR16 hR17
  have h32 := Hid.mk' (zR_32 ps os (bzs es) nl)
  have hle : Hid ((zR ps os (bzs es) nl).length ≤ 9000000000000000000) := Hid.mk' (by
    have := hL.small
    unfold zR
    split
    · rw [rts_len]; omega
    · simp)
  generalize zR ps os (bzs es) nl = hs at *
  generalize xE ps os = e1 at *
  have hee : (e1 == e1) = true := by simp
  have hee2 : (e1 != e1) = false := by simp
  go_enter Try.func4, Try.ntmps4
  go_upto_region 2 with (first
    | (refine atL 30 (.tmp 2) ?_; refine ld30 (by rfl) _ (by rfl) w.heap.size 30 (by rfl) ps sp n cap h1 h2 A0 ?_)
    | (go_at_call 16; go_must (refine (hR16.out _ B0).mono ?_; rintro r w1 ⟨s1, k, c1, rfl, hk1, row1, hb1⟩)))
  have A1 := A0.below hb1 A0.lt
  have B1 := B0.trans (hb1.mono B0.size)
  replace row1 := own_mono row1 B0.size
  clear hb1 A0 B0 hR16
  go_upto_region 3 with (first
    | (refine atL 30 (.tmp 2) ?_; refine ld30 (by rfl) _ (by rfl) w.heap.size 30 (by rfl) ps sp n cap h1 h2 A1 ?_)
    | (go_at_call 17; go_must (refine (hR17.out _ B1).mono ?_; rintro r w2 ⟨s2, k2, c2, rfl, hk2, row2, hb2⟩; obtain rfl : k2 = k := by rw [hk2.out, hk1.out])))
  have B2 := B1.trans (hb2.mono B1.size)
  have rowA := own_same row1 (fun b hb => hb2.block b (own_lt row1 hb))
  replace row2 := own_mono row2 B1.size
  have hkI : (k2 : Int) ≤ 9000000000000000000 := by have := hle.out; rw [← hk1.out] at this; omega
  clear hb2 A1 B1 hR17 row1 hle
  go_upto_region 6 with fail
  go_loopw [9] (fun d wr => ∃ j : Nat, d = .int .i64 (j : Int) ∧ j ≤ k2 ∧ Below w2.heap.size w2 wr) (fun d _ => k2 - (intOf d).toNat)
  case atStart => exact ⟨0, rfl, by omega, Below.refl _ _⟩
  case round =>
    obtain ⟨j, rfl, hj, hbr⟩ := hrel
    by_cases hlt : j < k2
    · have hI : (j : Int) < k2 := by omega
      obtain ⟨g1, X, rfl, hc1, hg1, hD1, hr1⟩ := row_sum rowA h32.out hlt hk1.out
      obtain ⟨g2, Y, rfl, hc2, hg2, hD2, hr2⟩ := row_sum row2 h32.out hlt hk1.out
      obtain rfl : X = Y := by rw [hD1] at hD2; exact Option.some.inj hD2
      have hX := h32.out X (List.mem_of_getElem? hD1)
      have hq := Hid.mk' (fun u => run_neqX hX u)
      replace hD1 := Hid.mk' hD1
      replace hD2 := Hid.mk' hD2
      go_upto_region 8 with fail
      refine wp_region_held_drew (S := fun u => Below w2.heap.size w2 u) (by kernel_rfl) (hbr.drew) (fun hHeld => ?_)
      refine wpAnyH_take (i := 0) (oi := ⟨_, _, _, _, _, _⟩) (v := ?_) rfl (by kernel_rfl) (by kernel_rfl) (by kernel_rfl) (fun _ _ _ h => h) (Or.inl ⟨by rfl, ?_⟩) (by assumption) ?_
      rotate_left
      · intro u hSw
        go_simp
        try (with_reducible rfl)
      try simp only [Act.put, List.setIfInBounds_toArray, List.set_cons_zero, List.set_cons_succ]
      refine wpAnyH_take (i := 1) (oi := ⟨_, _, _, _, _, _⟩) (v := ?_) rfl (by kernel_rfl) (by kernel_rfl) (by kernel_rfl) (fun _ _ _ h => h) (Or.inl ⟨by rfl, ?_⟩) (by assumption) ?_
      rotate_left
      · intro u hSw
        go_simp
        try (with_reducible rfl)
      try simp only [Act.put, List.setIfInBounds_toArray, List.set_cons_zero, List.set_cons_succ]
      refine wpAnyH_take (i := 2) (oi := ⟨_, _, _, _, _, _⟩) (v := ?_) rfl (by kernel_rfl) (by kernel_rfl) (by kernel_rfl) (fun _ _ _ h => h) (Or.inl ⟨by rfl, ?_⟩) (by assumption) ?_
      rotate_left
      · intro u hSw
        go_simp
        try (with_reducible rfl)
      try simp only [Act.put, List.setIfInBounds_toArray, List.set_cons_zero, List.set_cons_succ]
      refine wpAnyH_take (i := 3) (oi := ⟨_, _, _, _, _, _⟩) rfl (by kernel_rfl) (by kernel_rfl) (by kernel_rfl) (fun _ _ _ h => h) (y24 (by rfl) (.tmp 40) rfl g1 (j * 32) rfl X hX (fun u hu => range_below hr1 hu hg1)) (by assumption) ?_
      try simp only [Act.put, List.setIfInBounds_toArray, List.set_cons_zero, List.set_cons_succ]
      refine wpAnyH_take (i := 4) (oi := ⟨_, _, _, _, _, _⟩) (v := ?_) rfl (by kernel_rfl) (by kernel_rfl) (by kernel_rfl) (fun _ _ _ h => h) (Or.inl ⟨by rfl, ?_⟩) (by assumption) ?_
      rotate_left
      · intro u hSw
        go_simp
        try (with_reducible rfl)
      try simp only [Act.put, List.setIfInBounds_toArray, List.set_cons_zero, List.set_cons_succ]
      refine wpAnyH_take (i := 5) (oi := ⟨_, _, _, _, _, _⟩) (v := ?_) rfl (by kernel_rfl) (by kernel_rfl) (by kernel_rfl) (fun _ _ _ h => h) (Or.inl ⟨by rfl, ?_⟩) (by assumption) ?_
      rotate_left
      · intro u hSw
        go_simp
        try (with_reducible rfl)
      try simp only [Act.put, List.setIfInBounds_toArray, List.set_cons_zero, List.set_cons_succ]
      refine wpAnyH_take (i := 6) (oi := ⟨_, _, _, _, _, _⟩) (v := ?_) rfl (by kernel_rfl) (by kernel_rfl) (by kernel_rfl) (fun _ _ _ h => h) (Or.inl ⟨by rfl, ?_⟩) (by assumption) ?_
      rotate_left
      · intro u hSw
        go_simp
        try (with_reducible rfl)
      try simp only [Act.put, List.setIfInBounds_toArray, List.set_cons_zero, List.set_cons_succ]
      refine wpAnyH_take (i := 7) (oi := ⟨_, _, _, _, _, _⟩) rfl (by kernel_rfl) (by kernel_rfl) (by kernel_rfl) (fun _ _ _ h => h) (y24 (by rfl) (.tmp 44) rfl g2 (j * 32) rfl X hX (fun u hu => range_below hr2 hu hg2)) (by assumption) ?_
      try simp only [Act.put, List.setIfInBounds_toArray, List.set_cons_zero, List.set_cons_succ]
      refine wpAnyH_take (i := 8) (oi := ⟨_, _, _, _, _, _⟩) (v := ?_) rfl (by kernel_rfl) (by kernel_rfl) (by kernel_rfl) (fun _ _ _ h => h) (Or.inl ⟨by rfl, ?_⟩) (by assumption) ?_
      rotate_left
      · intro u hSw
        have hq8 := hq.out u
        go_simp
        try (with_reducible rfl)
      try simp only [Act.put, List.setIfInBounds_toArray, List.set_cons_zero, List.set_cons_succ]
      refine wpAnyH_done (by kernel_rfl) ?_ _
      go_wp2_with fail
      go_roundw
      case rel => exact ⟨j + 1, by go_num, by omega, hHeld⟩
      case measure => simp [intOf]; omega
    · obtain rfl : j = k2 := by omega
      have hI : ¬ (j : Int) < j := by omega
      have B3 := B2.trans (hbr.mono B2.size)
      go_wp2_with (first
        | (go_at_call 15; go_must (refine (anchored_any _).mono ?_; rintro r w9 ⟨rfl, hb9⟩; have B9 := B3.trans (hb9.mono B3.size))))
      go_ret
      exact ⟨rfl, B9⟩
end Go.Proofs.Ytbhhbkoikocjgaa
/- Layer spec: an input of three values; what came in. -/
namespace Go.Proofs.Ytbhhbkoikocjgaa
set_option linter.unusedSectionVars false
set_option maxHeartbeats 1000000
open Go.RowKit
set_option maxRecDepth 100000
set_option linter.unusedVariables false
set_option linter.unusedSimpArgs false


variable [DecidableEq Ac] [DecidableEq Ou] [DecidableEq Mg]
theorem okIn3 {P : Program} {w : World} {f : FuncId} {fn : Func} {t0 t1 t2 : TypeId} {v0 v1 v2 : Value} (hf : P.funcs[f]? = some fn) (hi : (P.inits.idxOf? f).isNone = true) (hb : (fn.body.isSome && !fn.ours && fn.nfree == 0) = true) (hp : fn.params = #[t0, t1, t2]) (h0 : Value.okWideB P w t0 v0 = true) (h1 : Value.okWideB P w t1 v1 = true) (h2 : Value.okWideB P w t2 v2 = true) : Input.okWideB P w f ⟨#[], #[v0, v1, v2], []⟩ = true := by
  unfold Input.okWideB
  simp only [hf, hp]
  rw [hi]
  simp only [Bool.and_eq_true] at hb
  simp [List.range_succ, h0, h1, h2, hb.1.1, hb.1.2, hb.2]
end Go.Proofs.Ytbhhbkoikocjgaa
/- Layer spec: what the layers below give. -/
namespace Go.Proofs.Ytbhhbkoikocjgaa
set_option linter.unusedSectionVars false
set_option maxHeartbeats 1000000
open Go.ChangeAt Go.ChangeShapes Go.RowKit Go.WideShapes
set_option maxRecDepth 100000
set_option linter.unusedVariables false
set_option linter.unusedSimpArgs false

variable [DecidableEq Ac] [DecidableEq Ou] [DecidableEq Mg]
theorem laidOut : laidOutB Try.prog = true := by kernel_rfl
section
variable {H : Type} {enc : TypeId × Value → H} {W : World} {base : Nat}
/-- AN ACCOUNT THAT CAME IN. -/
theorem open_acc {b0 : Nat} {v : Value} {d : DataW H} {p : List MemPlace}
    (hv : Value.okWide Try.prog W .any b0 26 v) (h : DataW.Trod enc Try.prog W base (fun _ => true) true 26 v d p) :
    ∃ a : Ac, v = .agg a.arr ∧ AcOK a := by
  unfold Value.okWide at hv
  rw [Try.underlying26] at hv
  obtain ⟨cs, rfl, hc, -⟩ := hv
  obtain ⟨fuel, hf⟩ := h
  obtain ⟨a, e, h⟩ := ac_of_trod _ _ _ hf
  refine ⟨a, ?_, h⟩
  congr 1
  apply Array.toList_inj.1
  exact e
end
end Go.Proofs.Ytbhhbkoikocjgaa
