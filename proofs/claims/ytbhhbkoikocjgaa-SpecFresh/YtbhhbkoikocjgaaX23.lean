/- Layer spec: what the layers below give. -/
import Derived.Test.YtbhhbkoikocjgaaX01
import Derived.Test.YtbhhbkoikocjgaaX02
import Derived.Test.YtbhhbkoikocjgaaX03
import Derived.Test.YtbhhbkoikocjgaaX04
import Derived.Test.YtbhhbkoikocjgaaX05
import Derived.Test.YtbhhbkoikocjgaaX08
import Derived.Test.YtbhhbkoikocjgaaX06
import Derived.Test.YtbhhbkoikocjgaaX07
import Derived.Test.YtbhhbkoikocjgaaX15
import Derived.Test.YtbhhbkoikocjgaaX12
import Derived.Test.YtbhhbkoikocjgaaX19
import Derived.Test.YtbhhbkoikocjgaaX20
import Derived.Test.YtbhhbkoikocjgaaX21
import Derived.Test.YtbhhbkoikocjgaaX22
import Derived.BigQuiet
import Derived.BigRegion
import Derived.ChangeKeysEq
import Derived.ChangeOld
import Derived.Deep.DeepCutAuto
import Derived.Deep.DrawnRows
import Derived.Deep.MidRow
import Derived.Deep.QuietTactic
import Derived.Deep.RegionHeld3
import Derived.Deep.RegionLaw
import Derived.Deep.RegionWith
import Derived.Deep.WholeRow
import Derived.Great.BuildSlice
import Derived.Great.FillDense
import Derived.JoinedTies
import Derived.KernelRfl
import Derived.Laws.AppendOwnNone
import Derived.Laws.BitsLemmas
import Derived.Laws.BytesArg
import Derived.Laws.CopyOwn
import Derived.Laws.CopyRow
import Derived.Laws.MakeOwn
import Derived.Laws.OwnMore
import Derived.Laws.ResultCell
import Derived.Laws.Tables
import Derived.Lib.AppendZeros
import Derived.Lib.SlBytesConst
import Derived.LoopIn
import Derived.LoopNIn
import Derived.Maps.AppendAt
import Derived.OpenShut
import Derived.OwnWalkIn
import Derived.ProofKit
import Derived.RangeFuncBound
import Derived.RangeFuncCalls
import Derived.RangeFuncLeaves
import Derived.RangeFuncNested
import Derived.RangeFuncRecord
import Derived.Shelf.Abstract
import Derived.Shelf.RegionOpen
import Derived.ShutString
import Derived.SizedLaws
import Derived.TacticsInMore
import Derived.WalkKit
import Derived.WalkLawsBesides
import Derived.WalkSpells
import GoSem.Claim
import GoSem.ClaimJoined
import GoSem.ClaimMapViews
namespace Go.Proofs.Ytbhhbkoikocjgaa
set_option linter.unusedSectionVars false
set_option maxHeartbeats 1000000
open Go.RowKit
set_option maxRecDepth 100000
set_option linter.unusedVariables false
set_option linter.unusedSimpArgs false

variable [DecidableEq Ac] [DecidableEq Ou] [DecidableEq Mg]
set_option maxHeartbeats 4000000 in
theorem refRead_any (sp : Option Addr) (n cap N : Nat) (L : List Int) (w : World) (hS : BS N w sp n cap L) : Calls Try.prog 47 #[.slice sp n cap] w (RPost L w) := by
  have R0 := Arr.new w 95 mg0.arr
  have hB0 := alloc_bel' w (.cells mg0.arr 95)
  have hS0 := (hS.here).below hB0
  have hbts := hS.bts
  have hlen := hS.len
  have z27 := zv27
  have hb0 := built27z
  have hsz0 := Mg.size mg0_ok
  go_enter Try.func47, Try.ntmps47
  by_cases hl : L.length = 104
  · have E := Hid.mk' (we_eq hl)
    have F := Hid.mk' (wv_yes hl)
    have hl := Hid.mk' hl
    go_upto_region 4 with (first
      | (go_at_call 66; go_must (refine (refWordsC hS0 E F).mono ?_; rintro e w1 ⟨rfl, hb1⟩; have R1 := R0.bel hb1; have B1 := hB0.trans (hb1.mono (by simp)); clear R0 hB0 hS0))
      | (refine atS 131 (.tmp 4) (.tmp 10) ?_; refine st41n (by rfl) (.tmp 4) (.tmp 10) (by rfl) w1 w1.heap.size rfl (by rfl) (u64s 13 (wd L)) (by rfl) (by rfl) (u64s_size _ _) (u64s_one _ _) ?_))
    have A2 := Arr.new w1 131 (u64s 13 (wd L))
    have R2 := R1.alloc (.cells (u64s 13 (wd L)) 131)
    have B2 := B1.alloc B1.size (.cells (u64s 13 (wd L)) 131)
    generalize hG : w1.heap.size = G at A2 ⊢
    have hRG : w.heap.size < G := by rw [← hG]; exact R1.lt
    generalize w1.alloc (.cells (u64s 13 (wd L)) 131) = V at A2 R2 B2 ⊢
    clear R1 B1 hb1 hG
    have hok := mgOf_ok hbts hl.out
    have hk32 : ((L.drop 40).take 32).length = 32 := by have := hl.out; simp [this]
    have hn32 : ((L.drop 72).take 32).length = 32 := by have := hl.out; simp [this]
    have FK : ∀ u : World, Calls Try.prog 67 #[.agg #[.int .u64 (wd L 5), .int .u64 (wd L 6), .int .u64 (wd L 7), .int .u64 (wd L 8)]] u fun e w' => e = .returned (.agg (h8 ((L.drop 40).take 32))) ∧ Below u.heap.size u w' := fun u => by
      have := refFrom_any #[.int .u64 (wd L 5), .int .u64 (wd L 6), .int .u64 (wd L 7), .int .u64 (wd L 8)] (fun j => wd L (5 + j)) u (fun t ht => by (match t, ht with | 0, _ => rfl | 1, _ => rfl | 2, _ => rfl | 3, _ => rfl))
      rw [from_key hbts hl.out (a := 5) (by omega)] at this
      exact this
    have FN : ∀ u : World, Calls Try.prog 67 #[.agg #[.int .u64 (wd L 9), .int .u64 (wd L 10), .int .u64 (wd L 11), .int .u64 (wd L 12)]] u fun e w' => e = .returned (.agg (h8 ((L.drop 72).take 32))) ∧ Below u.heap.size u w' := fun u => by
      have := refFrom_any #[.int .u64 (wd L 9), .int .u64 (wd L 10), .int .u64 (wd L 11), .int .u64 (wd L 12)] (fun j => wd L (9 + j)) u (fun t ht => by (match t, ht with | 0, _ => rfl | 1, _ => rfl | 2, _ => rfl | 3, _ => rfl))
      rw [from_key hbts hl.out (a := 9) (by omega)] at this
      exact this
    have hb27 := built27 (IntKind.u8.wrap (wd L 0)) (wd L 1) (wd L 2) (wd L 3) (wd L 4) _ _ hk32 hn32
    have hM : (⟨IntKind.u8.wrap (wd L 0), wd L 1, wd L 2, wd L 3, wd L 4, (L.drop 40).take 32, (L.drop 72).take 32⟩ : Mg) = mgOf L := by rw [wrap8]; rfl
    rw [hM] at hb27
    clear hM
    go_cut [6] (fun s wc => ∃ b, s = .pointer (some ⟨b, 0, none⟩) ∧ V.heap.size ≤ b ∧ Arr wc b 95 (mgOf L).arr ∧ Below V.heap.size V wc)
    case first =>
      refine wp_region_held_drew (S := fun u => Below V.heap.size V u) (by kernel_rfl) ((Below.refl _ _).drew) (fun hHeld => ?_)
      refine wpAnyH_take (i := 0) (oi := ⟨_, _, _, _, _, _⟩) (v := ?_) rfl (by kernel_rfl) (by kernel_rfl) (by kernel_rfl) (fun _ _ _ h => h) (Or.inl ⟨by rfl, ?_⟩) (by assumption) ?_
      rotate_left
      · intro u hSw
        go_simp
        try (with_reducible rfl)
      try simp only [Act.put, List.setIfInBounds_toArray, List.set_cons_zero, List.set_cons_succ]
      refine wpAnyH_take (i := 1) (oi := ⟨_, _, _, _, _, _⟩) (v := ?_) rfl (by kernel_rfl) (by kernel_rfl) (by kernel_rfl) (fun _ _ _ h => h) (Or.inl ⟨by rfl, ?_⟩) (by assumption) ?_
      rotate_left
      · intro u hSw
        have cc : u.cell? ⟨G, 0, none⟩ = some (.int .u64 (wd L 0)) := ((A2.below hSw A2.lt).cell 0).trans (u64s_get (by omega))
        go_simp
        try (with_reducible rfl)
      try simp only [Act.put, List.setIfInBounds_toArray, List.set_cons_zero, List.set_cons_succ]
      refine wpAnyH_take (i := 2) (oi := ⟨_, _, _, _, _, _⟩) (v := ?_) rfl (by kernel_rfl) (by kernel_rfl) (by kernel_rfl) (fun _ _ _ h => h) (Or.inl ⟨by rfl, ?_⟩) (by assumption) ?_
      rotate_left
      · intro u hSw
        go_simp
        try (with_reducible rfl)
      try simp only [Act.put, List.setIfInBounds_toArray, List.set_cons_zero, List.set_cons_succ]
      refine wpAnyH_take (i := 3) (oi := ⟨_, _, _, _, _, _⟩) (v := ?_) rfl (by kernel_rfl) (by kernel_rfl) (by kernel_rfl) (fun _ _ _ h => h) (Or.inl ⟨by rfl, ?_⟩) (by assumption) ?_
      rotate_left
      · intro u hSw
        go_simp
        try (with_reducible rfl)
      try simp only [Act.put, List.setIfInBounds_toArray, List.set_cons_zero, List.set_cons_succ]
      refine wpAnyH_take (i := 4) (oi := ⟨_, _, _, _, _, _⟩) (v := ?_) rfl (by kernel_rfl) (by kernel_rfl) (by kernel_rfl) (fun _ _ _ h => h) (Or.inl ⟨by rfl, ?_⟩) (by assumption) ?_
      rotate_left
      · intro u hSw
        have cc : u.cell? ⟨G, 1, none⟩ = some (.int .u64 (wd L 1)) := ((A2.below hSw A2.lt).cell 1).trans (u64s_get (by omega))
        go_simp
        try (with_reducible rfl)
      try simp only [Act.put, List.setIfInBounds_toArray, List.set_cons_zero, List.set_cons_succ]
      refine wpAnyH_take (i := 5) (oi := ⟨_, _, _, _, _, _⟩) (v := ?_) rfl (by kernel_rfl) (by kernel_rfl) (by kernel_rfl) (fun _ _ _ h => h) (Or.inl ⟨by rfl, ?_⟩) (by assumption) ?_
      rotate_left
      · intro u hSw
        go_simp
        try (with_reducible rfl)
      try simp only [Act.put, List.setIfInBounds_toArray, List.set_cons_zero, List.set_cons_succ]
      refine wpAnyH_take (i := 6) (oi := ⟨_, _, _, _, _, _⟩) (v := ?_) rfl (by kernel_rfl) (by kernel_rfl) (by kernel_rfl) (fun _ _ _ h => h) (Or.inl ⟨by rfl, ?_⟩) (by assumption) ?_
      rotate_left
      · intro u hSw
        have cc : u.cell? ⟨G, 2, none⟩ = some (.int .u64 (wd L 2)) := ((A2.below hSw A2.lt).cell 2).trans (u64s_get (by omega))
        go_simp
        try (with_reducible rfl)
      try simp only [Act.put, List.setIfInBounds_toArray, List.set_cons_zero, List.set_cons_succ]
      refine wpAnyH_take (i := 7) (oi := ⟨_, _, _, _, _, _⟩) (v := ?_) rfl (by kernel_rfl) (by kernel_rfl) (by kernel_rfl) (fun _ _ _ h => h) (Or.inl ⟨by rfl, ?_⟩) (by assumption) ?_
      rotate_left
      · intro u hSw
        go_simp
        try (with_reducible rfl)
      try simp only [Act.put, List.setIfInBounds_toArray, List.set_cons_zero, List.set_cons_succ]
      refine wpAnyH_take (i := 8) (oi := ⟨_, _, _, _, _, _⟩) (v := ?_) rfl (by kernel_rfl) (by kernel_rfl) (by kernel_rfl) (fun _ _ _ h => h) (Or.inl ⟨by rfl, ?_⟩) (by assumption) ?_
      rotate_left
      · intro u hSw
        have cc : u.cell? ⟨G, 3, none⟩ = some (.int .u64 (wd L 3)) := ((A2.below hSw A2.lt).cell 3).trans (u64s_get (by omega))
        go_simp
        try (with_reducible rfl)
      try simp only [Act.put, List.setIfInBounds_toArray, List.set_cons_zero, List.set_cons_succ]
      refine wpAnyH_take (i := 9) (oi := ⟨_, _, _, _, _, _⟩) (v := ?_) rfl (by kernel_rfl) (by kernel_rfl) (by kernel_rfl) (fun _ _ _ h => h) (Or.inl ⟨by rfl, ?_⟩) (by assumption) ?_
      rotate_left
      · intro u hSw
        go_simp
        try (with_reducible rfl)
      try simp only [Act.put, List.setIfInBounds_toArray, List.set_cons_zero, List.set_cons_succ]
      refine wpAnyH_take (i := 10) (oi := ⟨_, _, _, _, _, _⟩) (v := ?_) rfl (by kernel_rfl) (by kernel_rfl) (by kernel_rfl) (fun _ _ _ h => h) (Or.inl ⟨by rfl, ?_⟩) (by assumption) ?_
      rotate_left
      · intro u hSw
        have cc : u.cell? ⟨G, 4, none⟩ = some (.int .u64 (wd L 4)) := ((A2.below hSw A2.lt).cell 4).trans (u64s_get (by omega))
        go_simp
        try (with_reducible rfl)
      try simp only [Act.put, List.setIfInBounds_toArray, List.set_cons_zero, List.set_cons_succ]
      refine wpAnyH_take (i := 11) (oi := ⟨_, _, _, _, _, _⟩) (v := ?_) rfl (by kernel_rfl) (by kernel_rfl) (by kernel_rfl) (fun _ _ _ h => h) (Or.inl ⟨by rfl, ?_⟩) (by assumption) ?_
      rotate_left
      · intro u hSw
        go_simp
        try (with_reducible rfl)
      try simp only [Act.put, List.setIfInBounds_toArray, List.set_cons_zero, List.set_cons_succ]
      refine wpAnyH_take (i := 12) (oi := ⟨_, _, _, _, _, _⟩) (v := ?_) rfl (by kernel_rfl) (by kernel_rfl) (by kernel_rfl) (fun _ _ _ h => h) (Or.inl ⟨by rfl, ?_⟩) (by assumption) ?_
      rotate_left
      · intro u hSw
        have cc : u.cell? ⟨G, 5, none⟩ = some (.int .u64 (wd L 5)) := ((A2.below hSw A2.lt).cell 5).trans (u64s_get (by omega))
        go_simp
        try (with_reducible rfl)
      try simp only [Act.put, List.setIfInBounds_toArray, List.set_cons_zero, List.set_cons_succ]
      refine wpAnyH_take (i := 13) (oi := ⟨_, _, _, _, _, _⟩) (v := ?_) rfl (by kernel_rfl) (by kernel_rfl) (by kernel_rfl) (fun _ _ _ h => h) (Or.inl ⟨by rfl, ?_⟩) (by assumption) ?_
      rotate_left
      · intro u hSw
        go_simp
        try (with_reducible rfl)
      try simp only [Act.put, List.setIfInBounds_toArray, List.set_cons_zero, List.set_cons_succ]
      refine wpAnyH_take (i := 14) (oi := ⟨_, _, _, _, _, _⟩) (v := ?_) rfl (by kernel_rfl) (by kernel_rfl) (by kernel_rfl) (fun _ _ _ h => h) (Or.inl ⟨by rfl, ?_⟩) (by assumption) ?_
      rotate_left
      · intro u hSw
        have cc : u.cell? ⟨G, 6, none⟩ = some (.int .u64 (wd L 6)) := ((A2.below hSw A2.lt).cell 6).trans (u64s_get (by omega))
        go_simp
        try (with_reducible rfl)
      try simp only [Act.put, List.setIfInBounds_toArray, List.set_cons_zero, List.set_cons_succ]
      refine wpAnyH_take (i := 15) (oi := ⟨_, _, _, _, _, _⟩) (v := ?_) rfl (by kernel_rfl) (by kernel_rfl) (by kernel_rfl) (fun _ _ _ h => h) (Or.inl ⟨by rfl, ?_⟩) (by assumption) ?_
      rotate_left
      · intro u hSw
        go_simp
        try (with_reducible rfl)
      try simp only [Act.put, List.setIfInBounds_toArray, List.set_cons_zero, List.set_cons_succ]
      refine wpAnyH_take (i := 16) (oi := ⟨_, _, _, _, _, _⟩) (v := ?_) rfl (by kernel_rfl) (by kernel_rfl) (by kernel_rfl) (fun _ _ _ h => h) (Or.inl ⟨by rfl, ?_⟩) (by assumption) ?_
      rotate_left
      · intro u hSw
        have cc : u.cell? ⟨G, 7, none⟩ = some (.int .u64 (wd L 7)) := ((A2.below hSw A2.lt).cell 7).trans (u64s_get (by omega))
        go_simp
        try (with_reducible rfl)
      try simp only [Act.put, List.setIfInBounds_toArray, List.set_cons_zero, List.set_cons_succ]
      refine wpAnyH_take (i := 17) (oi := ⟨_, _, _, _, _, _⟩) (v := ?_) rfl (by kernel_rfl) (by kernel_rfl) (by kernel_rfl) (fun _ _ _ h => h) (Or.inl ⟨by rfl, ?_⟩) (by assumption) ?_
      rotate_left
      · intro u hSw
        go_simp
        try (with_reducible rfl)
      try simp only [Act.put, List.setIfInBounds_toArray, List.set_cons_zero, List.set_cons_succ]
      refine wpAnyH_take (i := 18) (oi := ⟨_, _, _, _, _, _⟩) (v := ?_) rfl (by kernel_rfl) (by kernel_rfl) (by kernel_rfl) (fun _ _ _ h => h) (Or.inl ⟨by rfl, ?_⟩) (by assumption) ?_
      rotate_left
      · intro u hSw
        have cc : u.cell? ⟨G, 8, none⟩ = some (.int .u64 (wd L 8)) := ((A2.below hSw A2.lt).cell 8).trans (u64s_get (by omega))
        go_simp
        try (with_reducible rfl)
      try simp only [Act.put, List.setIfInBounds_toArray, List.set_cons_zero, List.set_cons_succ]
      refine wpAnyH_take (i := 19) (oi := ⟨_, _, _, _, _, _⟩) rfl (by kernel_rfl) (by kernel_rfl) (by kernel_rfl) (fun _ _ _ h => h) (y_bd (by rfl) 135 _ rfl (by rfl) (built54 (wd L 5) (wd L 6) (wd L 7) (wd L 8))) (by assumption) ?_
      try simp only [Act.put, List.setIfInBounds_toArray, List.set_cons_zero, List.set_cons_succ]
      refine wpAnyH_take (i := 21) (oi := ⟨_, _, _, _, _, _⟩) (v := ?_) rfl (by kernel_rfl) (by kernel_rfl) (by kernel_rfl) (fun _ _ _ h => h) (Or.inl ⟨by rfl, ?_⟩) (by assumption) ?_
      rotate_left
      · intro u hSw
        go_simp
        try (with_reducible rfl)
      try simp only [Act.put, List.setIfInBounds_toArray, List.set_cons_zero, List.set_cons_succ]
      refine wpAnyH_take (i := 22) (oi := ⟨_, _, _, _, _, _⟩) (v := ?_) rfl (by kernel_rfl) (by kernel_rfl) (by kernel_rfl) (fun _ _ _ h => h) (Or.inl ⟨by rfl, ?_⟩) (by assumption) ?_
      rotate_left
      · intro u hSw
        have cc : u.cell? ⟨G, 9, none⟩ = some (.int .u64 (wd L 9)) := ((A2.below hSw A2.lt).cell 9).trans (u64s_get (by omega))
        go_simp
        try (with_reducible rfl)
      try simp only [Act.put, List.setIfInBounds_toArray, List.set_cons_zero, List.set_cons_succ]
      refine wpAnyH_take (i := 23) (oi := ⟨_, _, _, _, _, _⟩) (v := ?_) rfl (by kernel_rfl) (by kernel_rfl) (by kernel_rfl) (fun _ _ _ h => h) (Or.inl ⟨by rfl, ?_⟩) (by assumption) ?_
      rotate_left
      · intro u hSw
        go_simp
        try (with_reducible rfl)
      try simp only [Act.put, List.setIfInBounds_toArray, List.set_cons_zero, List.set_cons_succ]
      refine wpAnyH_take (i := 24) (oi := ⟨_, _, _, _, _, _⟩) (v := ?_) rfl (by kernel_rfl) (by kernel_rfl) (by kernel_rfl) (fun _ _ _ h => h) (Or.inl ⟨by rfl, ?_⟩) (by assumption) ?_
      rotate_left
      · intro u hSw
        have cc : u.cell? ⟨G, 10, none⟩ = some (.int .u64 (wd L 10)) := ((A2.below hSw A2.lt).cell 10).trans (u64s_get (by omega))
        go_simp
        try (with_reducible rfl)
      try simp only [Act.put, List.setIfInBounds_toArray, List.set_cons_zero, List.set_cons_succ]
      refine wpAnyH_take (i := 25) (oi := ⟨_, _, _, _, _, _⟩) (v := ?_) rfl (by kernel_rfl) (by kernel_rfl) (by kernel_rfl) (fun _ _ _ h => h) (Or.inl ⟨by rfl, ?_⟩) (by assumption) ?_
      rotate_left
      · intro u hSw
        go_simp
        try (with_reducible rfl)
      try simp only [Act.put, List.setIfInBounds_toArray, List.set_cons_zero, List.set_cons_succ]
      refine wpAnyH_take (i := 26) (oi := ⟨_, _, _, _, _, _⟩) (v := ?_) rfl (by kernel_rfl) (by kernel_rfl) (by kernel_rfl) (fun _ _ _ h => h) (Or.inl ⟨by rfl, ?_⟩) (by assumption) ?_
      rotate_left
      · intro u hSw
        have cc : u.cell? ⟨G, 11, none⟩ = some (.int .u64 (wd L 11)) := ((A2.below hSw A2.lt).cell 11).trans (u64s_get (by omega))
        go_simp
        try (with_reducible rfl)
      try simp only [Act.put, List.setIfInBounds_toArray, List.set_cons_zero, List.set_cons_succ]
      refine wpAnyH_take (i := 27) (oi := ⟨_, _, _, _, _, _⟩) (v := ?_) rfl (by kernel_rfl) (by kernel_rfl) (by kernel_rfl) (fun _ _ _ h => h) (Or.inl ⟨by rfl, ?_⟩) (by assumption) ?_
      rotate_left
      · intro u hSw
        go_simp
        try (with_reducible rfl)
      try simp only [Act.put, List.setIfInBounds_toArray, List.set_cons_zero, List.set_cons_succ]
      refine wpAnyH_take (i := 28) (oi := ⟨_, _, _, _, _, _⟩) (v := ?_) rfl (by kernel_rfl) (by kernel_rfl) (by kernel_rfl) (fun _ _ _ h => h) (Or.inl ⟨by rfl, ?_⟩) (by assumption) ?_
      rotate_left
      · intro u hSw
        have cc : u.cell? ⟨G, 12, none⟩ = some (.int .u64 (wd L 12)) := ((A2.below hSw A2.lt).cell 12).trans (u64s_get (by omega))
        go_simp
        try (with_reducible rfl)
      try simp only [Act.put, List.setIfInBounds_toArray, List.set_cons_zero, List.set_cons_succ]
      refine wpAnyH_take (i := 29) (oi := ⟨_, _, _, _, _, _⟩) rfl (by kernel_rfl) (by kernel_rfl) (by kernel_rfl) (fun _ _ _ h => h) (y_bd (by rfl) 135 _ rfl (by rfl) (built54 (wd L 9) (wd L 10) (wd L 11) (wd L 12))) (by assumption) ?_
      try simp only [Act.put, List.setIfInBounds_toArray, List.set_cons_zero, List.set_cons_succ]
      have H0 : Below V.heap.size V V.drew := (Below.refl _ _).drew
      refine wpAnyH_ready (rs := [20, 32]) (by kernel_rfl) (by simp) ?_
      refine AllReadyH.cons (o := ⟨_, _, _, _, _, _⟩) rfl (fun K hK => ?_) (AllReadyH.cons (o := ⟨_, _, _, _, _, _⟩) rfl (fun K hK => ?_) (AllReadyH.nil))
      · go_simp
        refine (FK _).mono ?_; rintro e u1 ⟨rfl, hb1⟩
        have H1 := H0.trans (hb1.mono H0.size)
        go_wp2_with fail
        refine hK.out _ _ H1 (fun hHeld => ?_)
        clear hK K
        try simp only [Act.put, List.setIfInBounds_toArray, List.set_cons_zero, List.set_cons_succ]
        refine wpAnyH_ready (rs := [30, 32]) (by kernel_rfl) (by simp) ?_
        refine AllReadyH.cons (o := ⟨_, _, _, _, _, _⟩) rfl (fun K hK => ?_) (AllReadyH.cons (o := ⟨_, _, _, _, _, _⟩) rfl (fun K hK => ?_) (AllReadyH.nil))
        · go_simp
          refine (FN _).mono ?_; rintro e u2 ⟨rfl, hb2⟩
          have H2 := H1.trans (hb2.mono H1.size)
          go_wp2_with fail
          refine hK.out _ _ H2 (fun hHeld => ?_)
          clear hK K
          try simp only [Act.put, List.setIfInBounds_toArray, List.set_cons_zero, List.set_cons_succ]
          refine wpAnyH_take (i := 31) (oi := ⟨_, _, _, _, _, _⟩) rfl (by kernel_rfl) (by kernel_rfl) (by kernel_rfl) (fun _ _ _ h => h) (y_bd (by rfl) 95 _ rfl (by rfl) hb27) (by assumption) ?_
          try simp only [Act.put, List.setIfInBounds_toArray, List.set_cons_zero, List.set_cons_succ]
          refine wpAnyH_ready (rs := [32]) (by kernel_rfl) (by simp) ?_
          refine AllReadyH.cons (o := ⟨_, _, _, _, _, _⟩) rfl (fun K hK => ?_) (AllReadyH.nil)
          · go_simp
            go_wp2_with fail
            have H3 := H2.alloc H2.size (.cells mg0.arr 95)
            have hs3 : u2.heap.size = u2.heap.size := by simp
            have le4 : V.heap.size ≤ u2.heap.size := by rw [← hs3]; exact H2.size
            have h_3 : Arr (u2.alloc (.cells mg0.arr 95)) (u2.heap.size) 95 mg0.arr := by have q := Arr.new u2 95 mg0.arr; rw [hs3] at q; exact q
            refine hK.out _ _ H3 (fun hHeld => ?_)
            clear hK K
            try simp only [Act.put, List.setIfInBounds_toArray, List.set_cons_zero, List.set_cons_succ]
            refine wpAnyH_ready (rs := [33]) (by kernel_rfl) (by simp) ?_
            refine AllReadyH.cons (o := ⟨_, _, _, _, _, _⟩) rfl (fun K hK => ?_) AllReadyH.nil
            refine step_want rfl (wp_store_row 95 (.tmp 6) (.tmp 47) rfl (u2.heap.size) (mgOf L).arr rfl rfl 95 _ h_3 (s27 hok) (by rw [Mg.size hok, hsz0]) (Mg.oneA _) ?_)
            have HS := below_setRow H3 le4 (mgOf L).arr
            have hs := Arr.setRow h_3 (mgOf L).arr
            refine hK.out _ _ HS (fun hHeld => ?_)
            clear hK K
            try simp only [Act.put, List.setIfInBounds_toArray, List.set_cons_zero, List.set_cons_succ]
            refine wpAnyH_done (by kernel_rfl) ?_ _
            go_wp2_with fail
            go_meet
            exact ⟨_, rfl, le4, hs, HS⟩
        · go_simp
          go_wp2_with fail
          have H2 := H1.alloc H1.size (.cells mg0.arr 95)
          have hs2 : u1.heap.size = u1.heap.size := by simp
          have le4 : V.heap.size ≤ u1.heap.size := by rw [← hs2]; exact H1.size
          have h_2 : Arr (u1.alloc (.cells mg0.arr 95)) (u1.heap.size) 95 mg0.arr := by have q := Arr.new u1 95 mg0.arr; rw [hs2] at q; exact q
          refine hK.out _ _ H2 (fun hHeld => ?_)
          clear hK K
          try simp only [Act.put, List.setIfInBounds_toArray, List.set_cons_zero, List.set_cons_succ]
          refine wpAnyH_ready (rs := [30]) (by kernel_rfl) (by simp) ?_
          refine AllReadyH.cons (o := ⟨_, _, _, _, _, _⟩) rfl (fun K hK => ?_) (AllReadyH.nil)
          · go_simp
            refine (FN _).mono ?_; rintro e u3 ⟨rfl, hb3⟩
            have H3 := H2.trans (hb3.mono H2.size)
            have h_3 := Arr.bel h_2 hb3
            go_wp2_with fail
            refine hK.out _ _ H3 (fun hHeld => ?_)
            clear hK K
            try simp only [Act.put, List.setIfInBounds_toArray, List.set_cons_zero, List.set_cons_succ]
            refine wpAnyH_take (i := 31) (oi := ⟨_, _, _, _, _, _⟩) rfl (by kernel_rfl) (by kernel_rfl) (by kernel_rfl) (fun _ _ _ h => h) (y_bd (by rfl) 95 _ rfl (by rfl) hb27) (by assumption) ?_
            try simp only [Act.put, List.setIfInBounds_toArray, List.set_cons_zero, List.set_cons_succ]
            refine wpAnyH_ready (rs := [33]) (by kernel_rfl) (by simp) ?_
            refine AllReadyH.cons (o := ⟨_, _, _, _, _, _⟩) rfl (fun K hK => ?_) AllReadyH.nil
            refine step_want rfl (wp_store_row 95 (.tmp 6) (.tmp 47) rfl (u1.heap.size) (mgOf L).arr rfl rfl 95 _ h_3 (s27 hok) (by rw [Mg.size hok, hsz0]) (Mg.oneA _) ?_)
            have HS := below_setRow H3 le4 (mgOf L).arr
            have hs := Arr.setRow h_3 (mgOf L).arr
            refine hK.out _ _ HS (fun hHeld => ?_)
            clear hK K
            try simp only [Act.put, List.setIfInBounds_toArray, List.set_cons_zero, List.set_cons_succ]
            refine wpAnyH_done (by kernel_rfl) ?_ _
            go_wp2_with fail
            go_meet
            exact ⟨_, rfl, le4, hs, HS⟩
      · go_simp
        go_wp2_with fail
        have H1 := H0.alloc H0.size (.cells mg0.arr 95)
        have hs1 : V.drew.heap.size = V.heap.size := by simp
        have le4 : V.heap.size ≤ V.heap.size := by rw [← hs1]; exact H0.size
        have h_1 : Arr (V.drew.alloc (.cells mg0.arr 95)) (V.heap.size) 95 mg0.arr := by have q := Arr.new V.drew 95 mg0.arr; rw [hs1] at q; exact q
        refine hK.out _ _ H1 (fun hHeld => ?_)
        clear hK K
        try simp only [Act.put, List.setIfInBounds_toArray, List.set_cons_zero, List.set_cons_succ]
        refine wpAnyH_ready (rs := [20]) (by kernel_rfl) (by simp) ?_
        refine AllReadyH.cons (o := ⟨_, _, _, _, _, _⟩) rfl (fun K hK => ?_) (AllReadyH.nil)
        · go_simp
          refine (FK _).mono ?_; rintro e u2 ⟨rfl, hb2⟩
          have H2 := H1.trans (hb2.mono H1.size)
          have h_2 := Arr.bel h_1 hb2
          go_wp2_with fail
          refine hK.out _ _ H2 (fun hHeld => ?_)
          clear hK K
          try simp only [Act.put, List.setIfInBounds_toArray, List.set_cons_zero, List.set_cons_succ]
          refine wpAnyH_ready (rs := [30]) (by kernel_rfl) (by simp) ?_
          refine AllReadyH.cons (o := ⟨_, _, _, _, _, _⟩) rfl (fun K hK => ?_) (AllReadyH.nil)
          · go_simp
            refine (FN _).mono ?_; rintro e u3 ⟨rfl, hb3⟩
            have H3 := H2.trans (hb3.mono H2.size)
            have h_3 := Arr.bel h_2 hb3
            go_wp2_with fail
            refine hK.out _ _ H3 (fun hHeld => ?_)
            clear hK K
            try simp only [Act.put, List.setIfInBounds_toArray, List.set_cons_zero, List.set_cons_succ]
            refine wpAnyH_take (i := 31) (oi := ⟨_, _, _, _, _, _⟩) rfl (by kernel_rfl) (by kernel_rfl) (by kernel_rfl) (fun _ _ _ h => h) (y_bd (by rfl) 95 _ rfl (by rfl) hb27) (by assumption) ?_
            try simp only [Act.put, List.setIfInBounds_toArray, List.set_cons_zero, List.set_cons_succ]
            refine wpAnyH_ready (rs := [33]) (by kernel_rfl) (by simp) ?_
            refine AllReadyH.cons (o := ⟨_, _, _, _, _, _⟩) rfl (fun K hK => ?_) AllReadyH.nil
            refine step_want rfl (wp_store_row 95 (.tmp 6) (.tmp 47) rfl (V.heap.size) (mgOf L).arr rfl rfl 95 _ h_3 (s27 hok) (by rw [Mg.size hok, hsz0]) (Mg.oneA _) ?_)
            have HS := below_setRow H3 le4 (mgOf L).arr
            have hs := Arr.setRow h_3 (mgOf L).arr
            refine hK.out _ _ HS (fun hHeld => ?_)
            clear hK K
            try simp only [Act.put, List.setIfInBounds_toArray, List.set_cons_zero, List.set_cons_succ]
            refine wpAnyH_done (by kernel_rfl) ?_ _
            go_wp2_with fail
            go_meet
            exact ⟨_, rfl, le4, hs, HS⟩
    case rest =>
      obtain ⟨G2, rfl, hRG2', M4, hbc⟩ := hcut
      have A4 := A2.below hbc A2.lt
      have R4 := R2.below hbc R2.lt
      have B4 := B2.trans (hbc.mono B2.size)
      have hRG2 : w.heap.size < G2 := by have := R2.lt; omega
      clear A2 R2 B2 FK FN hb27 hbc
      have d0 : wc.cell? ⟨G, 0, none⟩ = some (.int .u64 (wd L 0)) := (A4.cell 0).trans (u64s_get (by omega))
      have GK : Hid (goodM L = (decide (wd L 0 ≤ 3) && (mgOf L).may)) := Hid.mk' rfl
      generalize hw0 : wd L 0 = x0 at d0 GK
      have hw0 := Hid.mk' hw0
      by_cases hq : x0 ≤ 3
      · have hq' : ¬ 3 < x0 := by omega
        have hq2 : decide (x0 > 3) = false := by simp; omega
        cases hmay : (mgOf L).may
        · have hg : Hid (goodM L = false) := Hid.mk' (by rw [GK.out, hmay]; simp)
          go_wp2_with (first
            | (refine atL 95 (.tmp 6) ?_; refine ld27M (by rfl) (.tmp 6) (by rfl) G2 95 (by rfl) (mgOf L) hok M4 ?_)
            | (go_at_call 52; go_must (refine (refMay_anyM (mgOf L) _ hok).mono ?_; rintro e w5 ⟨rfl, hb5⟩; have R5 := R4.bel hb5; have B5 := B4.trans (hb5.mono B4.size)))
            | (refine atB 95 ?_; refine bdT (by rfl) 95 #[] (by rfl) (ps := []) (by rfl) hb0 ?_)
            | (refine atS 95 (.tmp 2) (.tmp 56) ?_; refine st27 (by rfl) (.tmp 2) (.tmp 56) (by rfl) w.heap.size mg0 (by rfl) (by rfl) mg0_ok hsz0 R5 ?_))
          exact bodyPost_ret (v := .tuple #[.agg mg0.arr, .int .i64 8]) (resM Try.results47 rfl rfl mg0_ok (R5.setRow _)) rfl (RPost.bad hl.out hg.out (below_setRow B5 (by omega) _))
        · have hg : Hid (goodM L = true) := Hid.mk' (by rw [GK.out, hmay]; simp [hq])
          go_wp2_with (first
            | (refine atL 95 (.tmp 6) ?_; refine ld27M (by rfl) (.tmp 6) (by rfl) G2 95 (by rfl) (mgOf L) hok (by assumption) ?_)
            | (go_at_call 52; go_must (refine (refMay_anyM (mgOf L) _ hok).mono ?_; rintro e w5 ⟨rfl, hb5⟩; have R5 := R4.bel hb5; have B5 := B4.trans (hb5.mono B4.size); have M5 := M4.bel hb5))
            | (refine atS 95 (.tmp 2) (.tmp 57) ?_; refine st27 (by rfl) (.tmp 2) (.tmp 57) (by rfl) w.heap.size (mgOf L) (by rfl) (by rfl) hok hsz0 R5 ?_))
          exact bodyPost_ret (v := .tuple #[.agg (mgOf L).arr, .int .i64 0]) (resM Try.results47 rfl rfl hok (R5.setRow _)) rfl (RPost.good hl.out hg.out (below_setRow B5 (by omega) _))
      · have hq' : 3 < x0 := by omega
        have hq2 : decide (x0 > 3) = true := by simp; omega
        have hg : Hid (goodM L = false) := Hid.mk' (by rw [GK.out]; simp [hq])
        go_wp2_with (first
          | (refine atB 95 ?_; refine bdT (by rfl) 95 #[] (by rfl) (ps := []) (by rfl) hb0 ?_)
          | (refine atS 95 (.tmp 2) (.tmp 56) ?_; refine st27 (by rfl) (.tmp 2) (.tmp 56) (by rfl) w.heap.size mg0 (by rfl) (by rfl) mg0_ok hsz0 R4 ?_))
        exact bodyPost_ret (v := .tuple #[.agg mg0.arr, .int .i64 8]) (resM Try.results47 rfl rfl mg0_ok (R4.setRow _)) rfl (RPost.bad hl.out hg.out (below_setRow B4 (by omega) _))
  · have F := Hid.mk' (wv_no hl)
    have hne := we_ne hl
    obtain ⟨ee, E⟩ : ∃ x, Hid (we L = x) := ⟨_, rfl⟩
    rw [E.out] at hne
    have HL := Hid.mk' hl
    go_wp2_with (first
      | (go_at_call 66; go_must (refine (refWordsC hS0 E F).mono ?_; rintro e w1 ⟨rfl, hb1⟩; have R1 := R0.bel hb1; have B1 := hB0.trans (hb1.mono (by simp)); have R2 := R1.alloc (.cells (u64s 13 (fun _ => 0)) 131); have B2 := B1.alloc B1.size (.cells (u64s 13 (fun _ => 0)) 131); clear R0 hB0 hS0))
      | (refine atS 131 (.tmp 4) (.tmp 10) ?_; refine st41n (by rfl) (.tmp 4) (.tmp 10) (by rfl) w1 w1.heap.size rfl (by rfl) (u64s 13 (fun _ => 0)) (by rfl) (by rfl) (u64s_size _ _) (u64s_one _ _) ?_)
      | (refine atB 95 ?_; refine bdT (by rfl) 95 #[] (by rfl) (ps := []) (by rfl) hb0 ?_)
      | (refine atS 95 (.tmp 2) (.tmp 14) ?_; refine st27 (by rfl) (.tmp 2) (.tmp 14) (by rfl) w.heap.size mg0 (by rfl) (by rfl) mg0_ok hsz0 R2 ?_))
    have P := RPost.far HL.out (below_setRow B2 (Nat.le_refl _) mg0.arr)
    rw [E.out] at P
    exact bodyPost_ret (v := .tuple #[.agg mg0.arr, .int .i64 ee]) (resM Try.results47 rfl rfl mg0_ok (R2.setRow _)) rfl P
end Go.Proofs.Ytbhhbkoikocjgaa
