/- Sl, Ee0. -/
import Derived.Test.YtjbaobfmdkpboaaX01
import Derived.Test.YtjbaobfmdkpboaaX02
import Derived.Test.YtjbaobfmdkpboaaX03
import Derived.Test.YtjbaobfmdkpboaaX04
import Derived.Test.YtjbaobfmdkpboaaX05
import Derived.Test.YtjbaobfmdkpboaaX06
import Derived.Test.YtjbaobfmdkpboaaX07
import Derived.Test.YtjbaobfmdkpboaaX08
import Derived.Test.YtjbaobfmdkpboaaX23
import Derived.BigQuiet
import Derived.BigRegion
import Derived.ChangeKeysEq
import Derived.Deep.DeepCutAuto
import Derived.Deep.DrawnRows
import Derived.Deep.MidRow
import Derived.Deep.QuietTactic
import Derived.Deep.RegionHeld3
import Derived.Deep.RegionLaw
import Derived.Deep.RegionWith
import Derived.Deep.WholeRow
import Derived.Great.BuildSlice
import Derived.Great.FillDense
import Derived.JoinedTies
import Derived.KernelRfl
import Derived.Laws.AppendOwnNone
import Derived.Laws.BitsLemmas
import Derived.Laws.BytesArg
import Derived.Laws.CopyOwn
import Derived.Laws.CopyRow
import Derived.Laws.MakeOwn
import Derived.Laws.OwnMore
import Derived.Laws.Tables
import Derived.Lib.SlBytesConst
import Derived.LoopIn
import Derived.LoopNIn
import Derived.Maps.AppendAt
import Derived.OwnWalkIn
import Derived.RangeFuncBound
import Derived.RangeFuncCalls
import Derived.RangeFuncLeaves
import Derived.RangeFuncNested
import Derived.RangeFuncRecord
import Derived.Shelf.Abstract
import Derived.Shelf.RegionOpen
import Derived.TacticsInMore
import Derived.WalkKit
import Derived.WalkLawsBesides
import Derived.WalkSpells
import GoSem.Claim
import GoSem.ClaimJoined
import GoSem.ClaimMapViews
import Derived.Test.YtjbaobfmdkpboaaX19
/- Layer exec: what the layers below give. -/
namespace Go.Proofs.Ytjbaobfmdkpboaa
set_option linter.unusedSectionVars false
set_option maxHeartbeats 1000000
open Go.RowKit
set_option maxRecDepth 100000
set_option linter.unusedVariables false
set_option linter.unusedSimpArgs false

variable [DecidableEq Ac] [DecidableEq Ou] [DecidableEq Mg]
def smB (ps : List Ac) (os : List Ou) (qs : List Ac) (us : List Ou) : Bool := decide (ps = qs) && decide (os = us)
set_option maxHeartbeats 2000000 in
theorem refSsame_any (ps : List Ac) (N : Nat) (sp : Option Addr) (n cap : Nat) (ls : List Ou) (qs : List Ac) (N' : Nat) (sp' : Option Addr) (n' cap' : Nat) (ls' : List Ou) (w : World) (hS : SS N w ps sp n cap ls) (hT : SS N' w qs sp' n' cap' ls') :
    Calls Try.prog 12 #[.agg (stA ps sp n cap), .agg (stA qs sp' n' cap')] w fun e w' => e = .returned (.bool (smB ps ls qs ls')) ∧ Below w.heap.size w w' := by
  have hp1 := hS.a32.out
  have hp2 := hS.l32
  have hq1 := hT.a32.out
  have hq2 := hT.l32
  have hS := hS.here
  have hT := hT.here
  have A0 := (Arr.new w 30 (stA ps sp n cap)).alloc (.cells (stA qs sp' n' cap') 30)
  have D0 : Arr ((w.alloc (.cells (stA ps sp n cap) 30)).alloc (.cells (stA qs sp' n' cap') 30)) (w.heap.size + 1) 30 (stA qs sp' n' cap') := by simpa using Arr.new (w.alloc (.cells (stA ps sp n cap) 30)) 30 (stA qs sp' n' cap')
  have B0 := (alloc_bel' w (.cells (stA ps sp n cap) 30)).alloc (by simp) (.cells (stA qs sp' n' cap') 30)
  have heq := run_neq27 hp1 hq1 hp2 hq2
  have hsm : Hid (smB ps ls qs ls' = (decide (ps = qs) && decide (ls = ls'))) := Hid.mk' rfl
  have c1 := A0.stOut hp1 hp2
  have c2 := D0.stOut hq1 hq2
  have hl := hS.outs.len
  have hl' := hT.outs.len
  have hbn := hS.outs.small
  cases hd : decide (ps = qs) with
  | true =>
    rw [hd] at heq
    replace hsm : Hid (smB ps ls qs ls' = decide (ls = ls')) := Hid.mk' (by rw [hsm.out, hd]; rfl)
    clear hd
    by_cases hnn : n = n'
    · subst hnn
      have hlen : Hid (ls.length = ls'.length) := Hid.mk' (by rw [← hl.out, ← hl'.out])
      have hnn : ((n : Int) != n) = false := by simp
      have hS0 := (hS.below B0).outs.here
      have hS0' := (hT.below B0).outs.here
      clear hS hT
      go_enter Try.func12, Try.ntmps12
      go_upto_region 4 with (first
        | (refine ld27 (by rfl) _ (by rfl) w.heap.size 30 (by rfl) ps sp n cap hp1 hp2 A0 ?_)
        | (refine ld27 (by rfl) _ (by rfl) (w.heap.size + 1) 30 (by rfl) qs sp' n cap' hq1 hq2 D0 ?_))
      clear c1 c2
      have A1 := A0
      have D1 := D0
      clear A0 D0
      generalize (w.alloc (.cells (stA ps sp n cap) 30)).alloc (.cells (stA qs sp' n cap') 30) = W0 at *
      go_loopw [5] (fun q wr => ∃ j : Nat, q = .int .i64 (j : Int) ∧ j ≤ n ∧ Below W0.heap.size W0 wr ∧ Hid (∀ i, i < j → ls[i]? = ls'[i]?)) (fun q _ => n - (intOf q).toNat)
      case atStart => exact ⟨0, rfl, by omega, Below.refl _ _, Hid.mk' (fun i hi => by omega)⟩
      case round =>
        obtain ⟨j, rfl, hj, hbl, hsame⟩ := hrel
        have hszr := hbl.size
        have hS := hS0.below hbl
        have hS' := hS0'.below hbl
        have hA1 := A1.below hbl A1.lt
        have hA2 := D1.below hbl D1.lt
        have c1 := hA1.stOut hp1 hp2
        have c2 := hA2.stOut hq1 hq2
        by_cases hlt : j < n
        · have hI : (j : Int) < n := by omega
          obtain ⟨g, off, rfl, hgN, hR⟩ := hS.at0 (by omega)
          obtain ⟨g', off', rfl, hgN', hR'⟩ := hS'.at0 (by omega)
          obtain ⟨X, hX⟩ : ∃ X, ls[j]? = some X := ⟨ls[j]'(by rw [← hl.out]; exact hlt), List.getElem?_eq_getElem _⟩
          obtain ⟨Y, hY⟩ : ∃ X, ls'[j]? = some X := ⟨ls'[j]'(by rw [← hl'.out]; exact hlt), List.getElem?_eq_getElem _⟩
          have h1 := hR j X hX
          have h2 := hR' j Y hY
          have hgl : g < wr.heap.size := Nat.lt_of_lt_of_le hgN (by omega)
          have hgl' : g' < wr.heap.size := Nat.lt_of_lt_of_le hgN' (by omega)
          have hne := run_neq53 X Y
          replace hX := Hid.mk' hX
          replace hY := Hid.mk' hY
          clear hR hR'
          cases hd : decide (X = Y) with
          | true =>
            rw [hd] at hne
            have hXY := Hid.mk' (of_decide_eq_true hd)
            clear hd
            go_wp2_with fail
            refine wp_region_held_drew (S := fun u => Below wr.heap.size wr u) (by kernel_rfl) ((Below.refl _ _).drew) (fun hHeld => ?_)
            refine wpAnyH_take (i := 0) (oi := ⟨_, _, _, _, _, _⟩) (v := ?_) rfl (by kernel_rfl) (by kernel_rfl) (by kernel_rfl) (fun _ _ _ h => h) (Or.inl ⟨by rfl, ?_⟩) (by assumption) ?_
            rotate_left
            · intro u hSw
              go_simp
              try (with_reducible rfl)
            try simp only [Act.put, List.setIfInBounds_toArray, List.set_cons_zero, List.set_cons_succ]
            refine wpAnyH_take (i := 1) (oi := ⟨_, _, _, _, _, _⟩) (v := ?_) rfl (by kernel_rfl) (by kernel_rfl) (by kernel_rfl) (fun _ _ _ h => h) (Or.inl ⟨by rfl, ?_⟩) (by assumption) ?_
            rotate_left
            · intro u hSw
              have cc := (hSw.cell (p := ⟨w.heap.size, 1088, none⟩) hA1.lt).trans c1
              go_simp
              try (with_reducible rfl)
            try simp only [Act.put, List.setIfInBounds_toArray, List.set_cons_zero, List.set_cons_succ]
            refine wpAnyH_take (i := 2) (oi := ⟨_, _, _, _, _, _⟩) (v := ?_) rfl (by kernel_rfl) (by kernel_rfl) (by kernel_rfl) (fun _ _ _ h => h) (Or.inl ⟨by rfl, ?_⟩) (by assumption) ?_
            rotate_left
            · intro u hSw
              go_simp
              try (with_reducible rfl)
            try simp only [Act.put, List.setIfInBounds_toArray, List.set_cons_zero, List.set_cons_succ]
            refine wpAnyH_take (i := 3) (oi := ⟨_, _, _, _, _, _⟩) (v := ?_) rfl (by kernel_rfl) (by kernel_rfl) (by kernel_rfl) (fun _ _ _ h => h) (Or.inl ⟨by rfl, ?_⟩) (by assumption) ?_
            rotate_left
            · intro u hSw
              go_simp
              try (with_reducible rfl)
            try simp only [Act.put, List.setIfInBounds_toArray, List.set_cons_zero, List.set_cons_succ]
            refine wpAnyH_take (i := 4) (oi := ⟨_, _, _, _, _, _⟩) rfl (by kernel_rfl) (by kernel_rfl) (by kernel_rfl) (fun _ _ _ h => h) (y53 (by rfl) (.tmp 30) rfl g (off + j * 2) rfl X (fun u hu => range_below h1 hu hgl)) (by assumption) ?_
            try simp only [Act.put, List.setIfInBounds_toArray, List.set_cons_zero, List.set_cons_succ]
            refine wpAnyH_take (i := 5) (oi := ⟨_, _, _, _, _, _⟩) (v := ?_) rfl (by kernel_rfl) (by kernel_rfl) (by kernel_rfl) (fun _ _ _ h => h) (Or.inl ⟨by rfl, ?_⟩) (by assumption) ?_
            rotate_left
            · intro u hSw
              go_simp
              try (with_reducible rfl)
            try simp only [Act.put, List.setIfInBounds_toArray, List.set_cons_zero, List.set_cons_succ]
            refine wpAnyH_take (i := 6) (oi := ⟨_, _, _, _, _, _⟩) (v := ?_) rfl (by kernel_rfl) (by kernel_rfl) (by kernel_rfl) (fun _ _ _ h => h) (Or.inl ⟨by rfl, ?_⟩) (by assumption) ?_
            rotate_left
            · intro u hSw
              have cc := (hSw.cell (p := ⟨w.heap.size + 1, 1088, none⟩) hA2.lt).trans c2
              go_simp
              try (with_reducible rfl)
            try simp only [Act.put, List.setIfInBounds_toArray, List.set_cons_zero, List.set_cons_succ]
            refine wpAnyH_take (i := 7) (oi := ⟨_, _, _, _, _, _⟩) (v := ?_) rfl (by kernel_rfl) (by kernel_rfl) (by kernel_rfl) (fun _ _ _ h => h) (Or.inl ⟨by rfl, ?_⟩) (by assumption) ?_
            rotate_left
            · intro u hSw
              go_simp
              try (with_reducible rfl)
            try simp only [Act.put, List.setIfInBounds_toArray, List.set_cons_zero, List.set_cons_succ]
            refine wpAnyH_take (i := 8) (oi := ⟨_, _, _, _, _, _⟩) (v := ?_) rfl (by kernel_rfl) (by kernel_rfl) (by kernel_rfl) (fun _ _ _ h => h) (Or.inl ⟨by rfl, ?_⟩) (by assumption) ?_
            rotate_left
            · intro u hSw
              go_simp
              try (with_reducible rfl)
            try simp only [Act.put, List.setIfInBounds_toArray, List.set_cons_zero, List.set_cons_succ]
            refine wpAnyH_take (i := 9) (oi := ⟨_, _, _, _, _, _⟩) rfl (by kernel_rfl) (by kernel_rfl) (by kernel_rfl) (fun _ _ _ h => h) (y53 (by rfl) (.tmp 35) rfl g' (off' + j * 2) rfl Y (fun u hu => range_below h2 hu hgl')) (by assumption) ?_
            try simp only [Act.put, List.setIfInBounds_toArray, List.set_cons_zero, List.set_cons_succ]
            refine wpAnyH_take (i := 10) (oi := ⟨_, _, _, _, _, _⟩) (v := ?_) rfl (by kernel_rfl) (by kernel_rfl) (by kernel_rfl) (fun _ _ _ h => h) (Or.inl ⟨by rfl, ?_⟩) (by assumption) ?_
            rotate_left
            · intro u hSw
              go_simp
              try (with_reducible rfl)
            try simp only [Act.put, List.setIfInBounds_toArray, List.set_cons_zero, List.set_cons_succ]
            refine wpAnyH_done (by kernel_rfl) ?_ _

            go_wp2_with fail
            go_roundw
            case rel =>
              refine ⟨j + 1, by go_num, by omega, hbl.drew, Hid.mk' (fun i hi => ?_)⟩
              by_cases hij : i = j
              · subst hij; rw [hX.out, hY.out, hXY.out]
              · exact hsame.out i (by omega)
            case measure => simp [intOf]; omega
          | false =>
            rw [hd] at hne
            have hfin : Hid (decide (ls = ls') = false) := Hid.mk' (decide_eq_false (list_take_ne hX.out hY.out (of_decide_eq_false hd)))
            clear hd
            go_wp2_with fail
            refine wp_region_held_drew (S := fun u => Below wr.heap.size wr u) (by kernel_rfl) ((Below.refl _ _).drew) (fun hHeld => ?_)
            refine wpAnyH_take (i := 0) (oi := ⟨_, _, _, _, _, _⟩) (v := ?_) rfl (by kernel_rfl) (by kernel_rfl) (by kernel_rfl) (fun _ _ _ h => h) (Or.inl ⟨by rfl, ?_⟩) (by assumption) ?_
            rotate_left
            · intro u hSw
              go_simp
              try (with_reducible rfl)
            try simp only [Act.put, List.setIfInBounds_toArray, List.set_cons_zero, List.set_cons_succ]
            refine wpAnyH_take (i := 1) (oi := ⟨_, _, _, _, _, _⟩) (v := ?_) rfl (by kernel_rfl) (by kernel_rfl) (by kernel_rfl) (fun _ _ _ h => h) (Or.inl ⟨by rfl, ?_⟩) (by assumption) ?_
            rotate_left
            · intro u hSw
              have cc := (hSw.cell (p := ⟨w.heap.size, 1088, none⟩) hA1.lt).trans c1
              go_simp
              try (with_reducible rfl)
            try simp only [Act.put, List.setIfInBounds_toArray, List.set_cons_zero, List.set_cons_succ]
            refine wpAnyH_take (i := 2) (oi := ⟨_, _, _, _, _, _⟩) (v := ?_) rfl (by kernel_rfl) (by kernel_rfl) (by kernel_rfl) (fun _ _ _ h => h) (Or.inl ⟨by rfl, ?_⟩) (by assumption) ?_
            rotate_left
            · intro u hSw
              go_simp
              try (with_reducible rfl)
            try simp only [Act.put, List.setIfInBounds_toArray, List.set_cons_zero, List.set_cons_succ]
            refine wpAnyH_take (i := 3) (oi := ⟨_, _, _, _, _, _⟩) (v := ?_) rfl (by kernel_rfl) (by kernel_rfl) (by kernel_rfl) (fun _ _ _ h => h) (Or.inl ⟨by rfl, ?_⟩) (by assumption) ?_
            rotate_left
            · intro u hSw
              go_simp
              try (with_reducible rfl)
            try simp only [Act.put, List.setIfInBounds_toArray, List.set_cons_zero, List.set_cons_succ]
            refine wpAnyH_take (i := 4) (oi := ⟨_, _, _, _, _, _⟩) rfl (by kernel_rfl) (by kernel_rfl) (by kernel_rfl) (fun _ _ _ h => h) (y53 (by rfl) (.tmp 30) rfl g (off + j * 2) rfl X (fun u hu => range_below h1 hu hgl)) (by assumption) ?_
            try simp only [Act.put, List.setIfInBounds_toArray, List.set_cons_zero, List.set_cons_succ]
            refine wpAnyH_take (i := 5) (oi := ⟨_, _, _, _, _, _⟩) (v := ?_) rfl (by kernel_rfl) (by kernel_rfl) (by kernel_rfl) (fun _ _ _ h => h) (Or.inl ⟨by rfl, ?_⟩) (by assumption) ?_
            rotate_left
            · intro u hSw
              go_simp
              try (with_reducible rfl)
            try simp only [Act.put, List.setIfInBounds_toArray, List.set_cons_zero, List.set_cons_succ]
            refine wpAnyH_take (i := 6) (oi := ⟨_, _, _, _, _, _⟩) (v := ?_) rfl (by kernel_rfl) (by kernel_rfl) (by kernel_rfl) (fun _ _ _ h => h) (Or.inl ⟨by rfl, ?_⟩) (by assumption) ?_
            rotate_left
            · intro u hSw
              have cc := (hSw.cell (p := ⟨w.heap.size + 1, 1088, none⟩) hA2.lt).trans c2
              go_simp
              try (with_reducible rfl)
            try simp only [Act.put, List.setIfInBounds_toArray, List.set_cons_zero, List.set_cons_succ]
            refine wpAnyH_take (i := 7) (oi := ⟨_, _, _, _, _, _⟩) (v := ?_) rfl (by kernel_rfl) (by kernel_rfl) (by kernel_rfl) (fun _ _ _ h => h) (Or.inl ⟨by rfl, ?_⟩) (by assumption) ?_
            rotate_left
            · intro u hSw
              go_simp
              try (with_reducible rfl)
            try simp only [Act.put, List.setIfInBounds_toArray, List.set_cons_zero, List.set_cons_succ]
            refine wpAnyH_take (i := 8) (oi := ⟨_, _, _, _, _, _⟩) (v := ?_) rfl (by kernel_rfl) (by kernel_rfl) (by kernel_rfl) (fun _ _ _ h => h) (Or.inl ⟨by rfl, ?_⟩) (by assumption) ?_
            rotate_left
            · intro u hSw
              go_simp
              try (with_reducible rfl)
            try simp only [Act.put, List.setIfInBounds_toArray, List.set_cons_zero, List.set_cons_succ]
            refine wpAnyH_take (i := 9) (oi := ⟨_, _, _, _, _, _⟩) rfl (by kernel_rfl) (by kernel_rfl) (by kernel_rfl) (fun _ _ _ h => h) (y53 (by rfl) (.tmp 35) rfl g' (off' + j * 2) rfl Y (fun u hu => range_below h2 hu hgl')) (by assumption) ?_
            try simp only [Act.put, List.setIfInBounds_toArray, List.set_cons_zero, List.set_cons_succ]
            refine wpAnyH_take (i := 10) (oi := ⟨_, _, _, _, _, _⟩) (v := ?_) rfl (by kernel_rfl) (by kernel_rfl) (by kernel_rfl) (fun _ _ _ h => h) (Or.inl ⟨by rfl, ?_⟩) (by assumption) ?_
            rotate_left
            · intro u hSw
              go_simp
              try (with_reducible rfl)
            try simp only [Act.put, List.setIfInBounds_toArray, List.set_cons_zero, List.set_cons_succ]
            refine wpAnyH_done (by kernel_rfl) ?_ _

            go_wp2_with fail
            go_ret
            exact ⟨by rw [hsm.out, hfin.out]; rfl, (B0.trans (hbl.mono B0.size)).drew⟩
        · obtain rfl : j = n := by omega
          have hI : ¬ (j : Int) < j := by omega
          have hfin : Hid (decide (ls = ls') = true) := Hid.mk' (decide_eq_true (list_ext_take hlen.out (by rw [← hl.out]; exact hsame.out)))
          go_wp2_with fail
          go_ret
          exact ⟨by rw [hsm.out, hfin.out]; rfl, (B0.trans (hbl.mono B0.size))⟩
    · have hne : ((n : Int) != n') = true := by simp; omega
      have hfin : Hid (decide (ls = ls') = false) := Hid.mk' (decide_eq_false (fun e => hnn (by rw [hl.out, hl'.out, e])))
      replace hnn := Hid.mk' hnn
      go_enter Try.func12, Try.ntmps12
      go_wp2_with (first
        | (refine ld27 (by rfl) _ (by rfl) w.heap.size 30 (by rfl) ps sp n cap hp1 hp2 A0 ?_)
        | (refine ld27 (by rfl) _ (by rfl) (w.heap.size + 1) 30 (by rfl) qs sp' n' cap' hq1 hq2 D0 ?_))
      go_ret
      exact ⟨by rw [hsm.out, hfin.out]; rfl, B0⟩
  | false =>
    rw [hd] at heq
    replace hsm : Hid (smB ps ls qs ls' = false) := Hid.mk' (by rw [hsm.out, hd]; rfl)
    clear hd
    go_enter Try.func12, Try.ntmps12
    go_wp2_with (first
      | (refine ld27 (by rfl) _ (by rfl) w.heap.size 30 (by rfl) ps sp n cap hp1 hp2 A0 ?_)
      | (refine ld27 (by rfl) _ (by rfl) (w.heap.size + 1) 30 (by rfl) qs sp' n' cap' hq1 hq2 D0 ?_))
    go_ret
    exact ⟨by rw [hsm.out]; rfl, B0⟩
end Go.Proofs.Ytjbaobfmdkpboaa
/- Layer exec: Delta. -/
namespace Go.Proofs.Ytjbaobfmdkpboaa
set_option linter.unusedSectionVars false
set_option maxHeartbeats 1000000
open Go.RowKit
set_option maxRecDepth 100000
set_option linter.unusedVariables false
set_option linter.unusedSimpArgs false

variable [DecidableEq Ac] [DecidableEq Ou] [DecidableEq Mg]
theorem size57 : (Try.prog.info? 57).map (·.size) = some 1089 := by kernel_rfl
theorem zero57 : (Try.prog.info? 57).map (·.zero) = some (some (.agg (stA zs none 0 0))) := by kernel_rfl
theorem zeroValue57 (w : World) : (zeroValue 57).run Try.prog w = .ok (.agg (stA zs none 0 0)) w := by
  have h := zero57
  cases hq : Try.prog.info? 57 with
  | none => rw [hq] at h; cases h
  | some i =>
    rw [hq] at h
    have hz : i.zero = some (.agg (stA zs none 0 0)) := by simpa using h
    simp [zeroValue, typeInfo, hq, hz]
theorem built30z : Try.prog.built 30 [] = some (stA zs none 0 0) := by kernel_rfl
theorem places57 : (match Try.prog.underlying 57 with | some (.struct fs) => fs.toList.mapM (fun f => (Try.prog.info? f.type).map fun i => (f.offset, i.size)) | _ => none) = some [(0, 1089)] := by kernel_rfl
theorem built57 {C : Array Value} (hC : C.size = 1089) : Try.prog.built 57 [(0, .agg C)] = some C := by
  have hz := zero57
  have hp := places57
  unfold Program.built
  cases hi : Try.prog.info? 57 with
  | none => rw [hi] at hz; cases hz
  | some it =>
    rw [hi] at hz
    have hz : it.zero = some (.agg (stA zs none 0 0)) := by simpa using hz
    have hw := Great.fill_whole (s := 1089) (by omega) [.agg C] (stA zs none 0 0) (fun v hv => by simp only [List.mem_singleton] at hv; rw [hv]; exact hC) (by rw [stA_size zs_len zs_l32]; rfl)
    have hs : (stA zs none 0 0).size = 1089 := stA_size zs_len zs_l32
    cases hu : Try.prog.underlying 57 with
    | none => rw [hu] at hp; cases hp
    | some d =>
      rw [hu] at hp
      cases d <;> try (cases hp; done)
      next fs =>
        simp only [] at hp
        simp only [hz, hp]
        generalize stA zs none 0 0 = Z at hw hs ⊢
        simp [Instr.fill, Value.cells, hC, hs] at hw ⊢
        exact hw
theorem st57n {ops : Array Oper} {rest : List Oper} {o : Oper} {a : Act} {Q : Exit → Act → World → Prop} (hgd : o.guard = none) (x y : Operand) (ho : o.op = .store 57 x y) (W : World) (g : Nat) (hgW : W.heap.size = g) {z : Array Value} (hz : z.size = 1089)
    (ps : List Ac) (sp : Option Addr) (n cap : Nat) (hx : a.eval x = .pointer (some ⟨g, 0, none⟩)) (hy : a.eval y = .agg (stA ps sp n cap)) (h1 : ps.length = 32) (h2 : ∀ a ∈ ps, a.lk.length = 32)
    (h : wpList Try.prog ops Q rest (a.put o.dst undef) (W.alloc (.cells (stA ps sp n cap) 57))) : wpList Try.prog ops Q (o :: rest) a (W.alloc (.cells z 57)) := by
  subst hgW
  exact wpList_store_new W z 57 hgd 57 x y ho (stA ps sp n cap) hx hy (by rw [stA_size h1 h2]; exact size57) (by rw [hz, stA_size h1 h2]) (stA_one ps sp n cap) h
theorem st30n {ops : Array Oper} {rest : List Oper} {o : Oper} {a : Act} {Q : Exit → Act → World → Prop} (hgd : o.guard = none) (x y : Operand) (ho : o.op = .store 30 x y) (W : World) (g : Nat) (hgW : W.heap.size = g) {z : Array Value} (hz : z.size = 1089)
    (ps : List Ac) (sp : Option Addr) (n cap : Nat) (hx : a.eval x = .pointer (some ⟨g, 0, none⟩)) (hy : a.eval y = .agg (stA ps sp n cap)) (h1 : ps.length = 32) (h2 : ∀ a ∈ ps, a.lk.length = 32)
    (h : wpList Try.prog ops Q rest (a.put o.dst undef) (W.alloc (.cells (stA ps sp n cap) 30))) : wpList Try.prog ops Q (o :: rest) a (W.alloc (.cells z 30)) := by
  subst hgW
  exact wpList_store_new W z 30 hgd 30 x y ho (stA ps sp n cap) hx hy (by rw [stA_size h1 h2]; exact size30) (by rw [hz, stA_size h1 h2]) (stA_one ps sp n cap) h
theorem yAc {ops : Array Oper} {S : World → Prop} {op : Oper} {a : Act} (hw : Region.wanted op (yielded ops a.tmps) = true) (x : Operand) (ho : op.op = .load 27 x)
    (g ty : Nat) (hx : a.eval x = .pointer (some ⟨g, 0, none⟩)) (ps : List Ac) (sp : Option Addr) (n cap : Nat) (h1 : ps.length = 32) (h2 : ∀ a ∈ ps, a.lk.length = 32) (hS : ∀ w, S w → Arr w g ty (stA ps sp n cap)) : YieldsIf Try.prog ops S op (.agg (acA ps)) a :=
  yieldsIf_load_mid hw 27 x ho g 0 hx (acF ps) _ (fun w h => (hS w h).stAc) Try.underlying27 rfl (by rw [acF_len h2, h1]; exact size27)
theorem own_mono {w : World} {b b' e s n : Nat} {v : Value} {xs : List Value} (h : w.ownsRow b e s v n xs) (hb : b' ≤ b) : w.ownsRow b' e s v n xs := by
  obtain ⟨hl, h' | ⟨g, cap, cur, e1, hg, r⟩⟩ := h
  · exact ⟨hl, .inl h'⟩
  · exact ⟨hl, .inr ⟨g, cap, cur, e1, by omega, r⟩⟩
theorem own_row {w : World} {base n g : Nat} {v : Value} {xs : List Value} (h : w.ownsRow base 50 2 v n xs) (D : Array Value) (hg : g < base) : (w.setRow g D).ownsRow base 50 2 v n xs :=
  own_same h (fun k hk => setRow_other w g k D (fun e => by have := own_ge h k hk; omega))
theorem resD {f : Func} {w : World} {tmps : Array Value} {g t k l : Nat} {ps : List Ac} {sp : Option Addr} {n cap : Nat} {v u : Value} (hf : f.results = #[.cell t 30, .tmp k, .tmp l]) (hp : tmps.getD t undef = .pointer (some ⟨g, 0, none⟩)) (hk : tmps.getD k undef = v) (hl : tmps.getD l undef = u) (h1 : ps.length = 32) (h2 : ∀ a ∈ ps, a.lk.length = 32) (hA : Arr w g 30 (stA ps sp n cap)) :
    (results f tmps).run Try.prog w = .ok (.tuple #[.agg (stA ps sp n cap), v, u]) w := by
  have hl' := run_loadVar_mid (P := Try.prog) w g 0 30 (stC ps sp n cap) _ hA.st Try.underlying30 rfl (by rw [stC_len h1 h2]; exact size30)
  have hp' : tmps[t]?.getD undef = .pointer (some ⟨g, 0, none⟩) := by simpa using hp
  have hk' : tmps[k]?.getD undef = v := by simpa using hk
  have hll : tmps[l]?.getD undef = u := by simpa using hl
  simp [results, hf, hp', hk', hll, asAddr, hl', stA]
def xP (ps : List Ac) (os : List Ou) (L : List Int) : List Ac := if may ps os.length = true then dlP ps os L else zs
def xO (ps : List Ac) (os : List Ou) (L : List Int) : List Ou := if may ps os.length = true then dlO ps os L else []
def xD (ps : List Ac) (os : List Ou) (L : List Int) : Bool := may ps os.length && dlD ps os L
def xE (ps : List Ac) (os : List Ou) : Int := if may ps os.length = true then 0 else 2
/-- What Delta answers. -/
def DLPost (ps : List Ac) (os : List Ou) (L : List Int) (w : World) (r : Ending) (w' : World) : Prop :=
  ∃ sp n cap, r = .returned (.tuple #[.agg (stA (xP ps os L) sp n cap), .bool (xD ps os L), .int .i64 (xE ps os)]) ∧ w'.ownsRow w.heap.size 50 2 (.slice sp n cap) n (ouF (xO ps os L)) ∧ Hid (n = (xO ps os L).length) ∧ Below w.heap.size w w'
theorem DLPost.no {ps : List Ac} {os : List Ou} {L : List Int} {w w' : World} (h : may ps os.length = false) (hb : Below w.heap.size w w') : DLPost ps os L w (.returned (.tuple #[.agg (stA zs none 0 0), .bool false, .int .i64 2])) w' := by
  refine ⟨none, 0, 0, ?_, ?_, ?_, hb⟩
  · unfold xP xD xE; rw [h]; rfl
  · unfold xO; rw [h]; exact World.ownsRow_nil _ _ _ _
  · refine Hid.mk' ?_; unfold xO; rw [h]; rfl
theorem DLPost.ok {ps q : List Ac} {os u : List Ou} {L : List Int} {d : Bool} {w w' : World} {sp : Option Addr} {n cap : Nat} (h : may ps os.length = true) (e1 : dlP ps os L = q) (e2 : dlO ps os L = u) (e3 : dlD ps os L = d) (ho : w'.ownsRow w.heap.size 50 2 (.slice sp n cap) n (ouF u)) (hn : Hid (n = u.length)) (hb : Below w.heap.size w w') : DLPost ps os L w (.returned (.tuple #[.agg (stA q sp n cap), .bool d, .int .i64 0])) w' := by
  refine ⟨sp, n, cap, ?_, ?_, ?_, hb⟩
  · unfold xP xD xE; rw [h, e1, e3]; rfl
  · unfold xO; rw [h, if_pos rfl, e2]; exact ho
  · refine Hid.mk' ?_; unfold xO; rw [h, if_pos rfl, e2]; exact hn.out
theorem dl_bad {ps : List Ac} {os : List Ou} {L : List Int} (h : rdE L ≠ 0) : dlP ps os L = ps ∧ dlO ps os L = os ∧ dlD ps os L = false := by
  unfold dlP dlO dlD dlt; rw [if_neg h]; exact ⟨rfl, rfl, rfl⟩
theorem dl_good {ps : List Ac} {os : List Ou} {L : List Int} (hL : Bts L) (hl : ps.length = 32) (h1 : ∀ a ∈ ps, AcOK a) (h : rdE L = 0) : dlP ps os L = actP ps os (rdM L) ∧ dlO ps os L = actO ps os (rdM L) ∧ dlD ps os L = (!decide (actP ps os (rdM L) = ps)) := by
  unfold dlP dlO dlD dlt actP actO; rw [if_pos h]
  refine ⟨rfl, rfl, ?_⟩
  cases ha : act ps os (rdM L) with
  | none => simp
  | some r =>
    have := act_ne (rdM_ok hL) (rdE_may h) hl h1 ha
    simp [this]
theorem actP_ok {ps : List Ac} {os : List Ou} {m : Mg} (hm : MgOK m) (hl : ps.length = 32) (h1 : ∀ a ∈ ps, AcOK a) (h2 : ∀ o ∈ os, OuOK o) : (actP ps os m).length = 32 ∧ (∀ a ∈ actP ps os m, AcOK a) := by
  unfold actP
  cases h : act ps os m with
  | none => exact ⟨hl, h1⟩
  | some r => have := act_ok hm hl h1 h2 h; exact ⟨this.1, this.2.1⟩
end Go.Proofs.Ytjbaobfmdkpboaa
