/- Layer state: Same, and the document's own. -/
import Derived.Test.YtlebojbfcolkhaaA27
namespace Go.Proofs.Ytlebojbfcolkhaa
set_option linter.unusedSectionVars false
set_option maxHeartbeats 1000000
open Go.RowKit
set_option maxRecDepth 100000
set_option linter.unusedVariables false
set_option linter.unusedSimpArgs false

variable [DecidableEq Ac] [DecidableEq Ou]
def smB (ps : List Ac) (os : List Ou) (qs : List Ac) (us : List Ou) : Bool := decide (ps = qs) && decide (os = us)
set_option maxHeartbeats 2000000 in
theorem ssame_any (ps : List Ac) (N : Nat) (sp : Option Addr) (n cap : Nat) (ls : List Ou) (qs : List Ac) (N' : Nat) (sp' : Option Addr) (n' cap' : Nat) (ls' : List Ou) (w : World) (hS : SS N w ps sp n cap ls) (hT : SS N' w qs sp' n' cap' ls') :
    Calls Try.prog 15 #[.agg (stA ps sp n cap), .agg (stA qs sp' n' cap')] w fun e w' => e = .returned (.bool (smB ps ls qs ls')) ∧ Below w.heap.size w w' := by
  have hp1 := hS.a32.out
  have hp2 := hS.l32
  have hq1 := hT.a32.out
  have hq2 := hT.l32
  have hS := hS.here
  have hT := hT.here
  have A0 := (Arr.new w 30 (stA ps sp n cap)).alloc (.cells (stA qs sp' n' cap') 30)
  have D0 : Arr ((w.alloc (.cells (stA ps sp n cap) 30)).alloc (.cells (stA qs sp' n' cap') 30)) (w.heap.size + 1) 30 (stA qs sp' n' cap') := by simpa using Arr.new (w.alloc (.cells (stA ps sp n cap) 30)) 30 (stA qs sp' n' cap')
  have B0 := (alloc_bel' w (.cells (stA ps sp n cap) 30)).alloc (by simp) (.cells (stA qs sp' n' cap') 30)
  have heq := run_eq27 hp1 hq1 hp2 hq2
  have hsm : Hid (smB ps ls qs ls' = (decide (ps = qs) && decide (ls = ls'))) := Hid.mk' rfl
  have c1 := A0.stOut hp1 hp2
  have c2 := D0.stOut hq1 hq2
  have hE := Hid.mk' (outsEqual_any _ _ sp sp' n n' cap cap' ls ls' _ (hS.below B0).outs (hT.below B0).outs)
  cases hd : decide (ps = qs) with
  | true =>
    rw [hd] at heq
    replace hsm : Hid (smB ps ls qs ls' = decide (ls = ls')) := Hid.mk' (by rw [hsm.out, hd]; rfl)
    clear hd
    go_enter Try.func15, Try.ntmps15
    go_wp2_with (first
      | (refine ld27 (by rfl) _ (by rfl) w.heap.size 30 (by rfl) ps sp n cap hp1 hp2 A0 ?_)
      | (refine ld27 (by rfl) _ (by rfl) (w.heap.size + 1) 30 (by rfl) qs sp' n' cap' hq1 hq2 D0 ?_)
      | (go_at_call 52; go_must (refine hE.out.mono ?_; rintro e w1 ⟨rfl, hb1⟩)))
    go_ret
    exact ⟨by rw [hsm.out]; rfl, B0.trans (hb1.mono B0.size)⟩
  | false =>
    rw [hd] at heq
    replace hsm : Hid (smB ps ls qs ls' = false) := Hid.mk' (by rw [hsm.out, hd]; rfl)
    clear hd
    go_enter Try.func15, Try.ntmps15
    go_wp2_with (first
      | (refine ld27 (by rfl) _ (by rfl) w.heap.size 30 (by rfl) ps sp n cap hp1 hp2 A0 ?_)
      | (refine ld27 (by rfl) _ (by rfl) (w.heap.size + 1) 30 (by rfl) qs sp' n' cap' hq1 hq2 D0 ?_))
    go_ret
    exact ⟨by rw [hsm.out]; rfl, B0⟩
set_option maxHeartbeats 2000000 in
theorem refSsame_any (ps : List Ac) (N : Nat) (sp : Option Addr) (n cap : Nat) (ls : List Ou) (qs : List Ac) (N' : Nat) (sp' : Option Addr) (n' cap' : Nat) (ls' : List Ou) (w : World) (hS : SS N w ps sp n cap ls) (hT : SS N' w qs sp' n' cap' ls') :
    Calls Try.prog 16 #[.agg (stA ps sp n cap), .agg (stA qs sp' n' cap')] w fun e w' => e = .returned (.bool (smB ps ls qs ls')) ∧ Below w.heap.size w w' := by
  have hp1 := hS.a32.out
  have hp2 := hS.l32
  have hq1 := hT.a32.out
  have hq2 := hT.l32
  have hS := hS.here
  have hT := hT.here
  have A0 := (Arr.new w 30 (stA ps sp n cap)).alloc (.cells (stA qs sp' n' cap') 30)
  have D0 : Arr ((w.alloc (.cells (stA ps sp n cap) 30)).alloc (.cells (stA qs sp' n' cap') 30)) (w.heap.size + 1) 30 (stA qs sp' n' cap') := by simpa using Arr.new (w.alloc (.cells (stA ps sp n cap) 30)) 30 (stA qs sp' n' cap')
  have B0 := (alloc_bel' w (.cells (stA ps sp n cap) 30)).alloc (by simp) (.cells (stA qs sp' n' cap') 30)
  have heq := run_neq27 hp1 hq1 hp2 hq2
  have hsm : Hid (smB ps ls qs ls' = (decide (ps = qs) && decide (ls = ls'))) := Hid.mk' rfl
  have c1 := A0.stOut hp1 hp2
  have c2 := D0.stOut hq1 hq2
  have hl := hS.outs.len
  have hl' := hT.outs.len
  have hbn := hS.outs.small
  cases hd : decide (ps = qs) with
  | true =>
    rw [hd] at heq
    replace hsm : Hid (smB ps ls qs ls' = decide (ls = ls')) := Hid.mk' (by rw [hsm.out, hd]; rfl)
    clear hd
    by_cases hnn : n = n'
    · subst hnn
      have hlen : Hid (ls.length = ls'.length) := Hid.mk' (by rw [← hl.out, ← hl'.out])
      have hnn : ((n : Int) != n) = false := by simp
      have hS0 := (hS.below B0).outs.here
      have hS0' := (hT.below B0).outs.here
      clear hS hT
      go_enter Try.func16, Try.ntmps16
      go_upto_region 4 with (first
        | (refine ld27 (by rfl) _ (by rfl) w.heap.size 30 (by rfl) ps sp n cap hp1 hp2 A0 ?_)
        | (refine ld27 (by rfl) _ (by rfl) (w.heap.size + 1) 30 (by rfl) qs sp' n cap' hq1 hq2 D0 ?_))
      clear c1 c2
      have A1 := A0
      have D1 := D0
      clear A0 D0
      generalize (w.alloc (.cells (stA ps sp n cap) 30)).alloc (.cells (stA qs sp' n cap') 30) = W0 at *
      go_loopw [5] (fun q wr => ∃ j : Nat, q = .int .i64 (j : Int) ∧ j ≤ n ∧ Below W0.heap.size W0 wr ∧ Hid (∀ i, i < j → ls[i]? = ls'[i]?)) (fun q _ => n - (intOf q).toNat)
      case atStart => exact ⟨0, rfl, by omega, Below.refl _ _, Hid.mk' (fun i hi => by omega)⟩
      case round =>
        obtain ⟨j, rfl, hj, hbl, hsame⟩ := hrel
        have hszr := hbl.size
        have hS := hS0.below hbl
        have hS' := hS0'.below hbl
        have hA1 := A1.below hbl A1.lt
        have hA2 := D1.below hbl D1.lt
        have c1 := hA1.stOut hp1 hp2
        have c2 := hA2.stOut hq1 hq2
        by_cases hlt : j < n
        · have hI : (j : Int) < n := by omega
          obtain ⟨g, off, rfl, hgN, hR⟩ := hS.at0 (by omega)
          obtain ⟨g', off', rfl, hgN', hR'⟩ := hS'.at0 (by omega)
          obtain ⟨X, hX⟩ : ∃ X, ls[j]? = some X := ⟨ls[j]'(by rw [← hl.out]; exact hlt), List.getElem?_eq_getElem _⟩
          obtain ⟨Y, hY⟩ : ∃ X, ls'[j]? = some X := ⟨ls'[j]'(by rw [← hl'.out]; exact hlt), List.getElem?_eq_getElem _⟩
          have h1 := hR j X hX
          have h2 := hR' j Y hY
          have hgl : g < wr.heap.size := Nat.lt_of_lt_of_le hgN (by omega)
          have hgl' : g' < wr.heap.size := Nat.lt_of_lt_of_le hgN' (by omega)
          have hne := run_neq53 X Y
          replace hX := Hid.mk' hX
          replace hY := Hid.mk' hY
          clear hR hR'
          cases hd : decide (X = Y) with
          | true =>
            rw [hd] at hne
            have hXY := Hid.mk' (of_decide_eq_true hd)
            clear hd
            go_wp2_with fail
            refine wp_region_held_drew (S := fun u => Below wr.heap.size wr u) (by kernel_rfl) ((Below.refl _ _).drew) (fun hHeld => ?_)
            refine wpAnyH_take (i := 0) (oi := ⟨_, _, _, _, _, _⟩) (v := ?_) rfl (by kernel_rfl) (by kernel_rfl) (by kernel_rfl) (fun _ _ _ h => h) (Or.inl ⟨by rfl, ?_⟩) (by assumption) ?_
            rotate_left
            · intro u hSw
              go_simp
              try (with_reducible rfl)
            try simp only [Act.put, List.setIfInBounds_toArray, List.set_cons_zero, List.set_cons_succ]
            refine wpAnyH_take (i := 1) (oi := ⟨_, _, _, _, _, _⟩) (v := ?_) rfl (by kernel_rfl) (by kernel_rfl) (by kernel_rfl) (fun _ _ _ h => h) (Or.inl ⟨by rfl, ?_⟩) (by assumption) ?_
            rotate_left
            · intro u hSw
              have cc := (hSw.cell (p := ⟨w.heap.size, 1088, none⟩) hA1.lt).trans c1
              go_simp
              try (with_reducible rfl)
            try simp only [Act.put, List.setIfInBounds_toArray, List.set_cons_zero, List.set_cons_succ]
            refine wpAnyH_take (i := 2) (oi := ⟨_, _, _, _, _, _⟩) (v := ?_) rfl (by kernel_rfl) (by kernel_rfl) (by kernel_rfl) (fun _ _ _ h => h) (Or.inl ⟨by rfl, ?_⟩) (by assumption) ?_
            rotate_left
            · intro u hSw
              go_simp
              try (with_reducible rfl)
            try simp only [Act.put, List.setIfInBounds_toArray, List.set_cons_zero, List.set_cons_succ]
            refine wpAnyH_take (i := 3) (oi := ⟨_, _, _, _, _, _⟩) (v := ?_) rfl (by kernel_rfl) (by kernel_rfl) (by kernel_rfl) (fun _ _ _ h => h) (Or.inl ⟨by rfl, ?_⟩) (by assumption) ?_
            rotate_left
            · intro u hSw
              go_simp
              try (with_reducible rfl)
            try simp only [Act.put, List.setIfInBounds_toArray, List.set_cons_zero, List.set_cons_succ]
            refine wpAnyH_take (i := 4) (oi := ⟨_, _, _, _, _, _⟩) rfl (by kernel_rfl) (by kernel_rfl) (by kernel_rfl) (fun _ _ _ h => h) (y53 (by rfl) (.tmp 30) rfl g (off + j * 2) rfl X (fun u hu => range_below h1 hu hgl)) (by assumption) ?_
            try simp only [Act.put, List.setIfInBounds_toArray, List.set_cons_zero, List.set_cons_succ]
            refine wpAnyH_take (i := 5) (oi := ⟨_, _, _, _, _, _⟩) (v := ?_) rfl (by kernel_rfl) (by kernel_rfl) (by kernel_rfl) (fun _ _ _ h => h) (Or.inl ⟨by rfl, ?_⟩) (by assumption) ?_
            rotate_left
            · intro u hSw
              go_simp
              try (with_reducible rfl)
            try simp only [Act.put, List.setIfInBounds_toArray, List.set_cons_zero, List.set_cons_succ]
            refine wpAnyH_take (i := 6) (oi := ⟨_, _, _, _, _, _⟩) (v := ?_) rfl (by kernel_rfl) (by kernel_rfl) (by kernel_rfl) (fun _ _ _ h => h) (Or.inl ⟨by rfl, ?_⟩) (by assumption) ?_
            rotate_left
            · intro u hSw
              have cc := (hSw.cell (p := ⟨w.heap.size + 1, 1088, none⟩) hA2.lt).trans c2
              go_simp
              try (with_reducible rfl)
            try simp only [Act.put, List.setIfInBounds_toArray, List.set_cons_zero, List.set_cons_succ]
            refine wpAnyH_take (i := 7) (oi := ⟨_, _, _, _, _, _⟩) (v := ?_) rfl (by kernel_rfl) (by kernel_rfl) (by kernel_rfl) (fun _ _ _ h => h) (Or.inl ⟨by rfl, ?_⟩) (by assumption) ?_
            rotate_left
            · intro u hSw
              go_simp
              try (with_reducible rfl)
            try simp only [Act.put, List.setIfInBounds_toArray, List.set_cons_zero, List.set_cons_succ]
            refine wpAnyH_take (i := 8) (oi := ⟨_, _, _, _, _, _⟩) (v := ?_) rfl (by kernel_rfl) (by kernel_rfl) (by kernel_rfl) (fun _ _ _ h => h) (Or.inl ⟨by rfl, ?_⟩) (by assumption) ?_
            rotate_left
            · intro u hSw
              go_simp
              try (with_reducible rfl)
            try simp only [Act.put, List.setIfInBounds_toArray, List.set_cons_zero, List.set_cons_succ]
            refine wpAnyH_take (i := 9) (oi := ⟨_, _, _, _, _, _⟩) rfl (by kernel_rfl) (by kernel_rfl) (by kernel_rfl) (fun _ _ _ h => h) (y53 (by rfl) (.tmp 35) rfl g' (off' + j * 2) rfl Y (fun u hu => range_below h2 hu hgl')) (by assumption) ?_
            try simp only [Act.put, List.setIfInBounds_toArray, List.set_cons_zero, List.set_cons_succ]
            refine wpAnyH_take (i := 10) (oi := ⟨_, _, _, _, _, _⟩) (v := ?_) rfl (by kernel_rfl) (by kernel_rfl) (by kernel_rfl) (fun _ _ _ h => h) (Or.inl ⟨by rfl, ?_⟩) (by assumption) ?_
            rotate_left
            · intro u hSw
              go_simp
              try (with_reducible rfl)
            try simp only [Act.put, List.setIfInBounds_toArray, List.set_cons_zero, List.set_cons_succ]
            refine wpAnyH_done (by kernel_rfl) ?_ _

            go_wp2_with fail
            go_roundw
            case rel =>
              refine ⟨j + 1, by go_num, by omega, hbl.drew, Hid.mk' (fun i hi => ?_)⟩
              by_cases hij : i = j
              · subst hij; rw [hX.out, hY.out, hXY.out]
              · exact hsame.out i (by omega)
            case measure => simp [intOf]; omega
          | false =>
            rw [hd] at hne
            have hfin : Hid (decide (ls = ls') = false) := Hid.mk' (decide_eq_false (list_take_ne hX.out hY.out (of_decide_eq_false hd)))
            clear hd
            go_wp2_with fail
            refine wp_region_held_drew (S := fun u => Below wr.heap.size wr u) (by kernel_rfl) ((Below.refl _ _).drew) (fun hHeld => ?_)
            refine wpAnyH_take (i := 0) (oi := ⟨_, _, _, _, _, _⟩) (v := ?_) rfl (by kernel_rfl) (by kernel_rfl) (by kernel_rfl) (fun _ _ _ h => h) (Or.inl ⟨by rfl, ?_⟩) (by assumption) ?_
            rotate_left
            · intro u hSw
              go_simp
              try (with_reducible rfl)
            try simp only [Act.put, List.setIfInBounds_toArray, List.set_cons_zero, List.set_cons_succ]
            refine wpAnyH_take (i := 1) (oi := ⟨_, _, _, _, _, _⟩) (v := ?_) rfl (by kernel_rfl) (by kernel_rfl) (by kernel_rfl) (fun _ _ _ h => h) (Or.inl ⟨by rfl, ?_⟩) (by assumption) ?_
            rotate_left
            · intro u hSw
              have cc := (hSw.cell (p := ⟨w.heap.size, 1088, none⟩) hA1.lt).trans c1
              go_simp
              try (with_reducible rfl)
            try simp only [Act.put, List.setIfInBounds_toArray, List.set_cons_zero, List.set_cons_succ]
            refine wpAnyH_take (i := 2) (oi := ⟨_, _, _, _, _, _⟩) (v := ?_) rfl (by kernel_rfl) (by kernel_rfl) (by kernel_rfl) (fun _ _ _ h => h) (Or.inl ⟨by rfl, ?_⟩) (by assumption) ?_
            rotate_left
            · intro u hSw
              go_simp
              try (with_reducible rfl)
            try simp only [Act.put, List.setIfInBounds_toArray, List.set_cons_zero, List.set_cons_succ]
            refine wpAnyH_take (i := 3) (oi := ⟨_, _, _, _, _, _⟩) (v := ?_) rfl (by kernel_rfl) (by kernel_rfl) (by kernel_rfl) (fun _ _ _ h => h) (Or.inl ⟨by rfl, ?_⟩) (by assumption) ?_
            rotate_left
            · intro u hSw
              go_simp
              try (with_reducible rfl)
            try simp only [Act.put, List.setIfInBounds_toArray, List.set_cons_zero, List.set_cons_succ]
            refine wpAnyH_take (i := 4) (oi := ⟨_, _, _, _, _, _⟩) rfl (by kernel_rfl) (by kernel_rfl) (by kernel_rfl) (fun _ _ _ h => h) (y53 (by rfl) (.tmp 30) rfl g (off + j * 2) rfl X (fun u hu => range_below h1 hu hgl)) (by assumption) ?_
            try simp only [Act.put, List.setIfInBounds_toArray, List.set_cons_zero, List.set_cons_succ]
            refine wpAnyH_take (i := 5) (oi := ⟨_, _, _, _, _, _⟩) (v := ?_) rfl (by kernel_rfl) (by kernel_rfl) (by kernel_rfl) (fun _ _ _ h => h) (Or.inl ⟨by rfl, ?_⟩) (by assumption) ?_
            rotate_left
            · intro u hSw
              go_simp
              try (with_reducible rfl)
            try simp only [Act.put, List.setIfInBounds_toArray, List.set_cons_zero, List.set_cons_succ]
            refine wpAnyH_take (i := 6) (oi := ⟨_, _, _, _, _, _⟩) (v := ?_) rfl (by kernel_rfl) (by kernel_rfl) (by kernel_rfl) (fun _ _ _ h => h) (Or.inl ⟨by rfl, ?_⟩) (by assumption) ?_
            rotate_left
            · intro u hSw
              have cc := (hSw.cell (p := ⟨w.heap.size + 1, 1088, none⟩) hA2.lt).trans c2
              go_simp
              try (with_reducible rfl)
            try simp only [Act.put, List.setIfInBounds_toArray, List.set_cons_zero, List.set_cons_succ]
            refine wpAnyH_take (i := 7) (oi := ⟨_, _, _, _, _, _⟩) (v := ?_) rfl (by kernel_rfl) (by kernel_rfl) (by kernel_rfl) (fun _ _ _ h => h) (Or.inl ⟨by rfl, ?_⟩) (by assumption) ?_
            rotate_left
            · intro u hSw
              go_simp
              try (with_reducible rfl)
            try simp only [Act.put, List.setIfInBounds_toArray, List.set_cons_zero, List.set_cons_succ]
            refine wpAnyH_take (i := 8) (oi := ⟨_, _, _, _, _, _⟩) (v := ?_) rfl (by kernel_rfl) (by kernel_rfl) (by kernel_rfl) (fun _ _ _ h => h) (Or.inl ⟨by rfl, ?_⟩) (by assumption) ?_
            rotate_left
            · intro u hSw
              go_simp
              try (with_reducible rfl)
            try simp only [Act.put, List.setIfInBounds_toArray, List.set_cons_zero, List.set_cons_succ]
            refine wpAnyH_take (i := 9) (oi := ⟨_, _, _, _, _, _⟩) rfl (by kernel_rfl) (by kernel_rfl) (by kernel_rfl) (fun _ _ _ h => h) (y53 (by rfl) (.tmp 35) rfl g' (off' + j * 2) rfl Y (fun u hu => range_below h2 hu hgl')) (by assumption) ?_
            try simp only [Act.put, List.setIfInBounds_toArray, List.set_cons_zero, List.set_cons_succ]
            refine wpAnyH_take (i := 10) (oi := ⟨_, _, _, _, _, _⟩) (v := ?_) rfl (by kernel_rfl) (by kernel_rfl) (by kernel_rfl) (fun _ _ _ h => h) (Or.inl ⟨by rfl, ?_⟩) (by assumption) ?_
            rotate_left
            · intro u hSw
              go_simp
              try (with_reducible rfl)
            try simp only [Act.put, List.setIfInBounds_toArray, List.set_cons_zero, List.set_cons_succ]
            refine wpAnyH_done (by kernel_rfl) ?_ _

            go_wp2_with fail
            go_ret
            exact ⟨by rw [hsm.out, hfin.out]; rfl, (B0.trans (hbl.mono B0.size)).drew⟩
        · obtain rfl : j = n := by omega
          have hI : ¬ (j : Int) < j := by omega
          have hfin : Hid (decide (ls = ls') = true) := Hid.mk' (decide_eq_true (list_ext_take hlen.out (by rw [← hl.out]; exact hsame.out)))
          go_wp2_with fail
          go_ret
          exact ⟨by rw [hsm.out, hfin.out]; rfl, (B0.trans (hbl.mono B0.size))⟩
    · have hne : ((n : Int) != n') = true := by simp; omega
      have hfin : Hid (decide (ls = ls') = false) := Hid.mk' (decide_eq_false (fun e => hnn (by rw [hl.out, hl'.out, e])))
      replace hnn := Hid.mk' hnn
      go_enter Try.func16, Try.ntmps16
      go_wp2_with (first
        | (refine ld27 (by rfl) _ (by rfl) w.heap.size 30 (by rfl) ps sp n cap hp1 hp2 A0 ?_)
        | (refine ld27 (by rfl) _ (by rfl) (w.heap.size + 1) 30 (by rfl) qs sp' n' cap' hq1 hq2 D0 ?_))
      go_ret
      exact ⟨by rw [hsm.out, hfin.out]; rfl, B0⟩
  | false =>
    rw [hd] at heq
    replace hsm : Hid (smB ps ls qs ls' = false) := Hid.mk' (by rw [hsm.out, hd]; rfl)
    clear hd
    go_enter Try.func16, Try.ntmps16
    go_wp2_with (first
      | (refine ld27 (by rfl) _ (by rfl) w.heap.size 30 (by rfl) ps sp n cap hp1 hp2 A0 ?_)
      | (refine ld27 (by rfl) _ (by rfl) (w.heap.size + 1) 30 (by rfl) qs sp' n' cap' hq1 hq2 D0 ?_))
    go_ret
    exact ⟨by rw [hsm.out]; rfl, B0⟩
end Go.Proofs.Ytlebojbfcolkhaa
