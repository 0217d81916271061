/- Layer compile: what the layers below give. -/
import Derived.Test.YtimmiidkjpbffaaX01
import Derived.Test.YtimmiidkjpbffaaX02
import Derived.Test.YtimmiidkjpbffaaX03
import Derived.Test.YtimmiidkjpbffaaX08
import Derived.Test.YtimmiidkjpbffaaX41
import Derived.Test.YtimmiidkjpbffaaX27
import Derived.Test.YtimmiidkjpbffaaX21
import Derived.Test.YtimmiidkjpbffaaX28
import Derived.Test.YtimmiidkjpbffaaX29
import Derived.Test.YtimmiidkjpbffaaX30
import Derived.Test.YtimmiidkjpbffaaX31
import Derived.Test.YtimmiidkjpbffaaX47
import Derived.BigQuiet
import Derived.BigRegion
import Derived.ChangeKeysEq
import Derived.Deep.DeepCutAuto
import Derived.Deep.DrawnRows
import Derived.Deep.MidRow
import Derived.Deep.QuietTactic
import Derived.Deep.RegionHeld3
import Derived.Deep.RegionLaw
import Derived.Deep.RegionWith
import Derived.Deep.WholeRow
import Derived.DeepKeys3
import Derived.Great.BuildSlice
import Derived.Laws.AppendOwnNone
import Derived.Laws.BitsLemmas
import Derived.Laws.BytesArg
import Derived.Laws.CopyOwn
import Derived.Laws.ResultCell
import Derived.Laws.Tables
import Derived.Lib.SlBytesConst
import Derived.LoopIn
import Derived.LoopNIn
import Derived.Maps.AppendAt
import Derived.OwnWalkIn
import Derived.RangeFuncBound
import Derived.RangeFuncCalls
import Derived.RangeFuncLeaves
import Derived.RangeFuncNested
import Derived.RangeFuncRecord
import Derived.Recover
import Derived.Shelf.Abstract
import Derived.Shelf.RegionOpen
import Derived.TacticsInMore
import Derived.WalkKit
import Derived.WalkLawsBesides
import Derived.WalkSpells
namespace Go.Proofs.Ytimmiidkjpbffaa
open Go.RowKit
set_option maxRecDepth 100000
set_option linter.unusedVariables false
set_option linter.unusedSimpArgs false

theorem atLx {P : Program} {ops : Array Oper} {Q : Exit → Act → World → Prop} {rest : List Oper} {o : Oper} {a : Act} {w : World} (ty : TypeId) (x : Operand) (ho : o.op = .load ty x) (h : wpList P ops Q (o :: rest) a w) : wpList P ops Q (o :: rest) a w := h
set_option maxHeartbeats 2000000 in
theorem refSame_any (m k : Mc) (sp : Option Addr) (n cap : Nat) (sq : Option Addr) (nq cq : Nat) (N : Nat) (w : World) (hok : m.ok) (hok2 : k.ok) (hS : MS N w sp n cap m.me) (hT : MS N w sq nq cq k.me) :
    Calls Try.prog 10 #[.agg (mcA m sp n cap), .agg (mcA k sq nq cq)] w fun e w' => e = .returned (.bool (smB m k)) ∧ Below w.heap.size w w' := by
  have A0 := (Arr.new w 29 (mcA m sp n cap)).alloc (.cells (mcA k sq nq cq) 29)
  have A1 := Arr.new (w.alloc (.cells (mcA m sp n cap) 29)) 29 (mcA k sq nq cq)
  simp only [World.size_alloc] at A1
  have hb0 := (alloc_bel' w (.cells (mcA m sp n cap) 29)).alloc (by simp) (.cells (mcA k sq nq cq) 29)
  have hS' := hS.here.below hb0
  have hT' := hT.here.below hb0
  have r1 := mcA_range hok.r16 A0
  have r2 := mcA_range hok2.r16 A1
  have a0 := (A0.cell 0).trans (mcA_0 m sp n cap)
  have a17 := (A0.cell 17).trans (mcA_17 hok.r16 sp n cap)
  have a18 := (A0.cell 18).trans (mcA_18 hok.r16 sp n cap)
  have b0 := (A1.cell 0).trans (mcA_0 k sq nq cq)
  have b17 := (A1.cell 17).trans (mcA_17 hok2.r16 sq nq cq)
  have b18 := (A1.cell 18).trans (mcA_18 hok2.r16 sq nq cq)
  have h16 := hok.r16
  have h16' := hok2.r16
  unfold smB
  generalize mcA m sp n cap = C at *
  generalize mcA k sq nq cq = D at *
  have q1 := run_neq41 h16 h16'
  have hl := hS.len
  have hk := hT.len
  have hsm := hS.small
  have hsm2 := hT.small
  by_cases e1 : m.pc = k.pc
  rotate_left
  · have e1' : (m.pc != k.pc) = true := by simpa using e1
    rw [decide_eq_false e1]
    replace e1 := Hid.mk' e1
    go_enter Try.func10, Try.ntmps10
    go_wp2_with fail
    go_ret
    exact ⟨rfl, hb0⟩
  have e1' : (m.pc != k.pc) = false := by simpa using e1
  rw [decide_eq_true e1]
  replace e1 := Hid.mk' e1
  by_cases e2 : m.rg = k.rg
  rotate_left
  · rw [decide_eq_false e2] at q1 ⊢
    simp only [Bool.not_false] at q1
    replace e2 := Hid.mk' e2
    go_enter Try.func10, Try.ntmps10
    go_wp2_with (first
    | (refine atLx 26 (.tmp 12) (by rfl) ?_; refine ld41g (by rfl) (.tmp 12) (by rfl) w.heap.size 1 (by rfl) m.rg h16 r1 ?_)
    | (refine atLx 26 (.tmp 14) (by rfl) ?_; refine ld41g (by rfl) (.tmp 14) (by rfl) (w.heap.size + 1) 1 (by rfl) k.rg h16' r2 ?_))
    go_ret
    exact ⟨rfl, hb0⟩
  rw [decide_eq_true e2] at q1 ⊢
  simp only [Bool.not_true] at q1
  replace e2 := Hid.mk' e2
  by_cases e3 : m.st = k.st
  rotate_left
  · have e3' : (m.st != k.st) = true := by simpa using e3
    rw [decide_eq_false e3]
    replace e3 := Hid.mk' e3
    go_enter Try.func10, Try.ntmps10
    go_wp2_with (first
    | (refine atLx 26 (.tmp 12) (by rfl) ?_; refine ld41g (by rfl) (.tmp 12) (by rfl) w.heap.size 1 (by rfl) m.rg h16 r1 ?_)
    | (refine atLx 26 (.tmp 14) (by rfl) ?_; refine ld41g (by rfl) (.tmp 14) (by rfl) (w.heap.size + 1) 1 (by rfl) k.rg h16' r2 ?_))
    go_ret
    exact ⟨rfl, hb0⟩
  have e3' : (m.st != k.st) = false := by simpa using e3
  rw [decide_eq_true e3]
  replace e3 := Hid.mk' e3
  by_cases hne : n = nq
  rotate_left
  · have hNe : ((n : Int) != (nq : Int)) = true := by simp; omega
    have hf : decide (m.me = k.me) = false := ne_of_len (by rw [← hl.out, ← hk.out]; exact hne)
    rw [hf]
    clear hf
    go_enter Try.func10, Try.ntmps10
    go_wp2_with (first
    | (refine atLx 26 (.tmp 12) (by rfl) ?_; refine ld41g (by rfl) (.tmp 12) (by rfl) w.heap.size 1 (by rfl) m.rg h16 r1 ?_)
    | (refine atLx 26 (.tmp 14) (by rfl) ?_; refine ld41g (by rfl) (.tmp 14) (by rfl) (w.heap.size + 1) 1 (by rfl) k.rg h16' r2 ?_))
    go_ret
    exact ⟨rfl, hb0⟩
  have hNe : ((n : Int) != (nq : Int)) = false := by simp; omega
  subst hne
  obtain ⟨L, hL⟩ : ∃ L, L = m.me := ⟨_, rfl⟩
  obtain ⟨M, hM⟩ : ∃ M, M = k.me := ⟨_, rfl⟩
  rw [← hL, ← hM]
  rw [← hL] at hS' hl
  rw [← hM] at hT' hk
  clear hL hM hS hT
  go_enter Try.func10, Try.ntmps10
  go_wp2_with (first
    | (refine atLx 26 (.tmp 12) (by rfl) ?_; refine ld41g (by rfl) (.tmp 12) (by rfl) w.heap.size 1 (by rfl) m.rg h16 r1 ?_)
    | (refine atLx 26 (.tmp 14) (by rfl) ?_; refine ld41g (by rfl) (.tmp 14) (by rfl) (w.heap.size + 1) 1 (by rfl) k.rg h16' r2 ?_))
  go_loopw [5] (fun q wr => ∃ (j : Nat), q = .int .i64 (j : Int) ∧ j ≤ n ∧ Below ((w.alloc (.cells C 29)).alloc (.cells D 29)).heap.size ((w.alloc (.cells C 29)).alloc (.cells D 29)) wr ∧ Hid (∀ t, t < j → L.getD t 0 = M.getD t 0))
    (fun q _ => n - (intOf q).toNat)
  case atStart => exact ⟨0, rfl, by omega, Below.refl _ _, Hid.mk' (fun t ht => by omega)⟩
  case round =>
    obtain ⟨j, rfl, hj, hbl, hall⟩ := hrel
    have a18r := (hbl.cell (p := ⟨w.heap.size, 18, none⟩) A0.lt).trans a18
    have b18r := (hbl.cell (p := ⟨w.heap.size + 1, 18, none⟩) A1.lt).trans b18
    have hbw := hb0.trans (hbl.mono hb0.size)
    by_cases hlt : j < n
    · have hI : (j : Int) < n := by omega
      obtain ⟨g, off, rfl, hg, hc⟩ := (hS'.below (hbl.mono hb0.size)).at0 (by omega)
      obtain ⟨g2, off2, rfl, hg2, hc2⟩ := (hT'.below (hbl.mono hb0.size)).at0 (by omega)
      have d1 := hc j hlt
      have d2 := hc2 j hlt
      by_cases he : L.getD j 0 = M.getD j 0
      · have he' : (L.getD j 0 != M.getD j 0) = false := by simpa using he
        have hn2 : Hid (∀ t, t < j + 1 → L.getD t 0 = M.getD t 0) := Hid.mk' (fun t ht => by
          by_cases e : t = j
          · subst e; exact he
          · exact hall.out t (by omega))
        generalize L.getD j 0 = a at *
        generalize M.getD j 0 = b at *
        replace he := Hid.mk' he
        clear hc hc2
        go_upto_region 6 with fail
        refine wp_region_held_drew (S := fun u => u = wr.drew) (by kernel_rfl) (rfl) (fun hHeld => ?_)
        refine wpAnyH_take (i := 0) (oi := ⟨_, _, _, _, _, _⟩) (v := ?_) rfl (by kernel_rfl) (by kernel_rfl) (by kernel_rfl) (fun _ _ _ h => h) (Or.inl ⟨by rfl, ?_⟩) (by assumption) ?_
        rotate_left
        · intro u hSw
          go_simp
          try (with_reducible rfl)
        try simp only [Act.put, List.setIfInBounds_toArray, List.set_cons_zero, List.set_cons_succ]
        refine wpAnyH_take (i := 1) (oi := ⟨_, _, _, _, _, _⟩) (v := ?_) rfl (by kernel_rfl) (by kernel_rfl) (by kernel_rfl) (fun _ _ _ h => h) (Or.inl ⟨by rfl, ?_⟩) (by assumption) ?_
        rotate_left
        · intro u hSw
          subst hSw
          go_simp
          try (with_reducible rfl)
        try simp only [Act.put, List.setIfInBounds_toArray, List.set_cons_zero, List.set_cons_succ]
        refine wpAnyH_take (i := 2) (oi := ⟨_, _, _, _, _, _⟩) (v := ?_) rfl (by kernel_rfl) (by kernel_rfl) (by kernel_rfl) (fun _ _ _ h => h) (Or.inl ⟨by rfl, ?_⟩) (by assumption) ?_
        rotate_left
        · intro u hSw
          go_simp
          try (with_reducible rfl)
        try simp only [Act.put, List.setIfInBounds_toArray, List.set_cons_zero, List.set_cons_succ]
        refine wpAnyH_take (i := 3) (oi := ⟨_, _, _, _, _, _⟩) (v := ?_) rfl (by kernel_rfl) (by kernel_rfl) (by kernel_rfl) (fun _ _ _ h => h) (Or.inl ⟨by rfl, ?_⟩) (by assumption) ?_
        rotate_left
        · intro u hSw
          go_simp
          try (with_reducible rfl)
        try simp only [Act.put, List.setIfInBounds_toArray, List.set_cons_zero, List.set_cons_succ]
        refine wpAnyH_take (i := 4) (oi := ⟨_, _, _, _, _, _⟩) (v := ?_) rfl (by kernel_rfl) (by kernel_rfl) (by kernel_rfl) (fun _ _ _ h => h) (Or.inl ⟨by rfl, ?_⟩) (by assumption) ?_
        rotate_left
        · intro u hSw
          subst hSw
          go_simp
          try (with_reducible rfl)
        try simp only [Act.put, List.setIfInBounds_toArray, List.set_cons_zero, List.set_cons_succ]
        refine wpAnyH_take (i := 5) (oi := ⟨_, _, _, _, _, _⟩) (v := ?_) rfl (by kernel_rfl) (by kernel_rfl) (by kernel_rfl) (fun _ _ _ h => h) (Or.inl ⟨by rfl, ?_⟩) (by assumption) ?_
        rotate_left
        · intro u hSw
          go_simp
          try (with_reducible rfl)
        try simp only [Act.put, List.setIfInBounds_toArray, List.set_cons_zero, List.set_cons_succ]
        refine wpAnyH_take (i := 6) (oi := ⟨_, _, _, _, _, _⟩) (v := ?_) rfl (by kernel_rfl) (by kernel_rfl) (by kernel_rfl) (fun _ _ _ h => h) (Or.inl ⟨by rfl, ?_⟩) (by assumption) ?_
        rotate_left
        · intro u hSw
          subst hSw
          go_simp
          try (with_reducible rfl)
        try simp only [Act.put, List.setIfInBounds_toArray, List.set_cons_zero, List.set_cons_succ]
        refine wpAnyH_take (i := 7) (oi := ⟨_, _, _, _, _, _⟩) (v := ?_) rfl (by kernel_rfl) (by kernel_rfl) (by kernel_rfl) (fun _ _ _ h => h) (Or.inl ⟨by rfl, ?_⟩) (by assumption) ?_
        rotate_left
        · intro u hSw
          go_simp
          try (with_reducible rfl)
        try simp only [Act.put, List.setIfInBounds_toArray, List.set_cons_zero, List.set_cons_succ]
        refine wpAnyH_take (i := 8) (oi := ⟨_, _, _, _, _, _⟩) (v := ?_) rfl (by kernel_rfl) (by kernel_rfl) (by kernel_rfl) (fun _ _ _ h => h) (Or.inl ⟨by rfl, ?_⟩) (by assumption) ?_
        rotate_left
        · intro u hSw
          go_simp
          try (with_reducible rfl)
        try simp only [Act.put, List.setIfInBounds_toArray, List.set_cons_zero, List.set_cons_succ]
        refine wpAnyH_take (i := 9) (oi := ⟨_, _, _, _, _, _⟩) (v := ?_) rfl (by kernel_rfl) (by kernel_rfl) (by kernel_rfl) (fun _ _ _ h => h) (Or.inl ⟨by rfl, ?_⟩) (by assumption) ?_
        rotate_left
        · intro u hSw
          subst hSw
          go_simp
          try (with_reducible rfl)
        try simp only [Act.put, List.setIfInBounds_toArray, List.set_cons_zero, List.set_cons_succ]
        refine wpAnyH_take (i := 10) (oi := ⟨_, _, _, _, _, _⟩) (v := ?_) rfl (by kernel_rfl) (by kernel_rfl) (by kernel_rfl) (fun _ _ _ h => h) (Or.inl ⟨by rfl, ?_⟩) (by assumption) ?_
        rotate_left
        · intro u hSw
          go_simp
          try (with_reducible rfl)
        try simp only [Act.put, List.setIfInBounds_toArray, List.set_cons_zero, List.set_cons_succ]
        refine wpAnyH_done (by kernel_rfl) ?_ _
        go_wp2_with fail
        go_roundw
        case rel => exact ⟨j + 1, by go_num, by omega, hbl.drew, hn2⟩
        case measure => simp [intOf]; omega
      · have he' : (L.getD j 0 != M.getD j 0) = true := by simpa using he
        have hf : Hid (decide (L = M) = false) := Hid.mk' (by simp; intro e; subst e; exact he rfl)
        generalize L.getD j 0 = a at *
        generalize M.getD j 0 = b at *
        replace he := Hid.mk' he
        clear hc hc2
        go_upto_region 6 with fail
        refine wp_region_held_drew (S := fun u => u = wr.drew) (by kernel_rfl) (rfl) (fun hHeld => ?_)
        refine wpAnyH_take (i := 0) (oi := ⟨_, _, _, _, _, _⟩) (v := ?_) rfl (by kernel_rfl) (by kernel_rfl) (by kernel_rfl) (fun _ _ _ h => h) (Or.inl ⟨by rfl, ?_⟩) (by assumption) ?_
        rotate_left
        · intro u hSw
          go_simp
          try (with_reducible rfl)
        try simp only [Act.put, List.setIfInBounds_toArray, List.set_cons_zero, List.set_cons_succ]
        refine wpAnyH_take (i := 1) (oi := ⟨_, _, _, _, _, _⟩) (v := ?_) rfl (by kernel_rfl) (by kernel_rfl) (by kernel_rfl) (fun _ _ _ h => h) (Or.inl ⟨by rfl, ?_⟩) (by assumption) ?_
        rotate_left
        · intro u hSw
          subst hSw
          go_simp
          try (with_reducible rfl)
        try simp only [Act.put, List.setIfInBounds_toArray, List.set_cons_zero, List.set_cons_succ]
        refine wpAnyH_take (i := 2) (oi := ⟨_, _, _, _, _, _⟩) (v := ?_) rfl (by kernel_rfl) (by kernel_rfl) (by kernel_rfl) (fun _ _ _ h => h) (Or.inl ⟨by rfl, ?_⟩) (by assumption) ?_
        rotate_left
        · intro u hSw
          go_simp
          try (with_reducible rfl)
        try simp only [Act.put, List.setIfInBounds_toArray, List.set_cons_zero, List.set_cons_succ]
        refine wpAnyH_take (i := 3) (oi := ⟨_, _, _, _, _, _⟩) (v := ?_) rfl (by kernel_rfl) (by kernel_rfl) (by kernel_rfl) (fun _ _ _ h => h) (Or.inl ⟨by rfl, ?_⟩) (by assumption) ?_
        rotate_left
        · intro u hSw
          go_simp
          try (with_reducible rfl)
        try simp only [Act.put, List.setIfInBounds_toArray, List.set_cons_zero, List.set_cons_succ]
        refine wpAnyH_take (i := 4) (oi := ⟨_, _, _, _, _, _⟩) (v := ?_) rfl (by kernel_rfl) (by kernel_rfl) (by kernel_rfl) (fun _ _ _ h => h) (Or.inl ⟨by rfl, ?_⟩) (by assumption) ?_
        rotate_left
        · intro u hSw
          subst hSw
          go_simp
          try (with_reducible rfl)
        try simp only [Act.put, List.setIfInBounds_toArray, List.set_cons_zero, List.set_cons_succ]
        refine wpAnyH_take (i := 5) (oi := ⟨_, _, _, _, _, _⟩) (v := ?_) rfl (by kernel_rfl) (by kernel_rfl) (by kernel_rfl) (fun _ _ _ h => h) (Or.inl ⟨by rfl, ?_⟩) (by assumption) ?_
        rotate_left
        · intro u hSw
          go_simp
          try (with_reducible rfl)
        try simp only [Act.put, List.setIfInBounds_toArray, List.set_cons_zero, List.set_cons_succ]
        refine wpAnyH_take (i := 6) (oi := ⟨_, _, _, _, _, _⟩) (v := ?_) rfl (by kernel_rfl) (by kernel_rfl) (by kernel_rfl) (fun _ _ _ h => h) (Or.inl ⟨by rfl, ?_⟩) (by assumption) ?_
        rotate_left
        · intro u hSw
          subst hSw
          go_simp
          try (with_reducible rfl)
        try simp only [Act.put, List.setIfInBounds_toArray, List.set_cons_zero, List.set_cons_succ]
        refine wpAnyH_take (i := 7) (oi := ⟨_, _, _, _, _, _⟩) (v := ?_) rfl (by kernel_rfl) (by kernel_rfl) (by kernel_rfl) (fun _ _ _ h => h) (Or.inl ⟨by rfl, ?_⟩) (by assumption) ?_
        rotate_left
        · intro u hSw
          go_simp
          try (with_reducible rfl)
        try simp only [Act.put, List.setIfInBounds_toArray, List.set_cons_zero, List.set_cons_succ]
        refine wpAnyH_take (i := 8) (oi := ⟨_, _, _, _, _, _⟩) (v := ?_) rfl (by kernel_rfl) (by kernel_rfl) (by kernel_rfl) (fun _ _ _ h => h) (Or.inl ⟨by rfl, ?_⟩) (by assumption) ?_
        rotate_left
        · intro u hSw
          go_simp
          try (with_reducible rfl)
        try simp only [Act.put, List.setIfInBounds_toArray, List.set_cons_zero, List.set_cons_succ]
        refine wpAnyH_take (i := 9) (oi := ⟨_, _, _, _, _, _⟩) (v := ?_) rfl (by kernel_rfl) (by kernel_rfl) (by kernel_rfl) (fun _ _ _ h => h) (Or.inl ⟨by rfl, ?_⟩) (by assumption) ?_
        rotate_left
        · intro u hSw
          subst hSw
          go_simp
          try (with_reducible rfl)
        try simp only [Act.put, List.setIfInBounds_toArray, List.set_cons_zero, List.set_cons_succ]
        refine wpAnyH_take (i := 10) (oi := ⟨_, _, _, _, _, _⟩) (v := ?_) rfl (by kernel_rfl) (by kernel_rfl) (by kernel_rfl) (fun _ _ _ h => h) (Or.inl ⟨by rfl, ?_⟩) (by assumption) ?_
        rotate_left
        · intro u hSw
          go_simp
          try (with_reducible rfl)
        try simp only [Act.put, List.setIfInBounds_toArray, List.set_cons_zero, List.set_cons_succ]
        refine wpAnyH_done (by kernel_rfl) ?_ _
        go_wp2_with fail
        go_ret
        exact ⟨by rw [hf.out]; rfl, hbw.drew⟩
    · obtain rfl : j = n := by omega
      have hf : Hid (decide (L = M) = true) := Hid.mk' (by
        rw [← getD_ext hl.out.symm hk.out.symm, List.all_eq_true]
        intro i hi
        have := hall.out i (by simpa using hi)
        simpa using this)
      go_wp2_with fail
      go_ret
      exact ⟨by rw [hf.out]; rfl, hbw⟩
end Go.Proofs.Ytimmiidkjpbffaa
