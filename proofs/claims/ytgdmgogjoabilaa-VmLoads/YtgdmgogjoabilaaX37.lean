/- Xa, Xb, Xl, Wh. -/
import Derived.Test.YtgdmgogjoabilaaX31
import Derived.Test.YtgdmgogjoabilaaX33
import Derived.Test.YtgdmgogjoabilaaX34
import Derived.Test.YtgdmgogjoabilaaX35
/- Layer vm: are two machines the same? as the document says. -/
namespace Go.Proofs.Ytgdmgogjoabilaa
open Go.RowKit
set_option maxRecDepth 100000
set_option linter.unusedVariables false
set_option linter.unusedSimpArgs false


theorem atLx {P : Program} {ops : Array Oper} {Q : Exit → Act → World → Prop} {rest : List Oper} {o : Oper} {a : Act} {w : World} (ty : TypeId) (x : Operand) (ho : o.op = .load ty x) (h : wpList P ops Q (o :: rest) a w) : wpList P ops Q (o :: rest) a w := h
theorem atSx {P : Program} {ops : Array Oper} {Q : Exit → Act → World → Prop} {rest : List Oper} {o : Oper} {a : Act} {w : World} (ty : TypeId) (x y : Operand) (ho : o.op = .store ty x y) (h : wpList P ops Q (o :: rest) a w) : wpList P ops Q (o :: rest) a w := h
set_option maxHeartbeats 2000000 in
theorem refSame_any (m k : Mc) (sp : Option Addr) (n cap : Nat) (sq : Option Addr) (nq cq : Nat) (N : Nat) (w : World) (hok : m.ok) (hok2 : k.ok) (hS : MS N w sp n cap m.me) (hT : MS N w sq nq cq k.me) :
    Calls Try.prog 19 #[.agg (mcA m sp n cap), .agg (mcA k sq nq cq)] w fun e w' => e = .returned (.bool (smB m k)) ∧ Below w.heap.size w w' := by
  have A0 := (Arr.new w 45 (mcA m sp n cap)).alloc (.cells (mcA k sq nq cq) 45)
  have A1 := Arr.new (w.alloc (.cells (mcA m sp n cap) 45)) 45 (mcA k sq nq cq)
  simp only [World.size_alloc] at A1
  have hb0 := (alloc_bel' w (.cells (mcA m sp n cap) 45)).alloc (by simp) (.cells (mcA k sq nq cq) 45)
  have hS' := hS.here.below hb0
  have hT' := hT.here.below hb0
  have r1 := mcA_range hok.r16 A0
  have r2 := mcA_range hok2.r16 A1
  have a0 := (A0.cell 0).trans (mcA_0 m sp n cap)
  have a17 := (A0.cell 17).trans (mcA_17 hok.r16 sp n cap)
  have a18 := (A0.cell 18).trans (mcA_18 hok.r16 sp n cap)
  have b0 := (A1.cell 0).trans (mcA_0 k sq nq cq)
  have b17 := (A1.cell 17).trans (mcA_17 hok2.r16 sq nq cq)
  have b18 := (A1.cell 18).trans (mcA_18 hok2.r16 sq nq cq)
  have h16 := hok.r16
  have h16' := hok2.r16
  unfold smB
  generalize mcA m sp n cap = C at *
  generalize mcA k sq nq cq = D at *
  have q1 := run_neq41 h16 h16'
  have hl := hS.len
  have hk := hT.len
  have hsm := hS.small
  have hsm2 := hT.small
  by_cases e1 : m.pc = k.pc
  rotate_left
  · have e1' : (m.pc != k.pc) = true := by simpa using e1
    rw [decide_eq_false e1]
    replace e1 := Hid.mk' e1
    go_enter Try.func19, Try.ntmps19
    go_wp2_with fail
    go_ret
    exact ⟨rfl, hb0⟩
  have e1' : (m.pc != k.pc) = false := by simpa using e1
  rw [decide_eq_true e1]
  replace e1 := Hid.mk' e1
  by_cases e2 : m.rg = k.rg
  rotate_left
  · rw [decide_eq_false e2] at q1 ⊢
    simp only [Bool.not_false] at q1
    replace e2 := Hid.mk' e2
    go_enter Try.func19, Try.ntmps19
    go_wp2_with (first
    | (refine atLx 41 (.tmp 12) (by rfl) ?_; refine ld41g (by rfl) (.tmp 12) (by rfl) w.heap.size 1 (by rfl) m.rg h16 r1 ?_)
    | (refine atLx 41 (.tmp 14) (by rfl) ?_; refine ld41g (by rfl) (.tmp 14) (by rfl) (w.heap.size + 1) 1 (by rfl) k.rg h16' r2 ?_))
    go_ret
    exact ⟨rfl, hb0⟩
  rw [decide_eq_true e2] at q1 ⊢
  simp only [Bool.not_true] at q1
  replace e2 := Hid.mk' e2
  by_cases e3 : m.st = k.st
  rotate_left
  · have e3' : (m.st != k.st) = true := by simpa using e3
    rw [decide_eq_false e3]
    replace e3 := Hid.mk' e3
    go_enter Try.func19, Try.ntmps19
    go_wp2_with (first
    | (refine atLx 41 (.tmp 12) (by rfl) ?_; refine ld41g (by rfl) (.tmp 12) (by rfl) w.heap.size 1 (by rfl) m.rg h16 r1 ?_)
    | (refine atLx 41 (.tmp 14) (by rfl) ?_; refine ld41g (by rfl) (.tmp 14) (by rfl) (w.heap.size + 1) 1 (by rfl) k.rg h16' r2 ?_))
    go_ret
    exact ⟨rfl, hb0⟩
  have e3' : (m.st != k.st) = false := by simpa using e3
  rw [decide_eq_true e3]
  replace e3 := Hid.mk' e3
  by_cases hne : n = nq
  rotate_left
  · have hNe : ((n : Int) != (nq : Int)) = true := by simp; omega
    have hf : decide (m.me = k.me) = false := ne_of_len (by rw [← hl.out, ← hk.out]; exact hne)
    rw [hf]
    clear hf
    go_enter Try.func19, Try.ntmps19
    go_wp2_with (first
    | (refine atLx 41 (.tmp 12) (by rfl) ?_; refine ld41g (by rfl) (.tmp 12) (by rfl) w.heap.size 1 (by rfl) m.rg h16 r1 ?_)
    | (refine atLx 41 (.tmp 14) (by rfl) ?_; refine ld41g (by rfl) (.tmp 14) (by rfl) (w.heap.size + 1) 1 (by rfl) k.rg h16' r2 ?_))
    go_ret
    exact ⟨rfl, hb0⟩
  have hNe : ((n : Int) != (nq : Int)) = false := by simp; omega
  subst hne
  obtain ⟨L, hL⟩ : ∃ L, L = m.me := ⟨_, rfl⟩
  obtain ⟨M, hM⟩ : ∃ M, M = k.me := ⟨_, rfl⟩
  rw [← hL, ← hM]
  rw [← hL] at hS' hl
  rw [← hM] at hT' hk
  clear hL hM hS hT
  go_enter Try.func19, Try.ntmps19
  go_wp2_with (first
    | (refine atLx 41 (.tmp 12) (by rfl) ?_; refine ld41g (by rfl) (.tmp 12) (by rfl) w.heap.size 1 (by rfl) m.rg h16 r1 ?_)
    | (refine atLx 41 (.tmp 14) (by rfl) ?_; refine ld41g (by rfl) (.tmp 14) (by rfl) (w.heap.size + 1) 1 (by rfl) k.rg h16' r2 ?_))
  go_loopw [5] (fun q wr => ∃ (j : Nat), q = .int .i64 (j : Int) ∧ j ≤ n ∧ Below ((w.alloc (.cells C 45)).alloc (.cells D 45)).heap.size ((w.alloc (.cells C 45)).alloc (.cells D 45)) wr ∧ Hid (∀ t, t < j → L.getD t 0 = M.getD t 0))
    (fun q _ => n - (intOf q).toNat)
  case atStart => exact ⟨0, rfl, by omega, Below.refl _ _, Hid.mk' (fun t ht => by omega)⟩
  case round =>
    obtain ⟨j, rfl, hj, hbl, hall⟩ := hrel
    have a18r := (hbl.cell (p := ⟨w.heap.size, 18, none⟩) A0.lt).trans a18
    have b18r := (hbl.cell (p := ⟨w.heap.size + 1, 18, none⟩) A1.lt).trans b18
    have hbw := hb0.trans (hbl.mono hb0.size)
    by_cases hlt : j < n
    · have hI : (j : Int) < n := by omega
      obtain ⟨g, off, rfl, hg, hc⟩ := (hS'.below (hbl.mono hb0.size)).at0 (by omega)
      obtain ⟨g2, off2, rfl, hg2, hc2⟩ := (hT'.below (hbl.mono hb0.size)).at0 (by omega)
      have d1 := hc j hlt
      have d2 := hc2 j hlt
      by_cases he : L.getD j 0 = M.getD j 0
      · have he' : (L.getD j 0 != M.getD j 0) = false := by simpa using he
        have hn2 : Hid (∀ t, t < j + 1 → L.getD t 0 = M.getD t 0) := Hid.mk' (fun t ht => by
          by_cases e : t = j
          · subst e; exact he
          · exact hall.out t (by omega))
        generalize L.getD j 0 = a at *
        generalize M.getD j 0 = b at *
        replace he := Hid.mk' he
        clear hc hc2
        go_upto_region 6 with fail
        refine wp_region_held_drew (S := fun u => u = wr.drew) (by kernel_rfl) (rfl) (fun hHeld => ?_)
        refine wpAnyH_take (i := 0) (oi := ⟨_, _, _, _, _, _⟩) (v := ?_) rfl (by kernel_rfl) (by kernel_rfl) (by kernel_rfl) (fun _ _ _ h => h) (Or.inl ⟨by rfl, ?_⟩) (by assumption) ?_
        rotate_left
        · intro u hSw
          go_simp
          try (with_reducible rfl)
        try simp only [Act.put, List.setIfInBounds_toArray, List.set_cons_zero, List.set_cons_succ]
        refine wpAnyH_take (i := 1) (oi := ⟨_, _, _, _, _, _⟩) (v := ?_) rfl (by kernel_rfl) (by kernel_rfl) (by kernel_rfl) (fun _ _ _ h => h) (Or.inl ⟨by rfl, ?_⟩) (by assumption) ?_
        rotate_left
        · intro u hSw
          subst hSw
          go_simp
          try (with_reducible rfl)
        try simp only [Act.put, List.setIfInBounds_toArray, List.set_cons_zero, List.set_cons_succ]
        refine wpAnyH_take (i := 2) (oi := ⟨_, _, _, _, _, _⟩) (v := ?_) rfl (by kernel_rfl) (by kernel_rfl) (by kernel_rfl) (fun _ _ _ h => h) (Or.inl ⟨by rfl, ?_⟩) (by assumption) ?_
        rotate_left
        · intro u hSw
          go_simp
          try (with_reducible rfl)
        try simp only [Act.put, List.setIfInBounds_toArray, List.set_cons_zero, List.set_cons_succ]
        refine wpAnyH_take (i := 3) (oi := ⟨_, _, _, _, _, _⟩) (v := ?_) rfl (by kernel_rfl) (by kernel_rfl) (by kernel_rfl) (fun _ _ _ h => h) (Or.inl ⟨by rfl, ?_⟩) (by assumption) ?_
        rotate_left
        · intro u hSw
          go_simp
          try (with_reducible rfl)
        try simp only [Act.put, List.setIfInBounds_toArray, List.set_cons_zero, List.set_cons_succ]
        refine wpAnyH_take (i := 4) (oi := ⟨_, _, _, _, _, _⟩) (v := ?_) rfl (by kernel_rfl) (by kernel_rfl) (by kernel_rfl) (fun _ _ _ h => h) (Or.inl ⟨by rfl, ?_⟩) (by assumption) ?_
        rotate_left
        · intro u hSw
          subst hSw
          go_simp
          try (with_reducible rfl)
        try simp only [Act.put, List.setIfInBounds_toArray, List.set_cons_zero, List.set_cons_succ]
        refine wpAnyH_take (i := 5) (oi := ⟨_, _, _, _, _, _⟩) (v := ?_) rfl (by kernel_rfl) (by kernel_rfl) (by kernel_rfl) (fun _ _ _ h => h) (Or.inl ⟨by rfl, ?_⟩) (by assumption) ?_
        rotate_left
        · intro u hSw
          go_simp
          try (with_reducible rfl)
        try simp only [Act.put, List.setIfInBounds_toArray, List.set_cons_zero, List.set_cons_succ]
        refine wpAnyH_take (i := 6) (oi := ⟨_, _, _, _, _, _⟩) (v := ?_) rfl (by kernel_rfl) (by kernel_rfl) (by kernel_rfl) (fun _ _ _ h => h) (Or.inl ⟨by rfl, ?_⟩) (by assumption) ?_
        rotate_left
        · intro u hSw
          subst hSw
          go_simp
          try (with_reducible rfl)
        try simp only [Act.put, List.setIfInBounds_toArray, List.set_cons_zero, List.set_cons_succ]
        refine wpAnyH_take (i := 7) (oi := ⟨_, _, _, _, _, _⟩) (v := ?_) rfl (by kernel_rfl) (by kernel_rfl) (by kernel_rfl) (fun _ _ _ h => h) (Or.inl ⟨by rfl, ?_⟩) (by assumption) ?_
        rotate_left
        · intro u hSw
          go_simp
          try (with_reducible rfl)
        try simp only [Act.put, List.setIfInBounds_toArray, List.set_cons_zero, List.set_cons_succ]
        refine wpAnyH_take (i := 8) (oi := ⟨_, _, _, _, _, _⟩) (v := ?_) rfl (by kernel_rfl) (by kernel_rfl) (by kernel_rfl) (fun _ _ _ h => h) (Or.inl ⟨by rfl, ?_⟩) (by assumption) ?_
        rotate_left
        · intro u hSw
          go_simp
          try (with_reducible rfl)
        try simp only [Act.put, List.setIfInBounds_toArray, List.set_cons_zero, List.set_cons_succ]
        refine wpAnyH_take (i := 9) (oi := ⟨_, _, _, _, _, _⟩) (v := ?_) rfl (by kernel_rfl) (by kernel_rfl) (by kernel_rfl) (fun _ _ _ h => h) (Or.inl ⟨by rfl, ?_⟩) (by assumption) ?_
        rotate_left
        · intro u hSw
          subst hSw
          go_simp
          try (with_reducible rfl)
        try simp only [Act.put, List.setIfInBounds_toArray, List.set_cons_zero, List.set_cons_succ]
        refine wpAnyH_take (i := 10) (oi := ⟨_, _, _, _, _, _⟩) (v := ?_) rfl (by kernel_rfl) (by kernel_rfl) (by kernel_rfl) (fun _ _ _ h => h) (Or.inl ⟨by rfl, ?_⟩) (by assumption) ?_
        rotate_left
        · intro u hSw
          go_simp
          try (with_reducible rfl)
        try simp only [Act.put, List.setIfInBounds_toArray, List.set_cons_zero, List.set_cons_succ]
        refine wpAnyH_done (by kernel_rfl) ?_ _
        go_wp2_with fail
        go_roundw
        case rel => exact ⟨j + 1, by go_num, by omega, hbl.drew, hn2⟩
        case measure => simp [intOf]; omega
      · have he' : (L.getD j 0 != M.getD j 0) = true := by simpa using he
        have hf : Hid (decide (L = M) = false) := Hid.mk' (by simp; intro e; subst e; exact he rfl)
        generalize L.getD j 0 = a at *
        generalize M.getD j 0 = b at *
        replace he := Hid.mk' he
        clear hc hc2
        go_upto_region 6 with fail
        refine wp_region_held_drew (S := fun u => u = wr.drew) (by kernel_rfl) (rfl) (fun hHeld => ?_)
        refine wpAnyH_take (i := 0) (oi := ⟨_, _, _, _, _, _⟩) (v := ?_) rfl (by kernel_rfl) (by kernel_rfl) (by kernel_rfl) (fun _ _ _ h => h) (Or.inl ⟨by rfl, ?_⟩) (by assumption) ?_
        rotate_left
        · intro u hSw
          go_simp
          try (with_reducible rfl)
        try simp only [Act.put, List.setIfInBounds_toArray, List.set_cons_zero, List.set_cons_succ]
        refine wpAnyH_take (i := 1) (oi := ⟨_, _, _, _, _, _⟩) (v := ?_) rfl (by kernel_rfl) (by kernel_rfl) (by kernel_rfl) (fun _ _ _ h => h) (Or.inl ⟨by rfl, ?_⟩) (by assumption) ?_
        rotate_left
        · intro u hSw
          subst hSw
          go_simp
          try (with_reducible rfl)
        try simp only [Act.put, List.setIfInBounds_toArray, List.set_cons_zero, List.set_cons_succ]
        refine wpAnyH_take (i := 2) (oi := ⟨_, _, _, _, _, _⟩) (v := ?_) rfl (by kernel_rfl) (by kernel_rfl) (by kernel_rfl) (fun _ _ _ h => h) (Or.inl ⟨by rfl, ?_⟩) (by assumption) ?_
        rotate_left
        · intro u hSw
          go_simp
          try (with_reducible rfl)
        try simp only [Act.put, List.setIfInBounds_toArray, List.set_cons_zero, List.set_cons_succ]
        refine wpAnyH_take (i := 3) (oi := ⟨_, _, _, _, _, _⟩) (v := ?_) rfl (by kernel_rfl) (by kernel_rfl) (by kernel_rfl) (fun _ _ _ h => h) (Or.inl ⟨by rfl, ?_⟩) (by assumption) ?_
        rotate_left
        · intro u hSw
          go_simp
          try (with_reducible rfl)
        try simp only [Act.put, List.setIfInBounds_toArray, List.set_cons_zero, List.set_cons_succ]
        refine wpAnyH_take (i := 4) (oi := ⟨_, _, _, _, _, _⟩) (v := ?_) rfl (by kernel_rfl) (by kernel_rfl) (by kernel_rfl) (fun _ _ _ h => h) (Or.inl ⟨by rfl, ?_⟩) (by assumption) ?_
        rotate_left
        · intro u hSw
          subst hSw
          go_simp
          try (with_reducible rfl)
        try simp only [Act.put, List.setIfInBounds_toArray, List.set_cons_zero, List.set_cons_succ]
        refine wpAnyH_take (i := 5) (oi := ⟨_, _, _, _, _, _⟩) (v := ?_) rfl (by kernel_rfl) (by kernel_rfl) (by kernel_rfl) (fun _ _ _ h => h) (Or.inl ⟨by rfl, ?_⟩) (by assumption) ?_
        rotate_left
        · intro u hSw
          go_simp
          try (with_reducible rfl)
        try simp only [Act.put, List.setIfInBounds_toArray, List.set_cons_zero, List.set_cons_succ]
        refine wpAnyH_take (i := 6) (oi := ⟨_, _, _, _, _, _⟩) (v := ?_) rfl (by kernel_rfl) (by kernel_rfl) (by kernel_rfl) (fun _ _ _ h => h) (Or.inl ⟨by rfl, ?_⟩) (by assumption) ?_
        rotate_left
        · intro u hSw
          subst hSw
          go_simp
          try (with_reducible rfl)
        try simp only [Act.put, List.setIfInBounds_toArray, List.set_cons_zero, List.set_cons_succ]
        refine wpAnyH_take (i := 7) (oi := ⟨_, _, _, _, _, _⟩) (v := ?_) rfl (by kernel_rfl) (by kernel_rfl) (by kernel_rfl) (fun _ _ _ h => h) (Or.inl ⟨by rfl, ?_⟩) (by assumption) ?_
        rotate_left
        · intro u hSw
          go_simp
          try (with_reducible rfl)
        try simp only [Act.put, List.setIfInBounds_toArray, List.set_cons_zero, List.set_cons_succ]
        refine wpAnyH_take (i := 8) (oi := ⟨_, _, _, _, _, _⟩) (v := ?_) rfl (by kernel_rfl) (by kernel_rfl) (by kernel_rfl) (fun _ _ _ h => h) (Or.inl ⟨by rfl, ?_⟩) (by assumption) ?_
        rotate_left
        · intro u hSw
          go_simp
          try (with_reducible rfl)
        try simp only [Act.put, List.setIfInBounds_toArray, List.set_cons_zero, List.set_cons_succ]
        refine wpAnyH_take (i := 9) (oi := ⟨_, _, _, _, _, _⟩) (v := ?_) rfl (by kernel_rfl) (by kernel_rfl) (by kernel_rfl) (fun _ _ _ h => h) (Or.inl ⟨by rfl, ?_⟩) (by assumption) ?_
        rotate_left
        · intro u hSw
          subst hSw
          go_simp
          try (with_reducible rfl)
        try simp only [Act.put, List.setIfInBounds_toArray, List.set_cons_zero, List.set_cons_succ]
        refine wpAnyH_take (i := 10) (oi := ⟨_, _, _, _, _, _⟩) (v := ?_) rfl (by kernel_rfl) (by kernel_rfl) (by kernel_rfl) (fun _ _ _ h => h) (Or.inl ⟨by rfl, ?_⟩) (by assumption) ?_
        rotate_left
        · intro u hSw
          go_simp
          try (with_reducible rfl)
        try simp only [Act.put, List.setIfInBounds_toArray, List.set_cons_zero, List.set_cons_succ]
        refine wpAnyH_done (by kernel_rfl) ?_ _
        go_wp2_with fail
        go_ret
        exact ⟨by rw [hf.out]; rfl, hbw.drew⟩
    · obtain rfl : j = n := by omega
      have hf : Hid (decide (L = M) = true) := Hid.mk' (by
        rw [← getD_ext hl.out.symm hk.out.symm, List.all_eq_true]
        intro i hi
        have := hall.out i (by simpa using hi)
        simpa using this)
      go_wp2_with fail
      go_ret
      exact ⟨by rw [hf.out]; rfl, hbw⟩
end Go.Proofs.Ytgdmgogjoabilaa
/- Layer vm: a machine that is loaded, as the document says. -/
namespace Go.Proofs.Ytgdmgogjoabilaa
open Go.RowKit
set_option maxRecDepth 100000
set_option linter.unusedVariables false
set_option linter.unusedSimpArgs false


theorem y25 {ops : Array Oper} {S : World → Prop} {op : Oper} {a : Act} (hw : Region.wanted op (yielded ops a.tmps) = true) (x : Operand) (ho : op.op = .load 25 x)
    (b o : Nat) (hx : a.eval x = .pointer (some ⟨b, o, none⟩)) (e : Cd) (hS : ∀ w, S w → w.rangeAt b o e.arr.toList) : YieldsIf Try.prog ops S op (.agg e.arr) a := by
  have := yieldsIf_load_mid (P := Try.prog) (S := S) hw 25 x ho b o hx e.arr.toList _ hS Try.underlying25 rfl size25
  simpa using this

set_option maxHeartbeats 1000000 in
theorem refLoad_no (x : Int) (sp : Option Addr) (n cap : Nat) (cs : List Cd) (sq : Option Addr) (nd cd : Nat) (ds : List Int) (N : Nat) (w : World) (hx : -9223372036854775808 ≤ x ∧ x ≤ 9223372036854775807) (hS : CS N w sp n cap cs) (hD : MS N w sq nd cd ds) (hU : ∀ k, U64 (ds.getD k 0)) (hbad : szI x = false ∨ x < cs.length + ds.length) :
    Calls Try.prog 26 #[.int .i64 x, .slice sp n cap, .slice sq nd cd] w (LdPost x cs ds w) := by
  have A0 := Arr.new w 45 (mcA zM none 0 0)
  have hsz := mcA_size zM_ok.r16 none 0 0
  have hoz := mcA_one zM none 0 0
  have hb0 := alloc_bel' w (.cells (mcA zM none 0 0) 45)
  have hn := hS.small
  have hn2 := hD.small
  cases hq : szI x with
  | false =>
    have hr : lO x cs ds = (zM, 2) := by simp [lO, hq]
    replace hr := Hid.mk' hr
    replace hq := Hid.mk' hq
    clear hbad
    go_enter Try.func26, Try.ntmps26
    go_wp2_with (first
      | (go_at_call 31; go_must (refine (refSize_any _ _ hx).mono ?_; rintro e w1 ⟨rfl, h⟩; subst h; rw [hq.out]))
      | (refine st45 (by rfl) (.tmp 6) (.tmp 13) (by rfl) w.heap.size (mcA zM none 0 0) (by rfl) (by rfl) hsz hoz _ hsz A0 ?_))
    exact bodyPost_ret (v := .tuple #[.agg (mcA zM none 0 0), .int .i64 2]) (res45b Try.results26 rfl rfl hsz (A0.setRow _)) rfl (ldNo hr.out (below_setRow hb0 (Nat.le_refl _) _))
  | true =>
    have hlt : x < cs.length + ds.length := by rcases hbad with h | h; rw [hq] at h; cases h; exact h
    have hr : lO x cs ds = (zM, 4) := by simp [lO, hq, hlt]
    have hlt2 : x < (n : Int) + nd := by rw [hS.len.out, hD.len.out]; omega
    replace hr := Hid.mk' hr
    replace hq := Hid.mk' hq
    clear hbad hlt
    go_enter Try.func26, Try.ntmps26
    go_wp2_with (first
      | (go_at_call 31; go_must (refine (refSize_any _ _ hx).mono ?_; rintro e w1 ⟨rfl, h⟩; subst h; rw [hq.out]))
      | (refine st45 (by rfl) (.tmp 6) (.tmp 21) (by rfl) w.heap.size (mcA zM none 0 0) (by rfl) (by rfl) hsz hoz _ hsz A0 ?_))
    exact bodyPost_ret (v := .tuple #[.agg (mcA zM none 0 0), .int .i64 4]) (res45b Try.results26 rfl rfl hsz (A0.setRow _)) rfl (ldNo hr.out (below_setRow hb0 (Nat.le_refl _) _))


theorem ldYes' {x : Int} {X : Nat} {cs : List Cd} {ds : List Int} {w w' : World} {g : Nat} {MM : Array Value} (hr : lO x cs ds = ({ zM with me := ldW X cs ds }, 0)) (hok : Mc.ok { zM with me := ldW X cs ds }) (hM : MW w' g (ldW X cs ds)) (hl : X = (ldW X cs ds).length) (hX : X ≤ 4096) (hb : Below w.heap.size w w') (hMM : mcA { zM with me := ldW X cs ds } (some ⟨g, 0, none⟩) X X = MM) : LdPost x cs ds w (.returned (.tuple #[.agg MM, .int .i64 0])) w' := by
  subst hMM
  exact ldYes hr hok hM hl hX hb

set_option maxHeartbeats 2000000 in
theorem refLoad_ok (x : Int) (sp : Option Addr) (n cap : Nat) (cs : List Cd) (sq : Option Addr) (nd cd : Nat) (ds : List Int) (N : Nat) (w : World) (hx : -9223372036854775808 ≤ x ∧ x ≤ 9223372036854775807) (hS : CS N w sp n cap cs) (hD : MS N w sq nd cd ds) (hU : ∀ k, U64 (ds.getD k 0)) (hq : szI x = true) {X : Nat} (hX : x = (X : Int)) (hle : cs.length + ds.length ≤ X) :
    Calls Try.prog 26 #[.int .i64 x, .slice sp n cap, .slice sq nd cd] w (LdPost x cs ds w) := by
  subst hX
  obtain ⟨i0, hi, hz0, hz1, hz2⟩ := info_parts info26
  have A0 := Arr.new w 45 (mcA zM none 0 0)
  have hsz := mcA_size zM_ok.r16 none 0 0
  have hb0 := alloc_bel' w (.cells (mcA zM none 0 0) 45)
  have hn := hS.small
  have hn2 := hD.small
  have hl := hS.len
  have hl2 := hD.len
  have hX4 := szB_le (by rw [szI_nat] at hq; exact hq)
  have hnX : n ≤ X := by rw [hl.out]; omega
  have hndX : nd ≤ X - n := by rw [hl.out, hl2.out]; omega
  have hcmp : ¬ ((X : Int) < (n : Int) + nd) := by omega
  have hr : lO (X : Int) cs ds = ({ zM with me := ldW X cs ds }, 0) := by
    unfold lO
    rw [if_neg (by rw [hq]; simp), if_neg (by omega), Int.toNat_natCast]
  have hokR : Mc.ok { zM with me := ldW X cs ds } := ⟨zM_ok.pc, zM_ok.r16, zM_ok.rg, zM_ok.st, ldW_u hle hS.ok hU⟩
  have hmm := mcA_size (m := { zM with me := ldW X cs ds }) zM_ok.r16 (some ⟨w.heap.size + 1, 0, none⟩) X X
  have hmo := mcA_one { zM with me := ldW X cs ds } (some ⟨w.heap.size + 1, 0, none⟩) X X
  have c18 := mcA_18 (m := { zM with me := ldW X cs ds }) zM_ok.r16 (some ⟨w.heap.size + 1, 0, none⟩) X X
  have hbd := built45 (some ⟨w.heap.size + 1, 0, none⟩) X X (ldW X cs ds)
  have hMM : mcA { zM with me := ldW X cs ds } (some ⟨w.heap.size + 1, 0, none⟩) X X = mcA { zM with me := ldW X cs ds } (some ⟨w.heap.size + 1, 0, none⟩) X X := rfl
  replace hMM := Hid.mk' hMM
  replace hr := Hid.mk' hr
  replace hq := Hid.mk' hq
  replace hbd := Hid.mk' hbd
  go_enter Try.func26, Try.ntmps26
  go_wp2_with (first
    | (go_at_call 31; go_must (refine (refSize_any _ _ hx).mono ?_; rintro e w1 ⟨rfl, h⟩; subst h; rw [hq.out]))
    | (at_make; go_must (refine wpList_make_row _ (by rfl) (.tmp 22) (.tmp 22) 43 (by rfl) 26 i0 (.int .u64 0) Try.underlying43 hi hz0 hz1 rfl .i64 .i64 X (by rfl) (by rfl) (by rw [hz2]; omega) (by omega) ?_))
    | (refine wpList_plain (by rfl) fun K hK => wp_bdT 45 #[(3, .tmp 23)] (by rfl) (by rfl) hbd.out (hK _ _ ?_))
    | (refine st45n (by rfl) (.tmp 8) (.tmp 24) (by rfl) ((w.alloc (.cells (mcA zM none 0 0) 45)).alloc (.cells (madeCells #[.int .u64 0] X) 26)) (w.heap.size + 2) (by simp) (by rfl) (mcA { zM with me := ldW X cs ds } (some ⟨w.heap.size + 1, 0, none⟩) X X) (by rfl) (by rfl) hmm hmo ?_))
  go_loopw [9] (fun q wr => ∃ (k : Nat), q = .int .i64 (k : Int) ∧ k ≤ n ∧ Below w.heap.size w wr ∧ Arr wr w.heap.size 45 (mcA zM none 0 0) ∧ Arr wr (w.heap.size + 2) 45 (mcA { zM with me := ldW X cs ds } (some ⟨w.heap.size + 1, 0, none⟩) X X) ∧ MW wr (w.heap.size + 1) (lay X cs k))
    (fun q _ => n - (intOf q).toNat)
  case atStart => exact ⟨0, rfl, by omega, (hb0.alloc (by simp) _).alloc (by simp; omega) _, (A0.alloc _).alloc _, by have h := Arr.new ((w.alloc (.cells (mcA zM none 0 0) 45)).alloc (.cells (madeCells #[.int .u64 0] X) 26)) 45 (mcA { zM with me := ldW X cs ds } (some ⟨w.heap.size + 1, 0, none⟩) X X); simp only [World.size_alloc, Nat.add_assoc, Nat.reduceAdd] at h; exact h, by rw [lay_zero]; have h := made_mw (w.alloc (.cells (mcA zM none 0 0) 45)) X; simp only [World.size_alloc] at h; exact h.below (alloc_bel' _ _) h.lt⟩
  case round =>
    obtain ⟨k, rfl, hk, hbl, hA, hA2, hMW⟩ := hrel
    have d18 := (hA2.cell 18).trans c18
    by_cases hlt : k < n
    · have hI : (k : Int) < n := by omega
      have hIX : (k : Int) < X := by omega
      have hSr := hS.here.below hbl
      obtain ⟨g, off, rfl, hgN, hR⟩ := hSr.at0 (by omega)
      have hgl : g < wr.heap.size := by have := hbl.size; omega
      obtain ⟨e, he⟩ : ∃ e, cs[k]? = some e := ⟨cs[k]'(by rw [← hl.out]; exact hlt), List.getElem?_eq_getElem _⟩
      have hok := hS.ok e (List.mem_of_getElem? he)
      have hRe := hR k e he
      have hset := lay_set he (show cs.length ≤ X by omega)
      have hlay : (lay X cs k).length = X := lay_len (by rw [← hl.out]; omega) (by omega)
      replace he := Hid.mk' he
      replace hset := Hid.mk' hset
      replace hlay := Hid.mk' hlay
      go_upto_region 9 with fail
      refine wp_region_held_drew (S := fun u => u.cell? ⟨w.heap.size + 2, 18, none⟩ = some (.slice (some ⟨w.heap.size + 1, 0, none⟩) X X) ∧ u.rangeAt g (off + k * 5) e.arr.toList) (by kernel_rfl) (⟨by exact d18, by exact (fun j v hv => hRe j v hv)⟩) (fun hHeld => ?_)
      refine wpAnyH_take (i := 0) (oi := ⟨_, _, _, _, _, _⟩) (v := ?_) rfl (by kernel_rfl) (by kernel_rfl) (by kernel_rfl) (fun _ _ _ h => h) (Or.inl ⟨by rfl, ?_⟩) (by assumption) ?_
      rotate_left
      · intro u hSw
        go_simp
        try (with_reducible rfl)
      try simp only [Act.put, List.setIfInBounds_toArray, List.set_cons_zero, List.set_cons_succ]
      refine wpAnyH_take (i := 1) (oi := ⟨_, _, _, _, _, _⟩) (v := ?_) rfl (by kernel_rfl) (by kernel_rfl) (by kernel_rfl) (fun _ _ _ h => h) (Or.inl ⟨by rfl, ?_⟩) (by assumption) ?_
      rotate_left
      · intro u hSw
        obtain ⟨s1, s2⟩ := hSw
        go_simp
        try (with_reducible rfl)
      try simp only [Act.put, List.setIfInBounds_toArray, List.set_cons_zero, List.set_cons_succ]
      refine wpAnyH_take (i := 2) (oi := ⟨_, _, _, _, _, _⟩) (v := ?_) rfl (by kernel_rfl) (by kernel_rfl) (by kernel_rfl) (fun _ _ _ h => h) (Or.inl ⟨by rfl, ?_⟩) (by assumption) ?_
      rotate_left
      · intro u hSw
        go_simp
        try (with_reducible rfl)
      try simp only [Act.put, List.setIfInBounds_toArray, List.set_cons_zero, List.set_cons_succ]
      refine wpAnyH_take (i := 3) (oi := ⟨_, _, _, _, _, _⟩) (v := ?_) rfl (by kernel_rfl) (by kernel_rfl) (by kernel_rfl) (fun _ _ _ h => h) (Or.inl ⟨by rfl, ?_⟩) (by assumption) ?_
      rotate_left
      · intro u hSw
        go_simp
        try (with_reducible rfl)
      try simp only [Act.put, List.setIfInBounds_toArray, List.set_cons_zero, List.set_cons_succ]
      refine wpAnyH_take (i := 4) (oi := ⟨_, _, _, _, _, _⟩) (v := ?_) rfl (by kernel_rfl) (by kernel_rfl) (by kernel_rfl) (fun _ _ _ h => h) (Or.inl ⟨by rfl, ?_⟩) (by assumption) ?_
      rotate_left
      · intro u hSw
        go_simp
        try (with_reducible rfl)
      try simp only [Act.put, List.setIfInBounds_toArray, List.set_cons_zero, List.set_cons_succ]
      refine wpAnyH_take (i := 5) (oi := ⟨_, _, _, _, _, _⟩) (v := ?_) rfl (by kernel_rfl) (by kernel_rfl) (by kernel_rfl) (fun _ _ _ h => h) (Or.inl ⟨by rfl, ?_⟩) (by assumption) ?_
      rotate_left
      · intro u hSw
        go_simp
        try (with_reducible rfl)
      try simp only [Act.put, List.setIfInBounds_toArray, List.set_cons_zero, List.set_cons_succ]
      refine wpAnyH_take (i := 6) (oi := ⟨_, _, _, _, _, _⟩) rfl (by kernel_rfl) (by kernel_rfl) (by kernel_rfl) (fun _ _ _ h => h) (y25 (by rfl) (.tmp 36) rfl g (off + k * 5) rfl e (fun u hu => hu.2)) (by assumption) ?_
      try simp only [Act.put, List.setIfInBounds_toArray, List.set_cons_zero, List.set_cons_succ]
      refine wpAnyH_ready (rs := [7]) (by kernel_rfl) (by simp) ?_
      refine AllReadyH.cons (o := ⟨_, _, _, _, _, _⟩) rfl (fun K hK => ?_) AllReadyH.nil
      go_simp
      refine (refwdc_any e hok _).mono ?_
      rintro r w2 ⟨rfl, hb2⟩
      have hb2' : Below wr.heap.size wr w2 := ((Below.refl _ wr).drew).trans (hb2.mono (by simp))
      have hM2 := hMW.below hb2' hMW.lt
      have f2 := hM2.frozen k
      have c2 := hM2.cell (t := k) (by rw [hlay.out]; omega)
      have A2 := hA.below hb2' hA.lt
      have AA2 := hA2.below hb2' hA2.lt
      have B2 := hbl.trans (hb2'.mono hbl.size)
      have d18' := (AA2.cell 18).trans c18
      have hRe2 := range_below hRe hb2' hgl
      go_wp2_with fail
      refine hK.out _ _ ⟨d18', hRe2⟩ (fun hHeld => ?_)
      clear hK K
      try simp only [Act.put, List.setIfInBounds_toArray, List.set_cons_zero, List.set_cons_succ]
      refine wpAnyH_take (i := 8) (oi := ⟨_, _, _, _, _, _⟩) (v := ?_) rfl (by kernel_rfl) (by kernel_rfl) (by kernel_rfl) (fun _ _ _ h => h) (Or.inl ⟨by rfl, ?_⟩) (by assumption) ?_
      rotate_left
      · intro u hSw
        go_simp
        try (with_reducible rfl)
      try simp only [Act.put, List.setIfInBounds_toArray, List.set_cons_zero, List.set_cons_succ]
      refine wpAnyH_ready (rs := [9]) (by kernel_rfl) (by simp) ?_
      refine AllReadyH.cons (o := ⟨_, _, _, _, _, _⟩) rfl (fun K hK => ?_) AllReadyH.nil
      go_simp
      go_wp2_with fail
      refine hK.out _ _ ⟨(cell_set_ne _ (fun e => by injection e with e1; omega)).trans d18', fun j v hv => (cell_set_ne _ (fun e => by injection e with e1; omega)).trans (hRe2 j v hv)⟩ (fun hHeld => ?_)
      clear hK K
      try simp only [Act.put, List.setIfInBounds_toArray, List.set_cons_zero, List.set_cons_succ]
      refine wpAnyH_done (by kernel_rfl) ?_ _
      go_wp2_with fail
      go_roundw
      case rel => exact ⟨k + 1, by go_num, by omega, B2.setCell (by simp) _, A2.setOther _ (by simp), AA2.setOther _ (by simp), by rw [← hset.out]; exact hM2.set (by rw [hlay.out]; omega) _⟩
      case measure => simp [intOf]; omega
    · obtain rfl : k = n := by omega
      have hnlt : ¬ (k : Int) < k := by omega
      have hkX : (k : Int) ≤ X := by omega
      have hkl : k = cs.length := hl.out
      by_cases hd0 : nd = 0
      · have hds : ds = [] := List.eq_nil_of_length_eq_zero (by rw [← hl2.out]; exact hd0)
        have hM2 : MW wr (w.heap.size + 1) (ldW X cs ds) := by rw [hds, ← lay_all (by omega), ← hkl]; exact hMW
        subst hd0
        replace hkl := Hid.mk' hkl
        replace hds := Hid.mk' hds
        by_cases hXk : X = k
        · subst hXk
          go_wp2_with (first | (refine wpList_copy_nothing (by rfl) (.tmp 44) (.tmp 45) 43 43 (by rfl) 26 Try.underlying43 size26 _ _ _ _ 0 cd (by rfl) (by rfl) (by simp) ?_) | (refine ld45 (by rfl) (.tmp 8) (by rfl) (w.heap.size + 2) (by rfl) (mcA { zM with me := ldW X cs ds } (some ⟨w.heap.size + 1, 0, none⟩) X X) hmm hA2 ?_) | (refine st45 (by rfl) (.tmp 6) (.tmp 47) (by rfl) w.heap.size (mcA { zM with me := ldW X cs ds } (some ⟨w.heap.size + 1, 0, none⟩) X X) (by rfl) (by rfl) hmm hmo _ hsz hA ?_))
          exact bodyPost_ret (v := .tuple #[.agg (mcA { zM with me := ldW X cs ds } (some ⟨w.heap.size + 1, 0, none⟩) X X), .int .i64 0]) (res45b Try.results26 rfl rfl hmm (hA.setRow _)) rfl (ldYes' hr.out hokR (hM2.block (setRow_other _ _ _ _ (by omega))) (by rw [ldW_len hle]) (by omega) (below_setRow hbl (Nat.le_refl _) _) rfl)
        · go_wp2_with (first | (refine wpList_copy_nothing (by rfl) (.tmp 44) (.tmp 45) 43 43 (by rfl) 26 Try.underlying43 size26 _ _ _ _ 0 cd (by rfl) (by rfl) (by simp) ?_) | (refine ld45 (by rfl) (.tmp 8) (by rfl) (w.heap.size + 2) (by rfl) (mcA { zM with me := ldW X cs ds } (some ⟨w.heap.size + 1, 0, none⟩) X X) hmm hA2 ?_) | (refine st45 (by rfl) (.tmp 6) (.tmp 47) (by rfl) w.heap.size (mcA { zM with me := ldW X cs ds } (some ⟨w.heap.size + 1, 0, none⟩) X X) (by rfl) (by rfl) hmm hmo _ hsz hA ?_))
          exact bodyPost_ret (v := .tuple #[.agg (mcA { zM with me := ldW X cs ds } (some ⟨w.heap.size + 1, 0, none⟩) X X), .int .i64 0]) (res45b Try.results26 rfl rfl hmm (hA.setRow _)) rfl (ldYes' hr.out hokR (hM2.block (setRow_other _ _ _ _ (by omega))) (by rw [ldW_len hle]) (by omega) (below_setRow hbl (Nat.le_refl _) _) rfl)
      · have hXk : ¬ X = k := by omega
        obtain ⟨gd, od, rfl, hgd, hcd⟩ := (hD.here.below hbl).at0 (by omega)
        obtain ⟨C, hCA, hC⟩ := hMW
        have hC' := hC
        rw [hkl] at hC'
        have hCs : X ≤ C.size := by
          have h1 : (lay X cs k).length = X := lay_len (by omega) (by omega)
          have := (Array.getElem?_eq_some_iff.1 (hC (X - 1) (by omega))).1
          omega
        have hsrc : ∀ j v, (by64 ds)[j]? = some v → wr.cell? ((⟨gd, od, none⟩ : Addr).add j) = some v := fun j v hv => by
          have hj : j < ds.length := by have := (List.getElem?_eq_some_iff.1 hv).1; rwa [by64_len] at this
          rw [by64_get hj] at hv
          rw [Addr.add_mid, hcd j (by rw [hl2.out]; exact hj)]; exact hv
        have hM2 : MW (wr.setRow (w.heap.size + 1) (C.toList.take k ++ (by64 ds ++ C.toList.drop (k + (by64 ds).length))).toArray) (w.heap.size + 1) (ldW X cs ds) := ⟨_, hCA.setRow _, by have := ldW_splice hle hC'; rw [← hkl] at this; exact this⟩
        have A2 : Arr (wr.setRow (w.heap.size + 1) (C.toList.take k ++ (by64 ds ++ C.toList.drop (k + (by64 ds).length))).toArray) w.heap.size 45 (mcA zM none 0 0) := hA.setRowOther _ (by omega)
        have B2 : Arr (wr.setRow (w.heap.size + 1) (C.toList.take k ++ (by64 ds ++ C.toList.drop (k + (by64 ds).length))).toArray) (w.heap.size + 2) 45 (mcA { zM with me := ldW X cs ds } (some ⟨w.heap.size + 1, 0, none⟩) X X) := hA2.setRowOther _ (by omega)
        replace hsrc := Hid.mk' hsrc
        replace hkl := Hid.mk' hkl
        clear hC hC' hcd
        go_wp2_with (first | (refine wpList_copy_own (by rfl) (.tmp 44) (.tmp 45) 43 43 (by rfl) 26 Try.underlying43 size26 (w.heap.size + 1) k (X - k) (X - k) ⟨gd, od, none⟩ nd cd (by rfl) (by rfl) C 26 hCA (by64 ds) (by rw [by64_len, ← hl2.out]; exact (Nat.min_eq_left (by omega)).symm) hsrc.out (by rw [by64_len, ← hl2.out]; omega) (by64_one _) ?_) | (refine ld45 (by rfl) (.tmp 8) (by rfl) (w.heap.size + 2) (by rfl) (mcA { zM with me := ldW X cs ds } (some ⟨w.heap.size + 1, 0, none⟩) X X) hmm B2 ?_) | (refine st45 (by rfl) (.tmp 6) (.tmp 47) (by rfl) w.heap.size (mcA { zM with me := ldW X cs ds } (some ⟨w.heap.size + 1, 0, none⟩) X X) (by rfl) (by rfl) hmm hmo _ hsz A2 ?_))
        exact bodyPost_ret (v := .tuple #[.agg (mcA { zM with me := ldW X cs ds } (some ⟨w.heap.size + 1, 0, none⟩) X X), .int .i64 0]) (res45b Try.results26 rfl rfl hmm (A2.setRow _)) rfl (ldYes' hr.out hokR (hM2.block (setRow_other _ _ _ _ (by omega))) (by rw [ldW_len hle]) (by omega) (below_setRow (below_setRow hbl (by omega) _) (Nat.le_refl _) _) rfl)

theorem refLoad_any (x : Int) (sp : Option Addr) (n cap : Nat) (cs : List Cd) (sq : Option Addr) (nd cd : Nat) (ds : List Int) (N : Nat) (w : World) (hx : -9223372036854775808 ≤ x ∧ x ≤ 9223372036854775807) (hS : CS N w sp n cap cs) (hD : MS N w sq nd cd ds) (hU : ∀ k, U64 (ds.getD k 0)) :
    Calls Try.prog 26 #[.int .i64 x, .slice sp n cap, .slice sq nd cd] w (LdPost x cs ds w) := by
  by_cases h : szI x = false ∨ x < cs.length + ds.length
  · exact refLoad_no x sp n cap cs sq nd cd ds N w hx hS hD hU h
  · have hq : szI x = true := by cases hm : szI x with | true => rfl | false => exact absurd (.inl hm) h
    exact refLoad_ok x sp n cap cs sq nd cd ds N w hx hS hD hU hq (X := x.toNat) (by omega) (by omega)
end Go.Proofs.Ytgdmgogjoabilaa
/- Layer vm: the law VmLoads. -/
namespace Go.Proofs.Ytgdmgogjoabilaa
open Go.RowKit
set_option maxRecDepth 100000
set_option linter.unusedVariables false
set_option linter.unusedSimpArgs false


theorem loadV {x : Int} {sp : Option Addr} {n cap : Nat} {cs : List Cd} {sq : Option Addr} {nd cd : Nat} {ds : List Int} {w : World} (hx : -9223372036854775808 ≤ x ∧ x ≤ 9223372036854775807) (hS : CS w.heap.size w sp n cap cs) (hD : MS w.heap.size w sq nd cd ds) (hU : ∀ k, U64 (ds.getD k 0)) :
    Calls Try.prog 25 #[.int .i64 x, .slice sp n cap, .slice sq nd cd] w fun e w' => ∃ D, e = .returned (.tuple #[.agg D, .int .i64 (lO x cs ds).2]) ∧ MV w' (lO x cs ds).1 D ∧ Below w.heap.size w w' :=
  (load_any x sp n cap cs sq nd cd ds _ w hx hS hD hU).mono fun e w' ⟨sp1, n1, cap1, he, hok, hM1, hb⟩ => ⟨_, he, ⟨⟨sp1, n1, cap1, rfl, hM1⟩, hok⟩, hb⟩
theorem refLoadV {x : Int} {sp : Option Addr} {n cap : Nat} {cs : List Cd} {sq : Option Addr} {nd cd : Nat} {ds : List Int} {w : World} (hx : -9223372036854775808 ≤ x ∧ x ≤ 9223372036854775807) (hS : CS w.heap.size w sp n cap cs) (hD : MS w.heap.size w sq nd cd ds) (hU : ∀ k, U64 (ds.getD k 0)) :
    Calls Try.prog 26 #[.int .i64 x, .slice sp n cap, .slice sq nd cd] w fun e w' => ∃ D, e = .returned (.tuple #[.agg D, .int .i64 (lO x cs ds).2]) ∧ MV w' (lO x cs ds).1 D ∧ Below w.heap.size w w' :=
  (refLoad_any x sp n cap cs sq nd cd ds _ w hx hS hD hU).mono fun e w' ⟨sp1, n1, cap1, he, hok, hM1, hb⟩ => ⟨_, he, ⟨⟨sp1, n1, cap1, rfl, hM1⟩, hok⟩, hb⟩
theorem refSameV {m k : Mc} {C D : Array Value} {w : World} (h : MV w m C) (h' : MV w k D) : Calls Try.prog 19 #[.agg C, .agg D] w fun e w' => e = .returned (.bool (smB m k)) ∧ Below w.heap.size w w' := by
  obtain ⟨sp, n, cap, rfl, hM⟩ := h.ex
  obtain ⟨sp', n', cap', rfl, hM'⟩ := h'.ex
  exact refSame_any m k sp n cap sp' n' cap' _ w h.ok h'.ok hM hM'
theorem MS.bel {sq : Option Addr} {n cap : Nat} {L : List Int} {w w' : World} (h : MS w.heap.size w sq n cap L) (hb : Below w.heap.size w w') : MS w'.heap.size w' sq n cap L := (h.below hb).mono hb.size
theorem CS.mono {N N' : Nat} {w : World} {sp : Option Addr} {n cap : Nat} {cs : List Cd} (h : CS N w sp n cap cs) (hN : N ≤ N') : CS N' w sp n cap cs :=
  ⟨h.len, h.nil, h.le, h.big, h.small, fun h0 => let ⟨b, off, e, hb, hB⟩ := h.at0 h0; ⟨b, off, e, by omega, hB⟩, h.ok⟩
theorem CS.bel {sq : Option Addr} {n cap : Nat} {cs : List Cd} {w w' : World} (h : CS w.heap.size w sq n cap cs) (hb : Below w.heap.size w w') : CS w'.heap.size w' sq n cap cs := (h.below hb).mono hb.size
set_option maxHeartbeats 2000000 in
theorem loads_walk (x : Int) (sp : Option Addr) (n cap : Nat) (cs : List Cd) (sq : Option Addr) (nd cd : Nat) (ds : List Int) (w : World) (hx : -9223372036854775808 ≤ x ∧ x ≤ 9223372036854775807) (hS : CS w.heap.size w sp n cap cs) (hD : MS w.heap.size w sq nd cd ds) (hU : ∀ k, U64 (ds.getD k 0)) :
    Calls Try.prog 6 #[.int .i64 x, .slice sp n cap, .slice sq nd cd] w fun e w' => e = .returned (.bool true) ∧ Below w.heap.size w w' := by
  go_enter Try.func6, Try.ntmps6
  go_upto_region 2 with (first
    | (go_at_call 25; go_must (refine (loadV hx hS hD hU).mono ?_; rintro e wa ⟨Da, rfl, Va, ba⟩; have za := Va.size; have oa := Va.one; replace hS := hS.bel ba; replace hD := hD.bel ba))
    | (refine atS 45 (.tmp 7) (.tmp 16) (by rfl) ?_; refine st45n (by rfl) (.tmp 7) (.tmp 16) (by rfl) wa wa.heap.size rfl (by rfl) Da (by rfl) (by rfl) za oa ?_))
  have Ba := Arr.new wa 45 Da
  have qa := alloc_bel' wa (.cells Da 45)
  replace Va := Va.bel qa
  replace hS := hS.bel qa
  replace hD := hD.bel qa
  have hB := ba.alloc ba.size (.cells Da 45)
  go_upto_region 3 with (first
    | (go_at_call 26; go_must (refine (refLoadV hx hS hD hU).mono ?_; rintro e wb ⟨Db, rfl, Vb, bb⟩; have zb := Vb.size; have ob := Vb.one; replace Ba := Ba.below bb Ba.lt; replace Va := Va.bel bb; replace hB := hB.trans (bb.mono hB.size)))
    | (refine atS 45 (.tmp 9) (.tmp 23) (by rfl) ?_; refine st45n (by rfl) (.tmp 9) (.tmp 23) (by rfl) wb wb.heap.size rfl (by rfl) Db (by rfl) (by rfl) zb ob ?_))
  have Bb := Arr.new wb 45 Db
  have qb := alloc_bel' wb (.cells Db 45)
  replace Va := Va.bel qb
  replace Vb := Vb.bel qb
  replace Ba := Ba.below qb Ba.lt
  replace hB := hB.alloc hB.size (.cells Db 45)
  go_wp2_with (first
    | (refine atL 45 (.tmp 7) (by rfl) ?_; refine ld45 (by rfl) (.tmp 7) (by rfl) wa.heap.size (by rfl) Da za Ba ?_)
    | (refine atL 45 (.tmp 9) (by rfl) ?_; refine ld45 (by rfl) (.tmp 9) (by rfl) wb.heap.size (by rfl) Db zb Bb ?_)
    | (go_at_call 19; go_must (refine (refSameV Va Vb).mono ?_; rintro e ws ⟨rfl, bs⟩; rw [smB_self]; replace hB := hB.trans (bs.mono hB.size)))
    | (go_at_call 16; go_must (refine (anchored_any _).mono ?_; rintro e wn ⟨rfl, bn⟩; replace hB := hB.trans (bn.mono hB.size))))
  go_ret
  exact ⟨by simp, hB⟩
end Go.Proofs.Ytgdmgogjoabilaa
/- Layer vm: instructions and words that came in. -/
namespace Go.Proofs.Ytgdmgogjoabilaa
open Go.RowKit
set_option maxRecDepth 100000
set_option linter.unusedVariables false
set_option linter.unusedSimpArgs false

open Go.ChangeAt Go.ChangeShapes Go.RowKit Go.WideShapes
section
variable {H : Type} {enc : TypeId × Value → H} {W : World} {base : Nat}
set_option maxRecDepth 100000 in
theorem cs_of_trod {fuel : Nat} {cs : List Value} {x : DataW H × List MemPlace} (h : DataW.trod enc Try.prog W base (fun _ => true) true fuel 59 cs = some x) (hs : Small 59 x.1) :
    ∃ sq k cq es, cs = [.slice sq k cq] ∧ CS W.heap.size W sq k cq es := by
  rcases DataW.trod_slice Try.underlying59 h with ⟨rfl, -⟩ | ⟨a, len, cap, elems, rest, n, rfl, rfl, rfl, hb, hlc, hm, hlen, hel, hsp, -⟩
  · exact ⟨none, 0, 0, [], rfl, ⟨rfl, fun _ => ⟨rfl, rfl⟩, Nat.le_refl _, by omega, by omega, fun h => absurd h (by omega), fun e h => by cases h⟩⟩
  · obtain ⟨hrl, -⟩ := hsp rfl
    have hr := hs ((elems.length + rest.length) * 8) (by simp [DataW.weights, Try.underlying59, bytes25])
    simp only [reachBytes] at hr
    have hstep : ∀ i, i < len → ∃ g off, ∃ e : Cd, a.add (i * 5) = ⟨g, off, none⟩ ∧ W.rangeAt g off e.arr.toList ∧ e.ok := fun i hi => by
      have h1 := hel i hi
      rw [cells25, List.getElem?_eq_getElem (by omega), Option.bind_eq_some_iff] at h1
      obtain ⟨cs, hcs, ht⟩ := h1
      obtain ⟨g, off, e, hR⟩ := cells_at (by omega) hcs
      obtain ⟨f, hf, ho⟩ := cd_of_trod ht
      subst hf
      exact ⟨g, off, f, e, hR, ho⟩
    by_cases h0 : 0 < len
    · obtain ⟨g, off, -, e, -⟩ := hstep 0 h0
      have ha : a = ⟨g, off, none⟩ := by simpa [Addr.add] using e
      subst ha
      obtain ⟨l, hl, hP⟩ := exists_list (P := fun i (f : Cd) => W.rangeAt g (off + i * 5) f.arr.toList ∧ f.ok) len (fun i hi => by
        obtain ⟨g', off', f, e', h1, ho⟩ := hstep i hi
        rw [Addr.add_mid] at e'
        cases e'
        exact ⟨f, h1, ho⟩)
      refine ⟨some ⟨g, off, none⟩, len, cap, l, rfl, ⟨show _ = _ by simp [hl], (fun e => by cases e), hlc, by unfold maxLen at hm; omega, by omega, fun _ => ⟨g, off, rfl, ?_, fun i f hf => (hP i f hf).1⟩, fun f hf => ?_⟩⟩
      · obtain ⟨p, hp⟩ : ∃ p, l[0]? = some p := ⟨l[0], List.getElem?_eq_getElem (by omega)⟩
        exact block_lt_of_cell ((hP 0 p hp).1 0 _ rfl)
      · obtain ⟨i, hi⟩ := List.mem_iff_getElem?.1 hf
        exact (hP i f hi).2
    · obtain rfl : len = 0 := by omega
      exact ⟨some a, 0, cap, [], rfl, ⟨rfl, (fun e => by cases e), by omega, by unfold maxLen at hm; omega, by omega, fun h => by omega, fun f hf => by simp at hf⟩⟩
/-- INSTRUCTIONS THAT CAME IN. -/
theorem open_codes {b0 : Nat} {v : Value} {d : DataW H} {p : List MemPlace} {ts : List TypeId} {ds : List (DataW H)} {j : Nat}
    (hv : Value.okWide Try.prog W .any b0 59 v) (h : DataW.Trod enc Try.prog W base (fun _ => true) true 59 v d p)
    (hsz : (DataW.weightsEach Try.prog ts ds).all (· ≤ reachBytes) = true) (ht : ts[j]? = some 59) (hd : ds[j]? = some d) :
    ∃ sq k cq es, v = .slice sq k cq ∧ CS W.heap.size W sq k cq es := by
  obtain ⟨a0, len0, cap0, rfl⟩ := okWide_slice Try.underlying59 hv
  obtain ⟨fuel, hf⟩ := h
  have hs : Small 59 d := fun n hn => by
    have := List.all_eq_true.1 hsz n (DataW.weights_mem_each ht hd n hn)
    simpa using this
  obtain ⟨sq, k, cq, fs, e, hi⟩ := cs_of_trod (x := (d, p)) hf hs
  simp [Value.cells] at e
  obtain ⟨rfl, rfl, rfl⟩ := e
  exact ⟨_, _, _, fs, rfl, hi⟩
/-- WORDS THAT CAME IN. -/
theorem open_words {b0 : Nat} {v : Value} {d : DataW H} {p : List MemPlace} {ts : List TypeId} {ds : List (DataW H)} {j : Nat}
    (hv : Value.okWide Try.prog W .any b0 43 v) (h : DataW.Trod enc Try.prog W base (fun _ => true) true 43 v d p)
    (hsz : (DataW.weightsEach Try.prog ts ds).all (· ≤ reachBytes) = true) (ht : ts[j]? = some 43) (hd : ds[j]? = some d) :
    ∃ sq k cq L, v = .slice sq k cq ∧ MS W.heap.size W sq k cq L ∧ ∀ t, U64 (L.getD t 0) := by
  obtain ⟨a0, len0, cap0, rfl⟩ := okWide_slice Try.underlying43 hv
  obtain ⟨fuel, hf⟩ := h
  have hs : Small 43 d := fun n hn => by
    have := List.all_eq_true.1 hsz n (DataW.weights_mem_each ht hd n hn)
    simpa using this
  obtain ⟨sq, k, cq, fs, e, hi, hu⟩ := ws_of_trod (x := (d, p)) hf hs
  simp [Value.cells] at e
  obtain ⟨rfl, rfl, rfl⟩ := e
  exact ⟨_, _, _, fs, rfl, hi, hu⟩
end
end Go.Proofs.Ytgdmgogjoabilaa
