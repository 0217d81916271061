/- Layer state, the document's answer: Check, CheckOut. -/
import Derived.Test.YtlebojbfcolkhaaSb
namespace Go.Proofs.Ytlebojbfcolkhaa
open Go.RowKit
set_option maxRecDepth 100000
set_option linter.unusedVariables false
set_option linter.unusedSimpArgs false

theorem fo_up {i : Nat} {x : List Int} {ls : List (List Int)} {o : List Int} {c : Int} (hl : ls.length = 5) (hi : i < 32) : fo i x (ls ++ [o, cnt c]) = jn (fo i x ls) o c := by
  rw [show ls ++ [o, cnt c] = (ls ++ [o]) ++ [cnt c] by simp, fo_app, fo_app, List.length_append, hl]
  rw [if_pos (by show i / 2 ^ 6 % 2 = 0; rw [Nat.div_eq_of_lt (by omega)]), if_pos (by rw [Nat.div_eq_of_lt (by show i < 2 ^ 5; omega)])]
  rfl
theorem fo_upO {i : Nat} {x : List Int} {ls : List (List Int)} {o : List Int} {c : Int} (hl : ls.length = 5) (hi : i < 32) : fo (32 + i) x (ls ++ [o, cnt c]) = jn o (fo i x ls) c := by
  rw [show ls ++ [o, cnt c] = (ls ++ [o]) ++ [cnt c] by simp, fo_app, fo_app, List.length_append, hl]
  rw [if_pos (by show (32 + i) / 2 ^ 6 % 2 = 0; rw [Nat.div_eq_of_lt (by omega)]), if_neg (by rw [show (32 + i) / 2 ^ 5 = 1 by omega]; omega), fo_low (i' := i) (by rw [hl]; show (32 + i) % 32 = i % 32; omega)]
  rfl
theorem y24c' {ops : Array Oper} {S : World → Prop} {op : Oper} {a : Act} (hw : Region.wanted op (yielded ops a.tmps) = true) (x : Operand) (ho : op.op = .load 24 x)
    (b off : Nat) (hx : a.eval x = .pointer (some ⟨b, off, none⟩)) (X : List Int) (hX : X.length = 32) (hS : ∀ w, S w → w.rangeAt b off (by8 X)) : YieldsIf Try.prog ops S op (.agg (h8 X)) a :=
  yieldsIf_load_mid hw 24 x ho b off hx (by8 X) _ hS Try.underlying24 rfl (by rw [by8_len, hX]; exact size24)
theorem fo5 {i : Int} (h0 : 0 ≤ i) (h1 : i < 32) : FoOK i 5 := ⟨by omega, h0, by show i < 32; exact h1⟩
set_option maxHeartbeats 4000000 in
theorem refCheck_ok (R : List Int) (i : Int) (a : Ac) (N : Nat) (sp : Option Addr) (n cap : Nat) (ls : List (List Int)) (o : List Int) (c : Int) (w : World) (hR : R.length = 32) (ha : AcOK a) (hW : WT N w sp n cap ls o c) (h5 : n = 5) (h32 : c ≤ 32) (h0 : 0 ≤ i) (h1 : i < 32) :
    Calls Try.prog 24 #[.agg (h8 R), .int .i64 i, .agg a.arr, .agg (wtA sp n cap o c)] w fun e w' => e = .returned (.bool (ckA R i a ls o c)) ∧ Below w.heap.size w w' := by
  have hW := hW.here
  have hl5 : ls.length = 5 := by rw [← hW.path.len.out]; exact h5
  have hFok : FoOK i ls.length := by rw [hl5]; exact fo5 h0 (by omega)
  obtain ⟨F, hFe⟩ : ∃ F, F = fo i.toNat (lf (acb a)) ls := ⟨_, rfl⟩
  have hF : F.length = 32 := by rw [hFe]; exact fo_len (lf_len _)
  have hFo := Hid.mk' (fun u (hu : Below w.heap.size w u) => by
    have h := refFold_any i (lf (acb a)) _ sp n cap ls u (lf_len _) (hW.path.below hu)
    unfold foR foE at h
    rw [if_pos hFok, if_pos hFok, ← hFe] at h
    exact h)
  have hfin : Hid (decide (jn F o c = R) = ckA R i a ls o c) := Hid.mk' (by
    unfold ckA
    rw [fo_up hl5 (by omega), ← hFe]
    congr 1
    simp only [hl5, h32, h0, h1, true_and, and_self])
  have hjl : (jn F o c).length = 32 := jn_len _ _ _
  have heq := run_eq24d hjl hR
  clear hFe hFok hl5
  have h5' : ((n : Int) != 5) = false := by simp; omega
  have h5'' : (n : Int) = 5 := by omega
  have h32' : ¬ c > 32 := by omega
  have X0 := ((Arr.new w 24 (h8 R)).alloc (.cells a.arr 26)).alloc (.cells (wtA sp n cap o c) 44)
  have Y0 := (show Arr ((w.alloc (.cells (h8 R) 24)).alloc (.cells a.arr 26)) (w.heap.size + 1) 26 a.arr from (by simpa using Arr.new (w.alloc (.cells (h8 R) 24)) 26 a.arr)).alloc (.cells (wtA sp n cap o c) 44)
  have V0 := Arr.new3 w (.cells (h8 R) 24) (.cells a.arr 26) 44 (wtA sp n cap o c)
  have B0 := ((alloc_bel' w (.cells (h8 R) 24)).alloc (by simp) (.cells a.arr 26)).alloc (by simp; omega) (.cells (wtA sp n cap o c) 44)
  have k0 := wt_c0 V0.wt
  have k1 := wt_c' V0.wt hW.o32
  replace h5 := Hid.mk' h5
  go_enter Try.func24, Try.ntmps24
  go_upto_region 3 with fail
  clear k0 k1 h5'' h5'
  replace B0 := B0.drew
  replace X0 := X0.drew
  replace Y0 := Y0.drew
  replace V0 := V0.drew
  obtain ⟨u0, hu0⟩ : ∃ u : World, u = (((w.alloc (.cells (h8 R) 24)).alloc (.cells a.arr 26)).alloc (.cells (wtA sp n cap o c) 44)).drew := ⟨_, rfl⟩
  rw [← hu0] at B0 X0 Y0 V0
  refine wp_region_held_drew (S := fun u => Below w.heap.size w u ∧ Arr u w.heap.size 24 (h8 R) ∧ Arr u (w.heap.size + 1) 26 a.arr ∧ Arr u (w.heap.size + 2) 44 (wtA sp n cap o c)) (by kernel_rfl) (by rw [← hu0]; exact ⟨B0, X0, Y0, V0⟩) (fun hHeld => ?_)
  rw [← hu0]
  rw [← hu0] at hHeld
  clear hu0
  refine wpAnyH_take (i := 0) (oi := ⟨_, _, _, _, _, _⟩) (v := ?_) rfl (by kernel_rfl) (by kernel_rfl) (by kernel_rfl) (fun _ _ _ h => h) (Or.inl ⟨by rfl, ?_⟩) (by assumption) ?_
  rotate_left
  · intro u hSw
    go_simp
    try (with_reducible rfl)
  try simp only [Act.put, List.setIfInBounds_toArray, List.set_cons_zero, List.set_cons_succ]
  refine wpAnyH_take (i := 1) (oi := ⟨_, _, _, _, _, _⟩) rfl (by kernel_rfl) (by kernel_rfl) (by kernel_rfl) (fun _ _ _ h => h) (y26 (by rfl) (.tmp 6) rfl (w.heap.size + 1) 0 rfl a ha.l32 (fun u hu => hu.2.2.1.ac)) (by assumption) ?_
  try simp only [Act.put, List.setIfInBounds_toArray, List.set_cons_zero, List.set_cons_succ]
  refine wpAnyH_take (i := 4) (oi := ⟨_, _, _, _, _, _⟩) (v := ?_) rfl (by kernel_rfl) (by kernel_rfl) (by kernel_rfl) (fun _ _ _ h => h) (Or.inl ⟨by rfl, ?_⟩) (by assumption) ?_
  rotate_left
  · intro u hSw
    go_simp
    try (with_reducible rfl)
  try simp only [Act.put, List.setIfInBounds_toArray, List.set_cons_zero, List.set_cons_succ]
  refine wpAnyH_take (i := 5) (oi := ⟨_, _, _, _, _, _⟩) (v := ?_) rfl (by kernel_rfl) (by kernel_rfl) (by kernel_rfl) (fun _ _ _ h => h) (Or.inl ⟨by rfl, ?_⟩) (by assumption) ?_
  rotate_left
  · intro u hSw
    have cc := wt_c0 hSw.2.2.2.wt
    go_simp
    try (with_reducible rfl)
  try simp only [Act.put, List.setIfInBounds_toArray, List.set_cons_zero, List.set_cons_succ]

  refine wpAnyH_ready (rs := [2, 10]) (by kernel_rfl) (by simp) ?_
  refine AllReadyH.cons (o := ⟨_, _, _, _, _, _⟩) rfl (fun K hK => ?_) (AllReadyH.cons (o := ⟨_, _, _, _, _, _⟩) rfl (fun K hK => ?_) AllReadyH.nil)
  · go_simp
    refine (refAcBytes_any a _ ha).mono ?_; rintro e u1 ⟨v1, rfl, hown1, hb1⟩; have B1 := B0.trans (hb1.mono B0.size); have X1 := X0.below hb1 X0.lt; have Y1 := Y0.below hb1 Y0.lt; have V1 := V0.below hb1 V0.lt; obtain ⟨s1, k1, rfl, hS1, -⟩ := own_bs hown1 (acb_bts ha) (by omega); have hsz1 : u1.heap.size ≤ u1.heap.size := Nat.le_refl _
    go_wp2_with fail
    refine hK.out _ _ ⟨B1, X1, Y1, V1⟩ (fun hHeld => ?_)
    clear hK K
    try simp only [Act.put, List.setIfInBounds_toArray, List.set_cons_zero, List.set_cons_succ]
    refine wpAnyH_ready (rs := [3, 10]) (by kernel_rfl) (by simp) ?_
    refine AllReadyH.cons (o := ⟨_, _, _, _, _, _⟩) rfl (fun K hK => ?_) (AllReadyH.cons (o := ⟨_, _, _, _, _, _⟩) rfl (fun K hK => ?_) AllReadyH.nil)
    · go_simp
      refine (refLeaf_bs s1 48 k1 _ (acb a) _ hS1 (by omega)).mono ?_; rintro e u2 ⟨rfl, hb2⟩; have B2 := B1.trans (hb2.mono B1.size); have X2 := X1.below hb2 X1.lt; have Y2 := Y1.below hb2 Y1.lt; have V2 := V1.below hb2 V1.lt
      go_wp2_with fail
      refine hK.out _ _ ⟨B2, X2, Y2, V2⟩ (fun hHeld => ?_)
      clear hK K
      try simp only [Act.put, List.setIfInBounds_toArray, List.set_cons_zero, List.set_cons_succ]
      refine wpAnyH_ready (rs := [6, 10]) (by kernel_rfl) (by simp) ?_
      refine AllReadyH.cons (o := ⟨_, _, _, _, _, _⟩) rfl (fun K hK => ?_) (AllReadyH.cons (o := ⟨_, _, _, _, _, _⟩) rfl (fun K hK => ?_) AllReadyH.nil)
      · go_simp
        refine (hFo.out u2 B2).mono ?_; rintro e u3 ⟨rfl, hb3⟩; have B3 := B2.trans (hb3.mono B2.size); have X3 := X2.below hb3 X2.lt; have Y3 := Y2.below hb3 Y2.lt; have V3 := V2.below hb3 V2.lt
        go_wp2_with fail
        refine hK.out _ _ ⟨B3, X3, Y3, V3⟩ (fun hHeld => ?_)
        clear hK K
        try simp only [Act.put, List.setIfInBounds_toArray, List.set_cons_zero, List.set_cons_succ]
        refine wpAnyH_take (i := 7) (oi := ⟨_, _, _, _, _, _⟩) (v := ?_) rfl (by kernel_rfl) (by kernel_rfl) (by kernel_rfl) (fun _ _ _ h => h) (Or.inl ⟨by rfl, ?_⟩) (by assumption) ?_
        rotate_left
        · intro u hSw
          go_simp
          try (with_reducible rfl)
        try simp only [Act.put, List.setIfInBounds_toArray, List.set_cons_zero, List.set_cons_succ]
        refine wpAnyH_take (i := 8) (oi := ⟨_, _, _, _, _, _⟩) (v := ?_) rfl (by kernel_rfl) (by kernel_rfl) (by kernel_rfl) (fun _ _ _ h => h) (Or.inl ⟨by rfl, ?_⟩) (by assumption) ?_
        rotate_left
        · intro u hSw
          go_simp
          try (with_reducible rfl)
        try simp only [Act.put, List.setIfInBounds_toArray, List.set_cons_zero, List.set_cons_succ]
        refine wpAnyH_take (i := 9) (oi := ⟨_, _, _, _, _, _⟩) (v := ?_) rfl (by kernel_rfl) (by kernel_rfl) (by kernel_rfl) (fun _ _ _ h => h) (Or.inl ⟨by rfl, ?_⟩) (by assumption) ?_
        rotate_left
        · intro u hSw
          go_simp
          try (with_reducible rfl)
        try simp only [Act.put, List.setIfInBounds_toArray, List.set_cons_zero, List.set_cons_succ]
        refine wpAnyH_ready (rs := [10]) (by kernel_rfl) (by simp) ?_
        refine AllReadyH.cons (o := ⟨_, _, _, _, _, _⟩) rfl (fun K hK => ?_) AllReadyH.nil
        go_simp
        go_wp2_with fail
        have hb4 := alloc_bel' u3 (.cells (h8 Z32) 24)
        have B4 := B3.trans (hb4.mono B3.size)
        have X4 := X3.below hb4 X3.lt
        have Y4 := Y3.below hb4 Y3.lt
        have V4 := V3.below hb4 V3.lt
        have G4 := Arr.new u3 24 (h8 Z32)
        have hga4 : w.heap.size + 3 ≤ u3.heap.size := by have := V3.lt; omega
        have hsz4 : u3.heap.size ≤ (u3.alloc (.cells (h8 Z32) 24)).heap.size := by simp
        refine hK.out _ _ ⟨B4, X4, Y4, V4⟩ (fun hHeld => ?_)
        clear hK K
        try simp only [Act.put, List.setIfInBounds_toArray, List.set_cons_zero, List.set_cons_succ]
        rw [← h8_Z]
        obtain ⟨ga4, hgae4⟩ : ∃ g, g = u3.heap.size := ⟨_, rfl⟩
        rw [← hgae4] at G4 hga4 ⊢
        clear hgae4
        generalize u3.alloc (.cells (h8 Z32) 24) = u4 at *
        have hHeld : (fun u => Below w.heap.size w u ∧ Arr u w.heap.size 24 (h8 R) ∧ Arr u (w.heap.size + 1) 26 a.arr ∧ Arr u (w.heap.size + 2) 44 (wtA sp n cap o c)) u4 := ⟨B4, X4, Y4, V4⟩
        refine wpAnyH_ready (rs := [11]) (by kernel_rfl) (by simp) ?_
        refine AllReadyH.cons (o := ⟨_, _, _, _, _, _⟩) rfl (fun K hK => ?_) AllReadyH.nil
        refine step_want rfl (wp_store_row 24 (.tmp 9) (.tmp 28) rfl ga4 (h8 F) rfl rfl 24 _ G4 (s24h8 hF) (by rw [h8_size, h8_size, hF, Z32_len]) (h8_one _) ?_)
        have Bf : Below w.heap.size w (u4.setRow ga4 (h8 F)) := below_setRow B4 (by omega) _
        have Xf := X4.setRowOther (k := ga4) (h8 F) (by omega)
        have Yf := Y4.setRowOther (k := ga4) (h8 F) (by omega)
        have Vf := V4.setRowOther (k := ga4) (h8 F) (by omega)
        have Gf := G4.setRow (h8 F)
        generalize u4.setRow ga4 (h8 F) = uf at *
        refine hK.out _ _ ⟨Bf, Xf, Yf, Vf⟩ (fun hHeld => ?_)
        clear hK K
        try simp only [Act.put, List.setIfInBounds_toArray, List.set_cons_zero, List.set_cons_succ]
        refine wpAnyH_take (i := 12) (oi := ⟨_, _, _, _, _, _⟩) (v := ?_) rfl (by kernel_rfl) (by kernel_rfl) (by kernel_rfl) (fun _ _ _ h => h) (Or.inl ⟨by rfl, ?_⟩) (by assumption) ?_
        rotate_left
        · intro u hSw
          go_simp
          try (with_reducible rfl)
        try simp only [Act.put, List.setIfInBounds_toArray, List.set_cons_zero, List.set_cons_succ]
        refine wpAnyH_done (by kernel_rfl) ?_ _
        go_upto_region 4 with fail
        refine wp_region_held_drew (S := fun u => Below uf.heap.size uf u) (by kernel_rfl) ((Below.refl _ _).drew) (fun hHeld => ?_)
        refine wpAnyH_take (i := 0) (oi := ⟨_, _, _, _, _, _⟩) (v := ?_) rfl (by kernel_rfl) (by kernel_rfl) (by kernel_rfl) (fun _ _ _ h => h) (Or.inl ⟨by rfl, ?_⟩) (by assumption) ?_
        rotate_left
        · intro u hSw
          go_simp
          try (with_reducible rfl)
        try simp only [Act.put, List.setIfInBounds_toArray, List.set_cons_zero, List.set_cons_succ]
        refine wpAnyH_take (i := 1) (oi := ⟨_, _, _, _, _, _⟩) (v := ?_) rfl (by kernel_rfl) (by kernel_rfl) (by kernel_rfl) (fun _ _ _ h => h) (Or.inl ⟨by rfl, ?_⟩) (by assumption) ?_
        rotate_left
        · intro u hSw
          go_simp
          try (with_reducible rfl)
        try simp only [Act.put, List.setIfInBounds_toArray, List.set_cons_zero, List.set_cons_succ]
        refine wpAnyH_take (i := 2) (oi := ⟨_, _, _, _, _, _⟩) (v := ?_) rfl (by kernel_rfl) (by kernel_rfl) (by kernel_rfl) (fun _ _ _ h => h) (Or.inl ⟨by rfl, ?_⟩) (by assumption) ?_
        rotate_left
        · intro u hSw
          go_simp
          try (with_reducible rfl)
        try simp only [Act.put, List.setIfInBounds_toArray, List.set_cons_zero, List.set_cons_succ]
        refine wpAnyH_take (i := 3) (oi := ⟨_, _, _, _, _, _⟩) rfl (by kernel_rfl) (by kernel_rfl) (by kernel_rfl) (fun _ _ _ h => h) (y24c' (by rfl) (.tmp 9) rfl ga4 0 rfl F hF (fun u hu => range_below Gf.range hu Gf.lt)) (by assumption) ?_
        try simp only [Act.put, List.setIfInBounds_toArray, List.set_cons_zero, List.set_cons_succ]
        refine wpAnyH_take (i := 4) (oi := ⟨_, _, _, _, _, _⟩) (v := ?_) rfl (by kernel_rfl) (by kernel_rfl) (by kernel_rfl) (fun _ _ _ h => h) (Or.inl ⟨by rfl, ?_⟩) (by assumption) ?_
        rotate_left
        · intro u hSw
          go_simp
          try (with_reducible rfl)
        try simp only [Act.put, List.setIfInBounds_toArray, List.set_cons_zero, List.set_cons_succ]
        refine wpAnyH_take (i := 5) (oi := ⟨_, _, _, _, _, _⟩) rfl (by kernel_rfl) (by kernel_rfl) (by kernel_rfl) (fun _ _ _ h => h) (y24c' (by rfl) (.tmp 34) rfl (w.heap.size + 2) (0 + 1) rfl o hW.o32 (fun u hu => range_below (wt_o Vf.wt) hu Vf.lt)) (by assumption) ?_
        try simp only [Act.put, List.setIfInBounds_toArray, List.set_cons_zero, List.set_cons_succ]
        refine wpAnyH_take (i := 6) (oi := ⟨_, _, _, _, _, _⟩) (v := ?_) rfl (by kernel_rfl) (by kernel_rfl) (by kernel_rfl) (fun _ _ _ h => h) (Or.inl ⟨by rfl, ?_⟩) (by assumption) ?_
        rotate_left
        · intro u hSw
          go_simp
          try (with_reducible rfl)
        try simp only [Act.put, List.setIfInBounds_toArray, List.set_cons_zero, List.set_cons_succ]
        refine wpAnyH_take (i := 7) (oi := ⟨_, _, _, _, _, _⟩) (v := ?_) rfl (by kernel_rfl) (by kernel_rfl) (by kernel_rfl) (fun _ _ _ h => h) (Or.inl ⟨by rfl, ?_⟩) (by assumption) ?_
        rotate_left
        · intro u hSw
          have cc := (hSw.cell (p := ⟨w.heap.size + 2, 33, none⟩) Vf.lt).trans (wt_c' Vf.wt hW.o32)
          go_simp
          try (with_reducible rfl)
        try simp only [Act.put, List.setIfInBounds_toArray, List.set_cons_zero, List.set_cons_succ]
        refine wpAnyH_take (i := 9) (oi := ⟨_, _, _, _, _, _⟩) rfl (by kernel_rfl) (by kernel_rfl) (by kernel_rfl) (fun _ _ _ h => h) (y24c' (by rfl) (.tmp 4) rfl w.heap.size 0 rfl R hR (fun u hu => range_below Xf.range hu Xf.lt)) (by assumption) ?_
        try simp only [Act.put, List.setIfInBounds_toArray, List.set_cons_zero, List.set_cons_succ]
        refine wpAnyH_ready (rs := [8]) (by kernel_rfl) (by simp) ?_
        refine AllReadyH.cons (o := ⟨_, _, _, _, _, _⟩) rfl (fun K hK => ?_) AllReadyH.nil
        go_simp
        refine (joined_any F o c _ hF hW.o32).mono ?_; rintro e ug ⟨rfl, hbg⟩; have Ug := (Below.refl uf.heap.size uf).drew.trans (hbg.mono (by simp))
        go_wp2_with fail
        refine hK.out _ _ Ug (fun hHeld => ?_)
        clear hK K
        try simp only [Act.put, List.setIfInBounds_toArray, List.set_cons_zero, List.set_cons_succ]
        refine wpAnyH_take (i := 10) (oi := ⟨_, _, _, _, _, _⟩) (v := ?_) rfl (by kernel_rfl) (by kernel_rfl) (by kernel_rfl) (fun _ _ _ h => h) (Or.inl ⟨by rfl, ?_⟩) (by assumption) ?_
        rotate_left
        · intro u hSw
          go_simp
          try (with_reducible rfl)
        try simp only [Act.put, List.setIfInBounds_toArray, List.set_cons_zero, List.set_cons_succ]
        refine wpAnyH_take (i := 11) (oi := ⟨_, _, _, _, _, _⟩) (v := ?_) rfl (by kernel_rfl) (by kernel_rfl) (by kernel_rfl) (fun _ _ _ h => h) (Or.inl ⟨by rfl, ?_⟩) (by assumption) ?_
        rotate_left
        · intro u hSw
          go_simp
          try (with_reducible rfl)
        try simp only [Act.put, List.setIfInBounds_toArray, List.set_cons_zero, List.set_cons_succ]
        refine wpAnyH_take (i := 12) (oi := ⟨_, _, _, _, _, _⟩) (v := ?_) rfl (by kernel_rfl) (by kernel_rfl) (by kernel_rfl) (fun _ _ _ h => h) (Or.inl ⟨by rfl, ?_⟩) (by assumption) ?_
        rotate_left
        · intro u hSw
          go_simp
          try (with_reducible rfl)
        try simp only [Act.put, List.setIfInBounds_toArray, List.set_cons_zero, List.set_cons_succ]
        refine wpAnyH_done (by kernel_rfl) ?_ _
        go_wp2_with fail
        go_ret
        exact ⟨congrArg (fun b => Ending.returned (Value.bool b)) hfin.out, Bf.trans (Ug.mono Bf.size)⟩
      · go_simp
        go_wp2_with fail
        have hb5 := alloc_bel' u2 (.cells (h8 Z32) 24)
        have B5 := B2.trans (hb5.mono B2.size)
        have X5 := X2.below hb5 X2.lt
        have Y5 := Y2.below hb5 Y2.lt
        have V5 := V2.below hb5 V2.lt
        have G5 := Arr.new u2 24 (h8 Z32)
        have hga5 : w.heap.size + 3 ≤ u2.heap.size := by have := V2.lt; omega
        have hsz5 : u2.heap.size ≤ (u2.alloc (.cells (h8 Z32) 24)).heap.size := by simp
        refine hK.out _ _ ⟨B5, X5, Y5, V5⟩ (fun hHeld => ?_)
        clear hK K
        try simp only [Act.put, List.setIfInBounds_toArray, List.set_cons_zero, List.set_cons_succ]
        rw [← h8_Z]
        obtain ⟨ga5, hgae5⟩ : ∃ g, g = u2.heap.size := ⟨_, rfl⟩
        rw [← hgae5] at G5 hga5 ⊢
        clear hgae5
        generalize u2.alloc (.cells (h8 Z32) 24) = u5 at *
        have hHeld : (fun u => Below w.heap.size w u ∧ Arr u w.heap.size 24 (h8 R) ∧ Arr u (w.heap.size + 1) 26 a.arr ∧ Arr u (w.heap.size + 2) 44 (wtA sp n cap o c)) u5 := ⟨B5, X5, Y5, V5⟩
        refine wpAnyH_ready (rs := [6]) (by kernel_rfl) (by simp) ?_
        refine AllReadyH.cons (o := ⟨_, _, _, _, _, _⟩) rfl (fun K hK => ?_) AllReadyH.nil
        go_simp
        refine (hFo.out u5 B5).mono ?_; rintro e u6 ⟨rfl, hb6⟩; have B6 := B5.trans (hb6.mono B5.size); have X6 := X5.below hb6 X5.lt; have Y6 := Y5.below hb6 Y5.lt; have V6 := V5.below hb6 V5.lt
        have G6 := G5.below hb6 G5.lt
        obtain ⟨ga6, hgq⟩ : ∃ g, g = ga5 := ⟨_, rfl⟩
        rw [← hgq] at G6 ⊢
        have hga6 : w.heap.size + 3 ≤ ga6 := by omega
        clear hgq
        go_wp2_with fail
        refine hK.out _ _ ⟨B6, X6, Y6, V6⟩ (fun hHeld => ?_)
        clear hK K
        try simp only [Act.put, List.setIfInBounds_toArray, List.set_cons_zero, List.set_cons_succ]
        refine wpAnyH_take (i := 7) (oi := ⟨_, _, _, _, _, _⟩) (v := ?_) rfl (by kernel_rfl) (by kernel_rfl) (by kernel_rfl) (fun _ _ _ h => h) (Or.inl ⟨by rfl, ?_⟩) (by assumption) ?_
        rotate_left
        · intro u hSw
          go_simp
          try (with_reducible rfl)
        try simp only [Act.put, List.setIfInBounds_toArray, List.set_cons_zero, List.set_cons_succ]
        refine wpAnyH_take (i := 8) (oi := ⟨_, _, _, _, _, _⟩) (v := ?_) rfl (by kernel_rfl) (by kernel_rfl) (by kernel_rfl) (fun _ _ _ h => h) (Or.inl ⟨by rfl, ?_⟩) (by assumption) ?_
        rotate_left
        · intro u hSw
          go_simp
          try (with_reducible rfl)
        try simp only [Act.put, List.setIfInBounds_toArray, List.set_cons_zero, List.set_cons_succ]
        refine wpAnyH_take (i := 9) (oi := ⟨_, _, _, _, _, _⟩) (v := ?_) rfl (by kernel_rfl) (by kernel_rfl) (by kernel_rfl) (fun _ _ _ h => h) (Or.inl ⟨by rfl, ?_⟩) (by assumption) ?_
        rotate_left
        · intro u hSw
          go_simp
          try (with_reducible rfl)
        try simp only [Act.put, List.setIfInBounds_toArray, List.set_cons_zero, List.set_cons_succ]
        refine wpAnyH_ready (rs := [11]) (by kernel_rfl) (by simp) ?_
        refine AllReadyH.cons (o := ⟨_, _, _, _, _, _⟩) rfl (fun K hK => ?_) AllReadyH.nil
        refine step_want rfl (wp_store_row 24 (.tmp 9) (.tmp 28) rfl ga6 (h8 F) rfl rfl 24 _ G6 (s24h8 hF) (by rw [h8_size, h8_size, hF, Z32_len]) (h8_one _) ?_)
        have Bf : Below w.heap.size w (u6.setRow ga6 (h8 F)) := below_setRow B6 (by omega) _
        have Xf := X6.setRowOther (k := ga6) (h8 F) (by omega)
        have Yf := Y6.setRowOther (k := ga6) (h8 F) (by omega)
        have Vf := V6.setRowOther (k := ga6) (h8 F) (by omega)
        have Gf := G6.setRow (h8 F)
        generalize u6.setRow ga6 (h8 F) = uf at *
        refine hK.out _ _ ⟨Bf, Xf, Yf, Vf⟩ (fun hHeld => ?_)
        clear hK K
        try simp only [Act.put, List.setIfInBounds_toArray, List.set_cons_zero, List.set_cons_succ]
        refine wpAnyH_take (i := 12) (oi := ⟨_, _, _, _, _, _⟩) (v := ?_) rfl (by kernel_rfl) (by kernel_rfl) (by kernel_rfl) (fun _ _ _ h => h) (Or.inl ⟨by rfl, ?_⟩) (by assumption) ?_
        rotate_left
        · intro u hSw
          go_simp
          try (with_reducible rfl)
        try simp only [Act.put, List.setIfInBounds_toArray, List.set_cons_zero, List.set_cons_succ]
        refine wpAnyH_done (by kernel_rfl) ?_ _
        go_upto_region 4 with fail
        refine wp_region_held_drew (S := fun u => Below uf.heap.size uf u) (by kernel_rfl) ((Below.refl _ _).drew) (fun hHeld => ?_)
        refine wpAnyH_take (i := 0) (oi := ⟨_, _, _, _, _, _⟩) (v := ?_) rfl (by kernel_rfl) (by kernel_rfl) (by kernel_rfl) (fun _ _ _ h => h) (Or.inl ⟨by rfl, ?_⟩) (by assumption) ?_
        rotate_left
        · intro u hSw
          go_simp
          try (with_reducible rfl)
        try simp only [Act.put, List.setIfInBounds_toArray, List.set_cons_zero, List.set_cons_succ]
        refine wpAnyH_take (i := 1) (oi := ⟨_, _, _, _, _, _⟩) (v := ?_) rfl (by kernel_rfl) (by kernel_rfl) (by kernel_rfl) (fun _ _ _ h => h) (Or.inl ⟨by rfl, ?_⟩) (by assumption) ?_
        rotate_left
        · intro u hSw
          go_simp
          try (with_reducible rfl)
        try simp only [Act.put, List.setIfInBounds_toArray, List.set_cons_zero, List.set_cons_succ]
        refine wpAnyH_take (i := 2) (oi := ⟨_, _, _, _, _, _⟩) (v := ?_) rfl (by kernel_rfl) (by kernel_rfl) (by kernel_rfl) (fun _ _ _ h => h) (Or.inl ⟨by rfl, ?_⟩) (by assumption) ?_
        rotate_left
        · intro u hSw
          go_simp
          try (with_reducible rfl)
        try simp only [Act.put, List.setIfInBounds_toArray, List.set_cons_zero, List.set_cons_succ]
        refine wpAnyH_take (i := 3) (oi := ⟨_, _, _, _, _, _⟩) rfl (by kernel_rfl) (by kernel_rfl) (by kernel_rfl) (fun _ _ _ h => h) (y24c' (by rfl) (.tmp 9) rfl ga6 0 rfl F hF (fun u hu => range_below Gf.range hu Gf.lt)) (by assumption) ?_
        try simp only [Act.put, List.setIfInBounds_toArray, List.set_cons_zero, List.set_cons_succ]
        refine wpAnyH_take (i := 4) (oi := ⟨_, _, _, _, _, _⟩) (v := ?_) rfl (by kernel_rfl) (by kernel_rfl) (by kernel_rfl) (fun _ _ _ h => h) (Or.inl ⟨by rfl, ?_⟩) (by assumption) ?_
        rotate_left
        · intro u hSw
          go_simp
          try (with_reducible rfl)
        try simp only [Act.put, List.setIfInBounds_toArray, List.set_cons_zero, List.set_cons_succ]
        refine wpAnyH_take (i := 5) (oi := ⟨_, _, _, _, _, _⟩) rfl (by kernel_rfl) (by kernel_rfl) (by kernel_rfl) (fun _ _ _ h => h) (y24c' (by rfl) (.tmp 34) rfl (w.heap.size + 2) (0 + 1) rfl o hW.o32 (fun u hu => range_below (wt_o Vf.wt) hu Vf.lt)) (by assumption) ?_
        try simp only [Act.put, List.setIfInBounds_toArray, List.set_cons_zero, List.set_cons_succ]
        refine wpAnyH_take (i := 6) (oi := ⟨_, _, _, _, _, _⟩) (v := ?_) rfl (by kernel_rfl) (by kernel_rfl) (by kernel_rfl) (fun _ _ _ h => h) (Or.inl ⟨by rfl, ?_⟩) (by assumption) ?_
        rotate_left
        · intro u hSw
          go_simp
          try (with_reducible rfl)
        try simp only [Act.put, List.setIfInBounds_toArray, List.set_cons_zero, List.set_cons_succ]
        refine wpAnyH_take (i := 7) (oi := ⟨_, _, _, _, _, _⟩) (v := ?_) rfl (by kernel_rfl) (by kernel_rfl) (by kernel_rfl) (fun _ _ _ h => h) (Or.inl ⟨by rfl, ?_⟩) (by assumption) ?_
        rotate_left
        · intro u hSw
          have cc := (hSw.cell (p := ⟨w.heap.size + 2, 33, none⟩) Vf.lt).trans (wt_c' Vf.wt hW.o32)
          go_simp
          try (with_reducible rfl)
        try simp only [Act.put, List.setIfInBounds_toArray, List.set_cons_zero, List.set_cons_succ]
        refine wpAnyH_take (i := 9) (oi := ⟨_, _, _, _, _, _⟩) rfl (by kernel_rfl) (by kernel_rfl) (by kernel_rfl) (fun _ _ _ h => h) (y24c' (by rfl) (.tmp 4) rfl w.heap.size 0 rfl R hR (fun u hu => range_below Xf.range hu Xf.lt)) (by assumption) ?_
        try simp only [Act.put, List.setIfInBounds_toArray, List.set_cons_zero, List.set_cons_succ]
        refine wpAnyH_ready (rs := [8]) (by kernel_rfl) (by simp) ?_
        refine AllReadyH.cons (o := ⟨_, _, _, _, _, _⟩) rfl (fun K hK => ?_) AllReadyH.nil
        go_simp
        refine (joined_any F o c _ hF hW.o32).mono ?_; rintro e ug ⟨rfl, hbg⟩; have Ug := (Below.refl uf.heap.size uf).drew.trans (hbg.mono (by simp))
        go_wp2_with fail
        refine hK.out _ _ Ug (fun hHeld => ?_)
        clear hK K
        try simp only [Act.put, List.setIfInBounds_toArray, List.set_cons_zero, List.set_cons_succ]
        refine wpAnyH_take (i := 10) (oi := ⟨_, _, _, _, _, _⟩) (v := ?_) rfl (by kernel_rfl) (by kernel_rfl) (by kernel_rfl) (fun _ _ _ h => h) (Or.inl ⟨by rfl, ?_⟩) (by assumption) ?_
        rotate_left
        · intro u hSw
          go_simp
          try (with_reducible rfl)
        try simp only [Act.put, List.setIfInBounds_toArray, List.set_cons_zero, List.set_cons_succ]
        refine wpAnyH_take (i := 11) (oi := ⟨_, _, _, _, _, _⟩) (v := ?_) rfl (by kernel_rfl) (by kernel_rfl) (by kernel_rfl) (fun _ _ _ h => h) (Or.inl ⟨by rfl, ?_⟩) (by assumption) ?_
        rotate_left
        · intro u hSw
          go_simp
          try (with_reducible rfl)
        try simp only [Act.put, List.setIfInBounds_toArray, List.set_cons_zero, List.set_cons_succ]
        refine wpAnyH_take (i := 12) (oi := ⟨_, _, _, _, _, _⟩) (v := ?_) rfl (by kernel_rfl) (by kernel_rfl) (by kernel_rfl) (fun _ _ _ h => h) (Or.inl ⟨by rfl, ?_⟩) (by assumption) ?_
        rotate_left
        · intro u hSw
          go_simp
          try (with_reducible rfl)
        try simp only [Act.put, List.setIfInBounds_toArray, List.set_cons_zero, List.set_cons_succ]
        refine wpAnyH_done (by kernel_rfl) ?_ _
        go_wp2_with fail
        go_ret
        exact ⟨congrArg (fun b => Ending.returned (Value.bool b)) hfin.out, Bf.trans (Ug.mono Bf.size)⟩
    · go_simp
      go_wp2_with fail
      have hb7 := alloc_bel' u1 (.cells (h8 Z32) 24)
      have B7 := B1.trans (hb7.mono B1.size)
      have X7 := X1.below hb7 X1.lt
      have Y7 := Y1.below hb7 Y1.lt
      have V7 := V1.below hb7 V1.lt
      have G7 := Arr.new u1 24 (h8 Z32)
      have hS7 := hS1.below (hb7.mono hsz1)
      have hga7 : w.heap.size + 3 ≤ u1.heap.size := by have := V1.lt; omega
      have hsz7 : u1.heap.size ≤ (u1.alloc (.cells (h8 Z32) 24)).heap.size := by simp
      refine hK.out _ _ ⟨B7, X7, Y7, V7⟩ (fun hHeld => ?_)
      clear hK K
      try simp only [Act.put, List.setIfInBounds_toArray, List.set_cons_zero, List.set_cons_succ]
      rw [← h8_Z]
      obtain ⟨ga7, hgae7⟩ : ∃ g, g = u1.heap.size := ⟨_, rfl⟩
      rw [← hgae7] at G7 hga7 ⊢
      clear hgae7
      generalize u1.alloc (.cells (h8 Z32) 24) = u7 at *
      have hHeld : (fun u => Below w.heap.size w u ∧ Arr u w.heap.size 24 (h8 R) ∧ Arr u (w.heap.size + 1) 26 a.arr ∧ Arr u (w.heap.size + 2) 44 (wtA sp n cap o c)) u7 := ⟨B7, X7, Y7, V7⟩
      refine wpAnyH_ready (rs := [3]) (by kernel_rfl) (by simp) ?_
      refine AllReadyH.cons (o := ⟨_, _, _, _, _, _⟩) rfl (fun K hK => ?_) AllReadyH.nil
      go_simp
      refine (refLeaf_bs s1 48 k1 _ (acb a) _ hS7 (by omega)).mono ?_; rintro e u8 ⟨rfl, hb8⟩; have B8 := B7.trans (hb8.mono B7.size); have X8 := X7.below hb8 X7.lt; have Y8 := Y7.below hb8 Y7.lt; have V8 := V7.below hb8 V7.lt
      have G8 := G7.below hb8 G7.lt
      obtain ⟨ga8, hgq⟩ : ∃ g, g = ga7 := ⟨_, rfl⟩
      rw [← hgq] at G8 ⊢
      have hga8 : w.heap.size + 3 ≤ ga8 := by omega
      clear hgq
      go_wp2_with fail
      refine hK.out _ _ ⟨B8, X8, Y8, V8⟩ (fun hHeld => ?_)
      clear hK K
      try simp only [Act.put, List.setIfInBounds_toArray, List.set_cons_zero, List.set_cons_succ]
      refine wpAnyH_ready (rs := [6]) (by kernel_rfl) (by simp) ?_
      refine AllReadyH.cons (o := ⟨_, _, _, _, _, _⟩) rfl (fun K hK => ?_) AllReadyH.nil
      go_simp
      refine (hFo.out u8 B8).mono ?_; rintro e u9 ⟨rfl, hb9⟩; have B9 := B8.trans (hb9.mono B8.size); have X9 := X8.below hb9 X8.lt; have Y9 := Y8.below hb9 Y8.lt; have V9 := V8.below hb9 V8.lt
      have G9 := G8.below hb9 G8.lt
      obtain ⟨ga9, hgq⟩ : ∃ g, g = ga8 := ⟨_, rfl⟩
      rw [← hgq] at G9 ⊢
      have hga9 : w.heap.size + 3 ≤ ga9 := by omega
      clear hgq
      go_wp2_with fail
      refine hK.out _ _ ⟨B9, X9, Y9, V9⟩ (fun hHeld => ?_)
      clear hK K
      try simp only [Act.put, List.setIfInBounds_toArray, List.set_cons_zero, List.set_cons_succ]
      refine wpAnyH_take (i := 7) (oi := ⟨_, _, _, _, _, _⟩) (v := ?_) rfl (by kernel_rfl) (by kernel_rfl) (by kernel_rfl) (fun _ _ _ h => h) (Or.inl ⟨by rfl, ?_⟩) (by assumption) ?_
      rotate_left
      · intro u hSw
        go_simp
        try (with_reducible rfl)
      try simp only [Act.put, List.setIfInBounds_toArray, List.set_cons_zero, List.set_cons_succ]
      refine wpAnyH_take (i := 8) (oi := ⟨_, _, _, _, _, _⟩) (v := ?_) rfl (by kernel_rfl) (by kernel_rfl) (by kernel_rfl) (fun _ _ _ h => h) (Or.inl ⟨by rfl, ?_⟩) (by assumption) ?_
      rotate_left
      · intro u hSw
        go_simp
        try (with_reducible rfl)
      try simp only [Act.put, List.setIfInBounds_toArray, List.set_cons_zero, List.set_cons_succ]
      refine wpAnyH_take (i := 9) (oi := ⟨_, _, _, _, _, _⟩) (v := ?_) rfl (by kernel_rfl) (by kernel_rfl) (by kernel_rfl) (fun _ _ _ h => h) (Or.inl ⟨by rfl, ?_⟩) (by assumption) ?_
      rotate_left
      · intro u hSw
        go_simp
        try (with_reducible rfl)
      try simp only [Act.put, List.setIfInBounds_toArray, List.set_cons_zero, List.set_cons_succ]
      refine wpAnyH_ready (rs := [11]) (by kernel_rfl) (by simp) ?_
      refine AllReadyH.cons (o := ⟨_, _, _, _, _, _⟩) rfl (fun K hK => ?_) AllReadyH.nil
      refine step_want rfl (wp_store_row 24 (.tmp 9) (.tmp 28) rfl ga9 (h8 F) rfl rfl 24 _ G9 (s24h8 hF) (by rw [h8_size, h8_size, hF, Z32_len]) (h8_one _) ?_)
      have Bf : Below w.heap.size w (u9.setRow ga9 (h8 F)) := below_setRow B9 (by omega) _
      have Xf := X9.setRowOther (k := ga9) (h8 F) (by omega)
      have Yf := Y9.setRowOther (k := ga9) (h8 F) (by omega)
      have Vf := V9.setRowOther (k := ga9) (h8 F) (by omega)
      have Gf := G9.setRow (h8 F)
      generalize u9.setRow ga9 (h8 F) = uf at *
      refine hK.out _ _ ⟨Bf, Xf, Yf, Vf⟩ (fun hHeld => ?_)
      clear hK K
      try simp only [Act.put, List.setIfInBounds_toArray, List.set_cons_zero, List.set_cons_succ]
      refine wpAnyH_take (i := 12) (oi := ⟨_, _, _, _, _, _⟩) (v := ?_) rfl (by kernel_rfl) (by kernel_rfl) (by kernel_rfl) (fun _ _ _ h => h) (Or.inl ⟨by rfl, ?_⟩) (by assumption) ?_
      rotate_left
      · intro u hSw
        go_simp
        try (with_reducible rfl)
      try simp only [Act.put, List.setIfInBounds_toArray, List.set_cons_zero, List.set_cons_succ]
      refine wpAnyH_done (by kernel_rfl) ?_ _
      go_upto_region 4 with fail
      refine wp_region_held_drew (S := fun u => Below uf.heap.size uf u) (by kernel_rfl) ((Below.refl _ _).drew) (fun hHeld => ?_)
      refine wpAnyH_take (i := 0) (oi := ⟨_, _, _, _, _, _⟩) (v := ?_) rfl (by kernel_rfl) (by kernel_rfl) (by kernel_rfl) (fun _ _ _ h => h) (Or.inl ⟨by rfl, ?_⟩) (by assumption) ?_
      rotate_left
      · intro u hSw
        go_simp
        try (with_reducible rfl)
      try simp only [Act.put, List.setIfInBounds_toArray, List.set_cons_zero, List.set_cons_succ]
      refine wpAnyH_take (i := 1) (oi := ⟨_, _, _, _, _, _⟩) (v := ?_) rfl (by kernel_rfl) (by kernel_rfl) (by kernel_rfl) (fun _ _ _ h => h) (Or.inl ⟨by rfl, ?_⟩) (by assumption) ?_
      rotate_left
      · intro u hSw
        go_simp
        try (with_reducible rfl)
      try simp only [Act.put, List.setIfInBounds_toArray, List.set_cons_zero, List.set_cons_succ]
      refine wpAnyH_take (i := 2) (oi := ⟨_, _, _, _, _, _⟩) (v := ?_) rfl (by kernel_rfl) (by kernel_rfl) (by kernel_rfl) (fun _ _ _ h => h) (Or.inl ⟨by rfl, ?_⟩) (by assumption) ?_
      rotate_left
      · intro u hSw
        go_simp
        try (with_reducible rfl)
      try simp only [Act.put, List.setIfInBounds_toArray, List.set_cons_zero, List.set_cons_succ]
      refine wpAnyH_take (i := 3) (oi := ⟨_, _, _, _, _, _⟩) rfl (by kernel_rfl) (by kernel_rfl) (by kernel_rfl) (fun _ _ _ h => h) (y24c' (by rfl) (.tmp 9) rfl ga9 0 rfl F hF (fun u hu => range_below Gf.range hu Gf.lt)) (by assumption) ?_
      try simp only [Act.put, List.setIfInBounds_toArray, List.set_cons_zero, List.set_cons_succ]
      refine wpAnyH_take (i := 4) (oi := ⟨_, _, _, _, _, _⟩) (v := ?_) rfl (by kernel_rfl) (by kernel_rfl) (by kernel_rfl) (fun _ _ _ h => h) (Or.inl ⟨by rfl, ?_⟩) (by assumption) ?_
      rotate_left
      · intro u hSw
        go_simp
        try (with_reducible rfl)
      try simp only [Act.put, List.setIfInBounds_toArray, List.set_cons_zero, List.set_cons_succ]
      refine wpAnyH_take (i := 5) (oi := ⟨_, _, _, _, _, _⟩) rfl (by kernel_rfl) (by kernel_rfl) (by kernel_rfl) (fun _ _ _ h => h) (y24c' (by rfl) (.tmp 34) rfl (w.heap.size + 2) (0 + 1) rfl o hW.o32 (fun u hu => range_below (wt_o Vf.wt) hu Vf.lt)) (by assumption) ?_
      try simp only [Act.put, List.setIfInBounds_toArray, List.set_cons_zero, List.set_cons_succ]
      refine wpAnyH_take (i := 6) (oi := ⟨_, _, _, _, _, _⟩) (v := ?_) rfl (by kernel_rfl) (by kernel_rfl) (by kernel_rfl) (fun _ _ _ h => h) (Or.inl ⟨by rfl, ?_⟩) (by assumption) ?_
      rotate_left
      · intro u hSw
        go_simp
        try (with_reducible rfl)
      try simp only [Act.put, List.setIfInBounds_toArray, List.set_cons_zero, List.set_cons_succ]
      refine wpAnyH_take (i := 7) (oi := ⟨_, _, _, _, _, _⟩) (v := ?_) rfl (by kernel_rfl) (by kernel_rfl) (by kernel_rfl) (fun _ _ _ h => h) (Or.inl ⟨by rfl, ?_⟩) (by assumption) ?_
      rotate_left
      · intro u hSw
        have cc := (hSw.cell (p := ⟨w.heap.size + 2, 33, none⟩) Vf.lt).trans (wt_c' Vf.wt hW.o32)
        go_simp
        try (with_reducible rfl)
      try simp only [Act.put, List.setIfInBounds_toArray, List.set_cons_zero, List.set_cons_succ]
      refine wpAnyH_take (i := 9) (oi := ⟨_, _, _, _, _, _⟩) rfl (by kernel_rfl) (by kernel_rfl) (by kernel_rfl) (fun _ _ _ h => h) (y24c' (by rfl) (.tmp 4) rfl w.heap.size 0 rfl R hR (fun u hu => range_below Xf.range hu Xf.lt)) (by assumption) ?_
      try simp only [Act.put, List.setIfInBounds_toArray, List.set_cons_zero, List.set_cons_succ]
      refine wpAnyH_ready (rs := [8]) (by kernel_rfl) (by simp) ?_
      refine AllReadyH.cons (o := ⟨_, _, _, _, _, _⟩) rfl (fun K hK => ?_) AllReadyH.nil
      go_simp
      refine (joined_any F o c _ hF hW.o32).mono ?_; rintro e ug ⟨rfl, hbg⟩; have Ug := (Below.refl uf.heap.size uf).drew.trans (hbg.mono (by simp))
      go_wp2_with fail
      refine hK.out _ _ Ug (fun hHeld => ?_)
      clear hK K
      try simp only [Act.put, List.setIfInBounds_toArray, List.set_cons_zero, List.set_cons_succ]
      refine wpAnyH_take (i := 10) (oi := ⟨_, _, _, _, _, _⟩) (v := ?_) rfl (by kernel_rfl) (by kernel_rfl) (by kernel_rfl) (fun _ _ _ h => h) (Or.inl ⟨by rfl, ?_⟩) (by assumption) ?_
      rotate_left
      · intro u hSw
        go_simp
        try (with_reducible rfl)
      try simp only [Act.put, List.setIfInBounds_toArray, List.set_cons_zero, List.set_cons_succ]
      refine wpAnyH_take (i := 11) (oi := ⟨_, _, _, _, _, _⟩) (v := ?_) rfl (by kernel_rfl) (by kernel_rfl) (by kernel_rfl) (fun _ _ _ h => h) (Or.inl ⟨by rfl, ?_⟩) (by assumption) ?_
      rotate_left
      · intro u hSw
        go_simp
        try (with_reducible rfl)
      try simp only [Act.put, List.setIfInBounds_toArray, List.set_cons_zero, List.set_cons_succ]
      refine wpAnyH_take (i := 12) (oi := ⟨_, _, _, _, _, _⟩) (v := ?_) rfl (by kernel_rfl) (by kernel_rfl) (by kernel_rfl) (fun _ _ _ h => h) (Or.inl ⟨by rfl, ?_⟩) (by assumption) ?_
      rotate_left
      · intro u hSw
        go_simp
        try (with_reducible rfl)
      try simp only [Act.put, List.setIfInBounds_toArray, List.set_cons_zero, List.set_cons_succ]
      refine wpAnyH_done (by kernel_rfl) ?_ _
      go_wp2_with fail
      go_ret
      exact ⟨congrArg (fun b => Ending.returned (Value.bool b)) hfin.out, Bf.trans (Ug.mono Bf.size)⟩
  · go_simp
    go_wp2_with fail
    have hb10 := alloc_bel' u0 (.cells (h8 Z32) 24)
    have B10 := B0.trans (hb10.mono B0.size)
    have X10 := X0.below hb10 X0.lt
    have Y10 := Y0.below hb10 Y0.lt
    have V10 := V0.below hb10 V0.lt
    have G10 := Arr.new u0 24 (h8 Z32)
    have hga10 : w.heap.size + 3 ≤ u0.heap.size := by have := V0.lt; omega
    have hsz10 : u0.heap.size ≤ (u0.alloc (.cells (h8 Z32) 24)).heap.size := by simp
    refine hK.out _ _ ⟨B10, X10, Y10, V10⟩ (fun hHeld => ?_)
    clear hK K
    try simp only [Act.put, List.setIfInBounds_toArray, List.set_cons_zero, List.set_cons_succ]
    rw [← h8_Z]
    obtain ⟨ga10, hgae10⟩ : ∃ g, g = u0.heap.size := ⟨_, rfl⟩
    rw [← hgae10] at G10 hga10 ⊢
    clear hgae10
    generalize u0.alloc (.cells (h8 Z32) 24) = u10 at *
    have hHeld : (fun u => Below w.heap.size w u ∧ Arr u w.heap.size 24 (h8 R) ∧ Arr u (w.heap.size + 1) 26 a.arr ∧ Arr u (w.heap.size + 2) 44 (wtA sp n cap o c)) u10 := ⟨B10, X10, Y10, V10⟩
    refine wpAnyH_ready (rs := [2]) (by kernel_rfl) (by simp) ?_
    refine AllReadyH.cons (o := ⟨_, _, _, _, _, _⟩) rfl (fun K hK => ?_) AllReadyH.nil
    go_simp
    refine (refAcBytes_any a _ ha).mono ?_; rintro e u11 ⟨v1, rfl, hown1, hb11⟩; have B11 := B10.trans (hb11.mono B10.size); have X11 := X10.below hb11 X10.lt; have Y11 := Y10.below hb11 Y10.lt; have V11 := V10.below hb11 V10.lt; obtain ⟨s1, k1, rfl, hS11, -⟩ := own_bs hown1 (acb_bts ha) (by omega); have hsz11 : u11.heap.size ≤ u11.heap.size := Nat.le_refl _
    have G11 := G10.below hb11 G10.lt
    obtain ⟨ga11, hgq⟩ : ∃ g, g = ga10 := ⟨_, rfl⟩
    rw [← hgq] at G11 ⊢
    have hga11 : w.heap.size + 3 ≤ ga11 := by omega
    clear hgq
    go_wp2_with fail
    refine hK.out _ _ ⟨B11, X11, Y11, V11⟩ (fun hHeld => ?_)
    clear hK K
    try simp only [Act.put, List.setIfInBounds_toArray, List.set_cons_zero, List.set_cons_succ]
    refine wpAnyH_ready (rs := [3]) (by kernel_rfl) (by simp) ?_
    refine AllReadyH.cons (o := ⟨_, _, _, _, _, _⟩) rfl (fun K hK => ?_) AllReadyH.nil
    go_simp
    refine (refLeaf_bs s1 48 k1 _ (acb a) _ hS11 (by omega)).mono ?_; rintro e u12 ⟨rfl, hb12⟩; have B12 := B11.trans (hb12.mono B11.size); have X12 := X11.below hb12 X11.lt; have Y12 := Y11.below hb12 Y11.lt; have V12 := V11.below hb12 V11.lt
    have G12 := G11.below hb12 G11.lt
    obtain ⟨ga12, hgq⟩ : ∃ g, g = ga11 := ⟨_, rfl⟩
    rw [← hgq] at G12 ⊢
    have hga12 : w.heap.size + 3 ≤ ga12 := by omega
    clear hgq
    go_wp2_with fail
    refine hK.out _ _ ⟨B12, X12, Y12, V12⟩ (fun hHeld => ?_)
    clear hK K
    try simp only [Act.put, List.setIfInBounds_toArray, List.set_cons_zero, List.set_cons_succ]
    refine wpAnyH_ready (rs := [6]) (by kernel_rfl) (by simp) ?_
    refine AllReadyH.cons (o := ⟨_, _, _, _, _, _⟩) rfl (fun K hK => ?_) AllReadyH.nil
    go_simp
    refine (hFo.out u12 B12).mono ?_; rintro e u13 ⟨rfl, hb13⟩; have B13 := B12.trans (hb13.mono B12.size); have X13 := X12.below hb13 X12.lt; have Y13 := Y12.below hb13 Y12.lt; have V13 := V12.below hb13 V12.lt
    have G13 := G12.below hb13 G12.lt
    obtain ⟨ga13, hgq⟩ : ∃ g, g = ga12 := ⟨_, rfl⟩
    rw [← hgq] at G13 ⊢
    have hga13 : w.heap.size + 3 ≤ ga13 := by omega
    clear hgq
    go_wp2_with fail
    refine hK.out _ _ ⟨B13, X13, Y13, V13⟩ (fun hHeld => ?_)
    clear hK K
    try simp only [Act.put, List.setIfInBounds_toArray, List.set_cons_zero, List.set_cons_succ]
    refine wpAnyH_take (i := 7) (oi := ⟨_, _, _, _, _, _⟩) (v := ?_) rfl (by kernel_rfl) (by kernel_rfl) (by kernel_rfl) (fun _ _ _ h => h) (Or.inl ⟨by rfl, ?_⟩) (by assumption) ?_
    rotate_left
    · intro u hSw
      go_simp
      try (with_reducible rfl)
    try simp only [Act.put, List.setIfInBounds_toArray, List.set_cons_zero, List.set_cons_succ]
    refine wpAnyH_take (i := 8) (oi := ⟨_, _, _, _, _, _⟩) (v := ?_) rfl (by kernel_rfl) (by kernel_rfl) (by kernel_rfl) (fun _ _ _ h => h) (Or.inl ⟨by rfl, ?_⟩) (by assumption) ?_
    rotate_left
    · intro u hSw
      go_simp
      try (with_reducible rfl)
    try simp only [Act.put, List.setIfInBounds_toArray, List.set_cons_zero, List.set_cons_succ]
    refine wpAnyH_take (i := 9) (oi := ⟨_, _, _, _, _, _⟩) (v := ?_) rfl (by kernel_rfl) (by kernel_rfl) (by kernel_rfl) (fun _ _ _ h => h) (Or.inl ⟨by rfl, ?_⟩) (by assumption) ?_
    rotate_left
    · intro u hSw
      go_simp
      try (with_reducible rfl)
    try simp only [Act.put, List.setIfInBounds_toArray, List.set_cons_zero, List.set_cons_succ]
    refine wpAnyH_ready (rs := [11]) (by kernel_rfl) (by simp) ?_
    refine AllReadyH.cons (o := ⟨_, _, _, _, _, _⟩) rfl (fun K hK => ?_) AllReadyH.nil
    refine step_want rfl (wp_store_row 24 (.tmp 9) (.tmp 28) rfl ga13 (h8 F) rfl rfl 24 _ G13 (s24h8 hF) (by rw [h8_size, h8_size, hF, Z32_len]) (h8_one _) ?_)
    have Bf : Below w.heap.size w (u13.setRow ga13 (h8 F)) := below_setRow B13 (by omega) _
    have Xf := X13.setRowOther (k := ga13) (h8 F) (by omega)
    have Yf := Y13.setRowOther (k := ga13) (h8 F) (by omega)
    have Vf := V13.setRowOther (k := ga13) (h8 F) (by omega)
    have Gf := G13.setRow (h8 F)
    generalize u13.setRow ga13 (h8 F) = uf at *
    refine hK.out _ _ ⟨Bf, Xf, Yf, Vf⟩ (fun hHeld => ?_)
    clear hK K
    try simp only [Act.put, List.setIfInBounds_toArray, List.set_cons_zero, List.set_cons_succ]
    refine wpAnyH_take (i := 12) (oi := ⟨_, _, _, _, _, _⟩) (v := ?_) rfl (by kernel_rfl) (by kernel_rfl) (by kernel_rfl) (fun _ _ _ h => h) (Or.inl ⟨by rfl, ?_⟩) (by assumption) ?_
    rotate_left
    · intro u hSw
      go_simp
      try (with_reducible rfl)
    try simp only [Act.put, List.setIfInBounds_toArray, List.set_cons_zero, List.set_cons_succ]
    refine wpAnyH_done (by kernel_rfl) ?_ _
    go_upto_region 4 with fail
    refine wp_region_held_drew (S := fun u => Below uf.heap.size uf u) (by kernel_rfl) ((Below.refl _ _).drew) (fun hHeld => ?_)
    refine wpAnyH_take (i := 0) (oi := ⟨_, _, _, _, _, _⟩) (v := ?_) rfl (by kernel_rfl) (by kernel_rfl) (by kernel_rfl) (fun _ _ _ h => h) (Or.inl ⟨by rfl, ?_⟩) (by assumption) ?_
    rotate_left
    · intro u hSw
      go_simp
      try (with_reducible rfl)
    try simp only [Act.put, List.setIfInBounds_toArray, List.set_cons_zero, List.set_cons_succ]
    refine wpAnyH_take (i := 1) (oi := ⟨_, _, _, _, _, _⟩) (v := ?_) rfl (by kernel_rfl) (by kernel_rfl) (by kernel_rfl) (fun _ _ _ h => h) (Or.inl ⟨by rfl, ?_⟩) (by assumption) ?_
    rotate_left
    · intro u hSw
      go_simp
      try (with_reducible rfl)
    try simp only [Act.put, List.setIfInBounds_toArray, List.set_cons_zero, List.set_cons_succ]
    refine wpAnyH_take (i := 2) (oi := ⟨_, _, _, _, _, _⟩) (v := ?_) rfl (by kernel_rfl) (by kernel_rfl) (by kernel_rfl) (fun _ _ _ h => h) (Or.inl ⟨by rfl, ?_⟩) (by assumption) ?_
    rotate_left
    · intro u hSw
      go_simp
      try (with_reducible rfl)
    try simp only [Act.put, List.setIfInBounds_toArray, List.set_cons_zero, List.set_cons_succ]
    refine wpAnyH_take (i := 3) (oi := ⟨_, _, _, _, _, _⟩) rfl (by kernel_rfl) (by kernel_rfl) (by kernel_rfl) (fun _ _ _ h => h) (y24c' (by rfl) (.tmp 9) rfl ga13 0 rfl F hF (fun u hu => range_below Gf.range hu Gf.lt)) (by assumption) ?_
    try simp only [Act.put, List.setIfInBounds_toArray, List.set_cons_zero, List.set_cons_succ]
    refine wpAnyH_take (i := 4) (oi := ⟨_, _, _, _, _, _⟩) (v := ?_) rfl (by kernel_rfl) (by kernel_rfl) (by kernel_rfl) (fun _ _ _ h => h) (Or.inl ⟨by rfl, ?_⟩) (by assumption) ?_
    rotate_left
    · intro u hSw
      go_simp
      try (with_reducible rfl)
    try simp only [Act.put, List.setIfInBounds_toArray, List.set_cons_zero, List.set_cons_succ]
    refine wpAnyH_take (i := 5) (oi := ⟨_, _, _, _, _, _⟩) rfl (by kernel_rfl) (by kernel_rfl) (by kernel_rfl) (fun _ _ _ h => h) (y24c' (by rfl) (.tmp 34) rfl (w.heap.size + 2) (0 + 1) rfl o hW.o32 (fun u hu => range_below (wt_o Vf.wt) hu Vf.lt)) (by assumption) ?_
    try simp only [Act.put, List.setIfInBounds_toArray, List.set_cons_zero, List.set_cons_succ]
    refine wpAnyH_take (i := 6) (oi := ⟨_, _, _, _, _, _⟩) (v := ?_) rfl (by kernel_rfl) (by kernel_rfl) (by kernel_rfl) (fun _ _ _ h => h) (Or.inl ⟨by rfl, ?_⟩) (by assumption) ?_
    rotate_left
    · intro u hSw
      go_simp
      try (with_reducible rfl)
    try simp only [Act.put, List.setIfInBounds_toArray, List.set_cons_zero, List.set_cons_succ]
    refine wpAnyH_take (i := 7) (oi := ⟨_, _, _, _, _, _⟩) (v := ?_) rfl (by kernel_rfl) (by kernel_rfl) (by kernel_rfl) (fun _ _ _ h => h) (Or.inl ⟨by rfl, ?_⟩) (by assumption) ?_
    rotate_left
    · intro u hSw
      have cc := (hSw.cell (p := ⟨w.heap.size + 2, 33, none⟩) Vf.lt).trans (wt_c' Vf.wt hW.o32)
      go_simp
      try (with_reducible rfl)
    try simp only [Act.put, List.setIfInBounds_toArray, List.set_cons_zero, List.set_cons_succ]
    refine wpAnyH_take (i := 9) (oi := ⟨_, _, _, _, _, _⟩) rfl (by kernel_rfl) (by kernel_rfl) (by kernel_rfl) (fun _ _ _ h => h) (y24c' (by rfl) (.tmp 4) rfl w.heap.size 0 rfl R hR (fun u hu => range_below Xf.range hu Xf.lt)) (by assumption) ?_
    try simp only [Act.put, List.setIfInBounds_toArray, List.set_cons_zero, List.set_cons_succ]
    refine wpAnyH_ready (rs := [8]) (by kernel_rfl) (by simp) ?_
    refine AllReadyH.cons (o := ⟨_, _, _, _, _, _⟩) rfl (fun K hK => ?_) AllReadyH.nil
    go_simp
    refine (joined_any F o c _ hF hW.o32).mono ?_; rintro e ug ⟨rfl, hbg⟩; have Ug := (Below.refl uf.heap.size uf).drew.trans (hbg.mono (by simp))
    go_wp2_with fail
    refine hK.out _ _ Ug (fun hHeld => ?_)
    clear hK K
    try simp only [Act.put, List.setIfInBounds_toArray, List.set_cons_zero, List.set_cons_succ]
    refine wpAnyH_take (i := 10) (oi := ⟨_, _, _, _, _, _⟩) (v := ?_) rfl (by kernel_rfl) (by kernel_rfl) (by kernel_rfl) (fun _ _ _ h => h) (Or.inl ⟨by rfl, ?_⟩) (by assumption) ?_
    rotate_left
    · intro u hSw
      go_simp
      try (with_reducible rfl)
    try simp only [Act.put, List.setIfInBounds_toArray, List.set_cons_zero, List.set_cons_succ]
    refine wpAnyH_take (i := 11) (oi := ⟨_, _, _, _, _, _⟩) (v := ?_) rfl (by kernel_rfl) (by kernel_rfl) (by kernel_rfl) (fun _ _ _ h => h) (Or.inl ⟨by rfl, ?_⟩) (by assumption) ?_
    rotate_left
    · intro u hSw
      go_simp
      try (with_reducible rfl)
    try simp only [Act.put, List.setIfInBounds_toArray, List.set_cons_zero, List.set_cons_succ]
    refine wpAnyH_take (i := 12) (oi := ⟨_, _, _, _, _, _⟩) (v := ?_) rfl (by kernel_rfl) (by kernel_rfl) (by kernel_rfl) (fun _ _ _ h => h) (Or.inl ⟨by rfl, ?_⟩) (by assumption) ?_
    rotate_left
    · intro u hSw
      go_simp
      try (with_reducible rfl)
    try simp only [Act.put, List.setIfInBounds_toArray, List.set_cons_zero, List.set_cons_succ]
    refine wpAnyH_done (by kernel_rfl) ?_ _
    go_wp2_with fail
    go_ret
    exact ⟨congrArg (fun b => Ending.returned (Value.bool b)) hfin.out, Bf.trans (Ug.mono Bf.size)⟩
set_option maxHeartbeats 4000000 in
theorem refCheck_far (R : List Int) (i : Int) (a : Ac) (N : Nat) (sp : Option Addr) (n cap : Nat) (ls : List (List Int)) (o : List Int) (c : Int) (w : World) (hR : R.length = 32) (ha : AcOK a) (hW : WT N w sp n cap ls o c) (h5 : n = 5) (h32 : c ≤ 32) (hno : ¬ (0 ≤ i ∧ i < 32)) :
    Calls Try.prog 24 #[.agg (h8 R), .int .i64 i, .agg a.arr, .agg (wtA sp n cap o c)] w fun e w' => e = .returned (.bool (false)) ∧ Below w.heap.size w w' := by
  have hW := hW.here
  have hl5 : ls.length = 5 := by rw [← hW.path.len.out]; exact h5
  have hFok : ¬ FoOK i ls.length := by rw [hl5]; rintro ⟨-, h0, h1⟩; exact hno ⟨h0, h1⟩
  obtain ⟨F, hFe⟩ : ∃ F, F = Z32 := ⟨_, rfl⟩
  have hF : F.length = 32 := by rw [hFe]; exact Z32_len
  have hFo := Hid.mk' (fun u (hu : Below w.heap.size w u) => by
    have h := refFold_any i (lf (acb a)) _ sp n cap ls u (lf_len _) (hW.path.below hu)
    unfold foR foE at h
    rw [if_neg hFok, if_neg hFok, ← hFe] at h
    exact h)
  clear hFe hFok hl5
  have h5' : ((n : Int) != 5) = false := by simp; omega
  have h5'' : (n : Int) = 5 := by omega
  have h32' : ¬ c > 32 := by omega
  have X0 := ((Arr.new w 24 (h8 R)).alloc (.cells a.arr 26)).alloc (.cells (wtA sp n cap o c) 44)
  have Y0 := (show Arr ((w.alloc (.cells (h8 R) 24)).alloc (.cells a.arr 26)) (w.heap.size + 1) 26 a.arr from (by simpa using Arr.new (w.alloc (.cells (h8 R) 24)) 26 a.arr)).alloc (.cells (wtA sp n cap o c) 44)
  have V0 := Arr.new3 w (.cells (h8 R) 24) (.cells a.arr 26) 44 (wtA sp n cap o c)
  have B0 := ((alloc_bel' w (.cells (h8 R) 24)).alloc (by simp) (.cells a.arr 26)).alloc (by simp; omega) (.cells (wtA sp n cap o c) 44)
  have k0 := wt_c0 V0.wt
  have k1 := wt_c' V0.wt hW.o32
  replace h5 := Hid.mk' h5
  go_enter Try.func24, Try.ntmps24
  go_upto_region 3 with fail
  clear k0 k1 h5'' h5'
  replace B0 := B0.drew
  replace X0 := X0.drew
  replace Y0 := Y0.drew
  replace V0 := V0.drew
  obtain ⟨u0, hu0⟩ : ∃ u : World, u = (((w.alloc (.cells (h8 R) 24)).alloc (.cells a.arr 26)).alloc (.cells (wtA sp n cap o c) 44)).drew := ⟨_, rfl⟩
  rw [← hu0] at B0 X0 Y0 V0
  refine wp_region_held_drew (S := fun u => Below w.heap.size w u ∧ Arr u w.heap.size 24 (h8 R) ∧ Arr u (w.heap.size + 1) 26 a.arr ∧ Arr u (w.heap.size + 2) 44 (wtA sp n cap o c)) (by kernel_rfl) (by rw [← hu0]; exact ⟨B0, X0, Y0, V0⟩) (fun hHeld => ?_)
  rw [← hu0]
  rw [← hu0] at hHeld
  clear hu0
  refine wpAnyH_take (i := 0) (oi := ⟨_, _, _, _, _, _⟩) (v := ?_) rfl (by kernel_rfl) (by kernel_rfl) (by kernel_rfl) (fun _ _ _ h => h) (Or.inl ⟨by rfl, ?_⟩) (by assumption) ?_
  rotate_left
  · intro u hSw
    go_simp
    try (with_reducible rfl)
  try simp only [Act.put, List.setIfInBounds_toArray, List.set_cons_zero, List.set_cons_succ]
  refine wpAnyH_take (i := 1) (oi := ⟨_, _, _, _, _, _⟩) rfl (by kernel_rfl) (by kernel_rfl) (by kernel_rfl) (fun _ _ _ h => h) (y26 (by rfl) (.tmp 6) rfl (w.heap.size + 1) 0 rfl a ha.l32 (fun u hu => hu.2.2.1.ac)) (by assumption) ?_
  try simp only [Act.put, List.setIfInBounds_toArray, List.set_cons_zero, List.set_cons_succ]
  refine wpAnyH_take (i := 4) (oi := ⟨_, _, _, _, _, _⟩) (v := ?_) rfl (by kernel_rfl) (by kernel_rfl) (by kernel_rfl) (fun _ _ _ h => h) (Or.inl ⟨by rfl, ?_⟩) (by assumption) ?_
  rotate_left
  · intro u hSw
    go_simp
    try (with_reducible rfl)
  try simp only [Act.put, List.setIfInBounds_toArray, List.set_cons_zero, List.set_cons_succ]
  refine wpAnyH_take (i := 5) (oi := ⟨_, _, _, _, _, _⟩) (v := ?_) rfl (by kernel_rfl) (by kernel_rfl) (by kernel_rfl) (fun _ _ _ h => h) (Or.inl ⟨by rfl, ?_⟩) (by assumption) ?_
  rotate_left
  · intro u hSw
    have cc := wt_c0 hSw.2.2.2.wt
    go_simp
    try (with_reducible rfl)
  try simp only [Act.put, List.setIfInBounds_toArray, List.set_cons_zero, List.set_cons_succ]

  refine wpAnyH_ready (rs := [2, 10]) (by kernel_rfl) (by simp) ?_
  refine AllReadyH.cons (o := ⟨_, _, _, _, _, _⟩) rfl (fun K hK => ?_) (AllReadyH.cons (o := ⟨_, _, _, _, _, _⟩) rfl (fun K hK => ?_) AllReadyH.nil)
  · go_simp
    refine (refAcBytes_any a _ ha).mono ?_; rintro e u1 ⟨v1, rfl, hown1, hb1⟩; have B1 := B0.trans (hb1.mono B0.size); have X1 := X0.below hb1 X0.lt; have Y1 := Y0.below hb1 Y0.lt; have V1 := V0.below hb1 V0.lt; obtain ⟨s1, k1, rfl, hS1, -⟩ := own_bs hown1 (acb_bts ha) (by omega); have hsz1 : u1.heap.size ≤ u1.heap.size := Nat.le_refl _
    go_wp2_with fail
    refine hK.out _ _ ⟨B1, X1, Y1, V1⟩ (fun hHeld => ?_)
    clear hK K
    try simp only [Act.put, List.setIfInBounds_toArray, List.set_cons_zero, List.set_cons_succ]
    refine wpAnyH_ready (rs := [3, 10]) (by kernel_rfl) (by simp) ?_
    refine AllReadyH.cons (o := ⟨_, _, _, _, _, _⟩) rfl (fun K hK => ?_) (AllReadyH.cons (o := ⟨_, _, _, _, _, _⟩) rfl (fun K hK => ?_) AllReadyH.nil)
    · go_simp
      refine (refLeaf_bs s1 48 k1 _ (acb a) _ hS1 (by omega)).mono ?_; rintro e u2 ⟨rfl, hb2⟩; have B2 := B1.trans (hb2.mono B1.size); have X2 := X1.below hb2 X1.lt; have Y2 := Y1.below hb2 Y1.lt; have V2 := V1.below hb2 V1.lt
      go_wp2_with fail
      refine hK.out _ _ ⟨B2, X2, Y2, V2⟩ (fun hHeld => ?_)
      clear hK K
      try simp only [Act.put, List.setIfInBounds_toArray, List.set_cons_zero, List.set_cons_succ]
      refine wpAnyH_ready (rs := [6, 10]) (by kernel_rfl) (by simp) ?_
      refine AllReadyH.cons (o := ⟨_, _, _, _, _, _⟩) rfl (fun K hK => ?_) (AllReadyH.cons (o := ⟨_, _, _, _, _, _⟩) rfl (fun K hK => ?_) AllReadyH.nil)
      · go_simp
        refine (hFo.out u2 B2).mono ?_; rintro e u3 ⟨rfl, hb3⟩; have B3 := B2.trans (hb3.mono B2.size); have X3 := X2.below hb3 X2.lt; have Y3 := Y2.below hb3 Y2.lt; have V3 := V2.below hb3 V2.lt
        go_wp2_with fail
        refine hK.out _ _ ⟨B3, X3, Y3, V3⟩ (fun hHeld => ?_)
        clear hK K
        try simp only [Act.put, List.setIfInBounds_toArray, List.set_cons_zero, List.set_cons_succ]
        refine wpAnyH_take (i := 7) (oi := ⟨_, _, _, _, _, _⟩) (v := ?_) rfl (by kernel_rfl) (by kernel_rfl) (by kernel_rfl) (fun _ _ _ h => h) (Or.inl ⟨by rfl, ?_⟩) (by assumption) ?_
        rotate_left
        · intro u hSw
          go_simp
          try (with_reducible rfl)
        try simp only [Act.put, List.setIfInBounds_toArray, List.set_cons_zero, List.set_cons_succ]
        refine wpAnyH_take (i := 8) (oi := ⟨_, _, _, _, _, _⟩) (v := ?_) rfl (by kernel_rfl) (by kernel_rfl) (by kernel_rfl) (fun _ _ _ h => h) (Or.inl ⟨by rfl, ?_⟩) (by assumption) ?_
        rotate_left
        · intro u hSw
          go_simp
          try (with_reducible rfl)
        try simp only [Act.put, List.setIfInBounds_toArray, List.set_cons_zero, List.set_cons_succ]
        refine wpAnyH_take (i := 9) (oi := ⟨_, _, _, _, _, _⟩) (v := ?_) rfl (by kernel_rfl) (by kernel_rfl) (by kernel_rfl) (fun _ _ _ h => h) (Or.inl ⟨by rfl, ?_⟩) (by assumption) ?_
        rotate_left
        · intro u hSw
          go_simp
          try (with_reducible rfl)
        try simp only [Act.put, List.setIfInBounds_toArray, List.set_cons_zero, List.set_cons_succ]
        refine wpAnyH_ready (rs := [10]) (by kernel_rfl) (by simp) ?_
        refine AllReadyH.cons (o := ⟨_, _, _, _, _, _⟩) rfl (fun K hK => ?_) AllReadyH.nil
        go_simp
        go_wp2_with fail
        have hb4 := alloc_bel' u3 (.cells (h8 Z32) 24)
        have B4 := B3.trans (hb4.mono B3.size)
        have X4 := X3.below hb4 X3.lt
        have Y4 := Y3.below hb4 Y3.lt
        have V4 := V3.below hb4 V3.lt
        have G4 := Arr.new u3 24 (h8 Z32)
        have hga4 : w.heap.size + 3 ≤ u3.heap.size := by have := V3.lt; omega
        have hsz4 : u3.heap.size ≤ (u3.alloc (.cells (h8 Z32) 24)).heap.size := by simp
        refine hK.out _ _ ⟨B4, X4, Y4, V4⟩ (fun hHeld => ?_)
        clear hK K
        try simp only [Act.put, List.setIfInBounds_toArray, List.set_cons_zero, List.set_cons_succ]
        rw [← h8_Z]
        obtain ⟨ga4, hgae4⟩ : ∃ g, g = u3.heap.size := ⟨_, rfl⟩
        rw [← hgae4] at G4 hga4 ⊢
        clear hgae4
        generalize u3.alloc (.cells (h8 Z32) 24) = u4 at *
        have hHeld : (fun u => Below w.heap.size w u ∧ Arr u w.heap.size 24 (h8 R) ∧ Arr u (w.heap.size + 1) 26 a.arr ∧ Arr u (w.heap.size + 2) 44 (wtA sp n cap o c)) u4 := ⟨B4, X4, Y4, V4⟩
        refine wpAnyH_ready (rs := [11]) (by kernel_rfl) (by simp) ?_
        refine AllReadyH.cons (o := ⟨_, _, _, _, _, _⟩) rfl (fun K hK => ?_) AllReadyH.nil
        refine step_want rfl (wp_store_row 24 (.tmp 9) (.tmp 28) rfl ga4 (h8 F) rfl rfl 24 _ G4 (s24h8 hF) (by rw [h8_size, h8_size, hF, Z32_len]) (h8_one _) ?_)
        have Bf : Below w.heap.size w (u4.setRow ga4 (h8 F)) := below_setRow B4 (by omega) _
        have Xf := X4.setRowOther (k := ga4) (h8 F) (by omega)
        have Yf := Y4.setRowOther (k := ga4) (h8 F) (by omega)
        have Vf := V4.setRowOther (k := ga4) (h8 F) (by omega)
        have Gf := G4.setRow (h8 F)
        generalize u4.setRow ga4 (h8 F) = uf at *
        refine hK.out _ _ ⟨Bf, Xf, Yf, Vf⟩ (fun hHeld => ?_)
        clear hK K
        try simp only [Act.put, List.setIfInBounds_toArray, List.set_cons_zero, List.set_cons_succ]
        refine wpAnyH_take (i := 12) (oi := ⟨_, _, _, _, _, _⟩) (v := ?_) rfl (by kernel_rfl) (by kernel_rfl) (by kernel_rfl) (fun _ _ _ h => h) (Or.inl ⟨by rfl, ?_⟩) (by assumption) ?_
        rotate_left
        · intro u hSw
          go_simp
          try (with_reducible rfl)
        try simp only [Act.put, List.setIfInBounds_toArray, List.set_cons_zero, List.set_cons_succ]
        refine wpAnyH_done (by kernel_rfl) ?_ _
        go_upto_region 4 with fail
        refine wp_region_held_drew (S := fun u => Below uf.heap.size uf u) (by kernel_rfl) ((Below.refl _ _).drew) (fun hHeld => ?_)
        refine wpAnyH_take (i := 0) (oi := ⟨_, _, _, _, _, _⟩) (v := ?_) rfl (by kernel_rfl) (by kernel_rfl) (by kernel_rfl) (fun _ _ _ h => h) (Or.inl ⟨by rfl, ?_⟩) (by assumption) ?_
        rotate_left
        · intro u hSw
          go_simp
          try (with_reducible rfl)
        try simp only [Act.put, List.setIfInBounds_toArray, List.set_cons_zero, List.set_cons_succ]
        refine wpAnyH_take (i := 1) (oi := ⟨_, _, _, _, _, _⟩) (v := ?_) rfl (by kernel_rfl) (by kernel_rfl) (by kernel_rfl) (fun _ _ _ h => h) (Or.inl ⟨by rfl, ?_⟩) (by assumption) ?_
        rotate_left
        · intro u hSw
          go_simp
          try (with_reducible rfl)
        try simp only [Act.put, List.setIfInBounds_toArray, List.set_cons_zero, List.set_cons_succ]
        refine wpAnyH_take (i := 2) (oi := ⟨_, _, _, _, _, _⟩) (v := ?_) rfl (by kernel_rfl) (by kernel_rfl) (by kernel_rfl) (fun _ _ _ h => h) (Or.inl ⟨by rfl, ?_⟩) (by assumption) ?_
        rotate_left
        · intro u hSw
          go_simp
          try (with_reducible rfl)
        try simp only [Act.put, List.setIfInBounds_toArray, List.set_cons_zero, List.set_cons_succ]
        refine wpAnyH_take (i := 3) (oi := ⟨_, _, _, _, _, _⟩) (v := undef) rfl (by kernel_rfl) (by kernel_rfl) (by kernel_rfl) (fun _ _ _ h => h) (Or.inr ⟨by rfl, rfl⟩) (by assumption) ?_
        try simp only [Act.put, List.setIfInBounds_toArray, List.set_cons_zero, List.set_cons_succ]
        refine wpAnyH_take (i := 4) (oi := ⟨_, _, _, _, _, _⟩) (v := undef) rfl (by kernel_rfl) (by kernel_rfl) (by kernel_rfl) (fun _ _ _ h => h) (Or.inr ⟨by rfl, rfl⟩) (by assumption) ?_
        try simp only [Act.put, List.setIfInBounds_toArray, List.set_cons_zero, List.set_cons_succ]
        refine wpAnyH_take (i := 5) (oi := ⟨_, _, _, _, _, _⟩) (v := undef) rfl (by kernel_rfl) (by kernel_rfl) (by kernel_rfl) (fun _ _ _ h => h) (Or.inr ⟨by rfl, rfl⟩) (by assumption) ?_
        try simp only [Act.put, List.setIfInBounds_toArray, List.set_cons_zero, List.set_cons_succ]
        refine wpAnyH_take (i := 6) (oi := ⟨_, _, _, _, _, _⟩) (v := undef) rfl (by kernel_rfl) (by kernel_rfl) (by kernel_rfl) (fun _ _ _ h => h) (Or.inr ⟨by rfl, rfl⟩) (by assumption) ?_
        try simp only [Act.put, List.setIfInBounds_toArray, List.set_cons_zero, List.set_cons_succ]
        refine wpAnyH_take (i := 7) (oi := ⟨_, _, _, _, _, _⟩) (v := undef) rfl (by kernel_rfl) (by kernel_rfl) (by kernel_rfl) (fun _ _ _ h => h) (Or.inr ⟨by rfl, rfl⟩) (by assumption) ?_
        try simp only [Act.put, List.setIfInBounds_toArray, List.set_cons_zero, List.set_cons_succ]
        refine wpAnyH_take (i := 8) (oi := ⟨_, _, _, _, _, _⟩) (v := undef) rfl (by kernel_rfl) (by kernel_rfl) (by kernel_rfl) (fun _ _ _ h => h) (Or.inr ⟨by rfl, rfl⟩) (by assumption) ?_
        try simp only [Act.put, List.setIfInBounds_toArray, List.set_cons_zero, List.set_cons_succ]
        refine wpAnyH_take (i := 9) (oi := ⟨_, _, _, _, _, _⟩) (v := undef) rfl (by kernel_rfl) (by kernel_rfl) (by kernel_rfl) (fun _ _ _ h => h) (Or.inr ⟨by rfl, rfl⟩) (by assumption) ?_
        try simp only [Act.put, List.setIfInBounds_toArray, List.set_cons_zero, List.set_cons_succ]
        refine wpAnyH_take (i := 10) (oi := ⟨_, _, _, _, _, _⟩) (v := undef) rfl (by kernel_rfl) (by kernel_rfl) (by kernel_rfl) (fun _ _ _ h => h) (Or.inr ⟨by rfl, rfl⟩) (by assumption) ?_
        try simp only [Act.put, List.setIfInBounds_toArray, List.set_cons_zero, List.set_cons_succ]
        refine wpAnyH_take (i := 11) (oi := ⟨_, _, _, _, _, _⟩) (v := ?_) rfl (by kernel_rfl) (by kernel_rfl) (by kernel_rfl) (fun _ _ _ h => h) (Or.inl ⟨by rfl, ?_⟩) (by assumption) ?_
        rotate_left
        · intro u hSw
          go_simp
          try (with_reducible rfl)
        try simp only [Act.put, List.setIfInBounds_toArray, List.set_cons_zero, List.set_cons_succ]
        refine wpAnyH_take (i := 12) (oi := ⟨_, _, _, _, _, _⟩) (v := ?_) rfl (by kernel_rfl) (by kernel_rfl) (by kernel_rfl) (fun _ _ _ h => h) (Or.inl ⟨by rfl, ?_⟩) (by assumption) ?_
        rotate_left
        · intro u hSw
          go_simp
          try (with_reducible rfl)
        try simp only [Act.put, List.setIfInBounds_toArray, List.set_cons_zero, List.set_cons_succ]
        refine wpAnyH_done (by kernel_rfl) ?_ _
        go_wp2_with fail
        go_ret
        exact ⟨rfl, Bf.trans ((Below.refl uf.heap.size uf).drew.mono Bf.size)⟩
      · go_simp
        go_wp2_with fail
        have hb5 := alloc_bel' u2 (.cells (h8 Z32) 24)
        have B5 := B2.trans (hb5.mono B2.size)
        have X5 := X2.below hb5 X2.lt
        have Y5 := Y2.below hb5 Y2.lt
        have V5 := V2.below hb5 V2.lt
        have G5 := Arr.new u2 24 (h8 Z32)
        have hga5 : w.heap.size + 3 ≤ u2.heap.size := by have := V2.lt; omega
        have hsz5 : u2.heap.size ≤ (u2.alloc (.cells (h8 Z32) 24)).heap.size := by simp
        refine hK.out _ _ ⟨B5, X5, Y5, V5⟩ (fun hHeld => ?_)
        clear hK K
        try simp only [Act.put, List.setIfInBounds_toArray, List.set_cons_zero, List.set_cons_succ]
        rw [← h8_Z]
        obtain ⟨ga5, hgae5⟩ : ∃ g, g = u2.heap.size := ⟨_, rfl⟩
        rw [← hgae5] at G5 hga5 ⊢
        clear hgae5
        generalize u2.alloc (.cells (h8 Z32) 24) = u5 at *
        have hHeld : (fun u => Below w.heap.size w u ∧ Arr u w.heap.size 24 (h8 R) ∧ Arr u (w.heap.size + 1) 26 a.arr ∧ Arr u (w.heap.size + 2) 44 (wtA sp n cap o c)) u5 := ⟨B5, X5, Y5, V5⟩
        refine wpAnyH_ready (rs := [6]) (by kernel_rfl) (by simp) ?_
        refine AllReadyH.cons (o := ⟨_, _, _, _, _, _⟩) rfl (fun K hK => ?_) AllReadyH.nil
        go_simp
        refine (hFo.out u5 B5).mono ?_; rintro e u6 ⟨rfl, hb6⟩; have B6 := B5.trans (hb6.mono B5.size); have X6 := X5.below hb6 X5.lt; have Y6 := Y5.below hb6 Y5.lt; have V6 := V5.below hb6 V5.lt
        have G6 := G5.below hb6 G5.lt
        obtain ⟨ga6, hgq⟩ : ∃ g, g = ga5 := ⟨_, rfl⟩
        rw [← hgq] at G6 ⊢
        have hga6 : w.heap.size + 3 ≤ ga6 := by omega
        clear hgq
        go_wp2_with fail
        refine hK.out _ _ ⟨B6, X6, Y6, V6⟩ (fun hHeld => ?_)
        clear hK K
        try simp only [Act.put, List.setIfInBounds_toArray, List.set_cons_zero, List.set_cons_succ]
        refine wpAnyH_take (i := 7) (oi := ⟨_, _, _, _, _, _⟩) (v := ?_) rfl (by kernel_rfl) (by kernel_rfl) (by kernel_rfl) (fun _ _ _ h => h) (Or.inl ⟨by rfl, ?_⟩) (by assumption) ?_
        rotate_left
        · intro u hSw
          go_simp
          try (with_reducible rfl)
        try simp only [Act.put, List.setIfInBounds_toArray, List.set_cons_zero, List.set_cons_succ]
        refine wpAnyH_take (i := 8) (oi := ⟨_, _, _, _, _, _⟩) (v := ?_) rfl (by kernel_rfl) (by kernel_rfl) (by kernel_rfl) (fun _ _ _ h => h) (Or.inl ⟨by rfl, ?_⟩) (by assumption) ?_
        rotate_left
        · intro u hSw
          go_simp
          try (with_reducible rfl)
        try simp only [Act.put, List.setIfInBounds_toArray, List.set_cons_zero, List.set_cons_succ]
        refine wpAnyH_take (i := 9) (oi := ⟨_, _, _, _, _, _⟩) (v := ?_) rfl (by kernel_rfl) (by kernel_rfl) (by kernel_rfl) (fun _ _ _ h => h) (Or.inl ⟨by rfl, ?_⟩) (by assumption) ?_
        rotate_left
        · intro u hSw
          go_simp
          try (with_reducible rfl)
        try simp only [Act.put, List.setIfInBounds_toArray, List.set_cons_zero, List.set_cons_succ]
        refine wpAnyH_ready (rs := [11]) (by kernel_rfl) (by simp) ?_
        refine AllReadyH.cons (o := ⟨_, _, _, _, _, _⟩) rfl (fun K hK => ?_) AllReadyH.nil
        refine step_want rfl (wp_store_row 24 (.tmp 9) (.tmp 28) rfl ga6 (h8 F) rfl rfl 24 _ G6 (s24h8 hF) (by rw [h8_size, h8_size, hF, Z32_len]) (h8_one _) ?_)
        have Bf : Below w.heap.size w (u6.setRow ga6 (h8 F)) := below_setRow B6 (by omega) _
        have Xf := X6.setRowOther (k := ga6) (h8 F) (by omega)
        have Yf := Y6.setRowOther (k := ga6) (h8 F) (by omega)
        have Vf := V6.setRowOther (k := ga6) (h8 F) (by omega)
        have Gf := G6.setRow (h8 F)
        generalize u6.setRow ga6 (h8 F) = uf at *
        refine hK.out _ _ ⟨Bf, Xf, Yf, Vf⟩ (fun hHeld => ?_)
        clear hK K
        try simp only [Act.put, List.setIfInBounds_toArray, List.set_cons_zero, List.set_cons_succ]
        refine wpAnyH_take (i := 12) (oi := ⟨_, _, _, _, _, _⟩) (v := ?_) rfl (by kernel_rfl) (by kernel_rfl) (by kernel_rfl) (fun _ _ _ h => h) (Or.inl ⟨by rfl, ?_⟩) (by assumption) ?_
        rotate_left
        · intro u hSw
          go_simp
          try (with_reducible rfl)
        try simp only [Act.put, List.setIfInBounds_toArray, List.set_cons_zero, List.set_cons_succ]
        refine wpAnyH_done (by kernel_rfl) ?_ _
        go_upto_region 4 with fail
        refine wp_region_held_drew (S := fun u => Below uf.heap.size uf u) (by kernel_rfl) ((Below.refl _ _).drew) (fun hHeld => ?_)
        refine wpAnyH_take (i := 0) (oi := ⟨_, _, _, _, _, _⟩) (v := ?_) rfl (by kernel_rfl) (by kernel_rfl) (by kernel_rfl) (fun _ _ _ h => h) (Or.inl ⟨by rfl, ?_⟩) (by assumption) ?_
        rotate_left
        · intro u hSw
          go_simp
          try (with_reducible rfl)
        try simp only [Act.put, List.setIfInBounds_toArray, List.set_cons_zero, List.set_cons_succ]
        refine wpAnyH_take (i := 1) (oi := ⟨_, _, _, _, _, _⟩) (v := ?_) rfl (by kernel_rfl) (by kernel_rfl) (by kernel_rfl) (fun _ _ _ h => h) (Or.inl ⟨by rfl, ?_⟩) (by assumption) ?_
        rotate_left
        · intro u hSw
          go_simp
          try (with_reducible rfl)
        try simp only [Act.put, List.setIfInBounds_toArray, List.set_cons_zero, List.set_cons_succ]
        refine wpAnyH_take (i := 2) (oi := ⟨_, _, _, _, _, _⟩) (v := ?_) rfl (by kernel_rfl) (by kernel_rfl) (by kernel_rfl) (fun _ _ _ h => h) (Or.inl ⟨by rfl, ?_⟩) (by assumption) ?_
        rotate_left
        · intro u hSw
          go_simp
          try (with_reducible rfl)
        try simp only [Act.put, List.setIfInBounds_toArray, List.set_cons_zero, List.set_cons_succ]
        refine wpAnyH_take (i := 3) (oi := ⟨_, _, _, _, _, _⟩) (v := undef) rfl (by kernel_rfl) (by kernel_rfl) (by kernel_rfl) (fun _ _ _ h => h) (Or.inr ⟨by rfl, rfl⟩) (by assumption) ?_
        try simp only [Act.put, List.setIfInBounds_toArray, List.set_cons_zero, List.set_cons_succ]
        refine wpAnyH_take (i := 4) (oi := ⟨_, _, _, _, _, _⟩) (v := undef) rfl (by kernel_rfl) (by kernel_rfl) (by kernel_rfl) (fun _ _ _ h => h) (Or.inr ⟨by rfl, rfl⟩) (by assumption) ?_
        try simp only [Act.put, List.setIfInBounds_toArray, List.set_cons_zero, List.set_cons_succ]
        refine wpAnyH_take (i := 5) (oi := ⟨_, _, _, _, _, _⟩) (v := undef) rfl (by kernel_rfl) (by kernel_rfl) (by kernel_rfl) (fun _ _ _ h => h) (Or.inr ⟨by rfl, rfl⟩) (by assumption) ?_
        try simp only [Act.put, List.setIfInBounds_toArray, List.set_cons_zero, List.set_cons_succ]
        refine wpAnyH_take (i := 6) (oi := ⟨_, _, _, _, _, _⟩) (v := undef) rfl (by kernel_rfl) (by kernel_rfl) (by kernel_rfl) (fun _ _ _ h => h) (Or.inr ⟨by rfl, rfl⟩) (by assumption) ?_
        try simp only [Act.put, List.setIfInBounds_toArray, List.set_cons_zero, List.set_cons_succ]
        refine wpAnyH_take (i := 7) (oi := ⟨_, _, _, _, _, _⟩) (v := undef) rfl (by kernel_rfl) (by kernel_rfl) (by kernel_rfl) (fun _ _ _ h => h) (Or.inr ⟨by rfl, rfl⟩) (by assumption) ?_
        try simp only [Act.put, List.setIfInBounds_toArray, List.set_cons_zero, List.set_cons_succ]
        refine wpAnyH_take (i := 8) (oi := ⟨_, _, _, _, _, _⟩) (v := undef) rfl (by kernel_rfl) (by kernel_rfl) (by kernel_rfl) (fun _ _ _ h => h) (Or.inr ⟨by rfl, rfl⟩) (by assumption) ?_
        try simp only [Act.put, List.setIfInBounds_toArray, List.set_cons_zero, List.set_cons_succ]
        refine wpAnyH_take (i := 9) (oi := ⟨_, _, _, _, _, _⟩) (v := undef) rfl (by kernel_rfl) (by kernel_rfl) (by kernel_rfl) (fun _ _ _ h => h) (Or.inr ⟨by rfl, rfl⟩) (by assumption) ?_
        try simp only [Act.put, List.setIfInBounds_toArray, List.set_cons_zero, List.set_cons_succ]
        refine wpAnyH_take (i := 10) (oi := ⟨_, _, _, _, _, _⟩) (v := undef) rfl (by kernel_rfl) (by kernel_rfl) (by kernel_rfl) (fun _ _ _ h => h) (Or.inr ⟨by rfl, rfl⟩) (by assumption) ?_
        try simp only [Act.put, List.setIfInBounds_toArray, List.set_cons_zero, List.set_cons_succ]
        refine wpAnyH_take (i := 11) (oi := ⟨_, _, _, _, _, _⟩) (v := ?_) rfl (by kernel_rfl) (by kernel_rfl) (by kernel_rfl) (fun _ _ _ h => h) (Or.inl ⟨by rfl, ?_⟩) (by assumption) ?_
        rotate_left
        · intro u hSw
          go_simp
          try (with_reducible rfl)
        try simp only [Act.put, List.setIfInBounds_toArray, List.set_cons_zero, List.set_cons_succ]
        refine wpAnyH_take (i := 12) (oi := ⟨_, _, _, _, _, _⟩) (v := ?_) rfl (by kernel_rfl) (by kernel_rfl) (by kernel_rfl) (fun _ _ _ h => h) (Or.inl ⟨by rfl, ?_⟩) (by assumption) ?_
        rotate_left
        · intro u hSw
          go_simp
          try (with_reducible rfl)
        try simp only [Act.put, List.setIfInBounds_toArray, List.set_cons_zero, List.set_cons_succ]
        refine wpAnyH_done (by kernel_rfl) ?_ _
        go_wp2_with fail
        go_ret
        exact ⟨rfl, Bf.trans ((Below.refl uf.heap.size uf).drew.mono Bf.size)⟩
    · go_simp
      go_wp2_with fail
      have hb7 := alloc_bel' u1 (.cells (h8 Z32) 24)
      have B7 := B1.trans (hb7.mono B1.size)
      have X7 := X1.below hb7 X1.lt
      have Y7 := Y1.below hb7 Y1.lt
      have V7 := V1.below hb7 V1.lt
      have G7 := Arr.new u1 24 (h8 Z32)
      have hS7 := hS1.below (hb7.mono hsz1)
      have hga7 : w.heap.size + 3 ≤ u1.heap.size := by have := V1.lt; omega
      have hsz7 : u1.heap.size ≤ (u1.alloc (.cells (h8 Z32) 24)).heap.size := by simp
      refine hK.out _ _ ⟨B7, X7, Y7, V7⟩ (fun hHeld => ?_)
      clear hK K
      try simp only [Act.put, List.setIfInBounds_toArray, List.set_cons_zero, List.set_cons_succ]
      rw [← h8_Z]
      obtain ⟨ga7, hgae7⟩ : ∃ g, g = u1.heap.size := ⟨_, rfl⟩
      rw [← hgae7] at G7 hga7 ⊢
      clear hgae7
      generalize u1.alloc (.cells (h8 Z32) 24) = u7 at *
      have hHeld : (fun u => Below w.heap.size w u ∧ Arr u w.heap.size 24 (h8 R) ∧ Arr u (w.heap.size + 1) 26 a.arr ∧ Arr u (w.heap.size + 2) 44 (wtA sp n cap o c)) u7 := ⟨B7, X7, Y7, V7⟩
      refine wpAnyH_ready (rs := [3]) (by kernel_rfl) (by simp) ?_
      refine AllReadyH.cons (o := ⟨_, _, _, _, _, _⟩) rfl (fun K hK => ?_) AllReadyH.nil
      go_simp
      refine (refLeaf_bs s1 48 k1 _ (acb a) _ hS7 (by omega)).mono ?_; rintro e u8 ⟨rfl, hb8⟩; have B8 := B7.trans (hb8.mono B7.size); have X8 := X7.below hb8 X7.lt; have Y8 := Y7.below hb8 Y7.lt; have V8 := V7.below hb8 V7.lt
      have G8 := G7.below hb8 G7.lt
      obtain ⟨ga8, hgq⟩ : ∃ g, g = ga7 := ⟨_, rfl⟩
      rw [← hgq] at G8 ⊢
      have hga8 : w.heap.size + 3 ≤ ga8 := by omega
      clear hgq
      go_wp2_with fail
      refine hK.out _ _ ⟨B8, X8, Y8, V8⟩ (fun hHeld => ?_)
      clear hK K
      try simp only [Act.put, List.setIfInBounds_toArray, List.set_cons_zero, List.set_cons_succ]
      refine wpAnyH_ready (rs := [6]) (by kernel_rfl) (by simp) ?_
      refine AllReadyH.cons (o := ⟨_, _, _, _, _, _⟩) rfl (fun K hK => ?_) AllReadyH.nil
      go_simp
      refine (hFo.out u8 B8).mono ?_; rintro e u9 ⟨rfl, hb9⟩; have B9 := B8.trans (hb9.mono B8.size); have X9 := X8.below hb9 X8.lt; have Y9 := Y8.below hb9 Y8.lt; have V9 := V8.below hb9 V8.lt
      have G9 := G8.below hb9 G8.lt
      obtain ⟨ga9, hgq⟩ : ∃ g, g = ga8 := ⟨_, rfl⟩
      rw [← hgq] at G9 ⊢
      have hga9 : w.heap.size + 3 ≤ ga9 := by omega
      clear hgq
      go_wp2_with fail
      refine hK.out _ _ ⟨B9, X9, Y9, V9⟩ (fun hHeld => ?_)
      clear hK K
      try simp only [Act.put, List.setIfInBounds_toArray, List.set_cons_zero, List.set_cons_succ]
      refine wpAnyH_take (i := 7) (oi := ⟨_, _, _, _, _, _⟩) (v := ?_) rfl (by kernel_rfl) (by kernel_rfl) (by kernel_rfl) (fun _ _ _ h => h) (Or.inl ⟨by rfl, ?_⟩) (by assumption) ?_
      rotate_left
      · intro u hSw
        go_simp
        try (with_reducible rfl)
      try simp only [Act.put, List.setIfInBounds_toArray, List.set_cons_zero, List.set_cons_succ]
      refine wpAnyH_take (i := 8) (oi := ⟨_, _, _, _, _, _⟩) (v := ?_) rfl (by kernel_rfl) (by kernel_rfl) (by kernel_rfl) (fun _ _ _ h => h) (Or.inl ⟨by rfl, ?_⟩) (by assumption) ?_
      rotate_left
      · intro u hSw
        go_simp
        try (with_reducible rfl)
      try simp only [Act.put, List.setIfInBounds_toArray, List.set_cons_zero, List.set_cons_succ]
      refine wpAnyH_take (i := 9) (oi := ⟨_, _, _, _, _, _⟩) (v := ?_) rfl (by kernel_rfl) (by kernel_rfl) (by kernel_rfl) (fun _ _ _ h => h) (Or.inl ⟨by rfl, ?_⟩) (by assumption) ?_
      rotate_left
      · intro u hSw
        go_simp
        try (with_reducible rfl)
      try simp only [Act.put, List.setIfInBounds_toArray, List.set_cons_zero, List.set_cons_succ]
      refine wpAnyH_ready (rs := [11]) (by kernel_rfl) (by simp) ?_
      refine AllReadyH.cons (o := ⟨_, _, _, _, _, _⟩) rfl (fun K hK => ?_) AllReadyH.nil
      refine step_want rfl (wp_store_row 24 (.tmp 9) (.tmp 28) rfl ga9 (h8 F) rfl rfl 24 _ G9 (s24h8 hF) (by rw [h8_size, h8_size, hF, Z32_len]) (h8_one _) ?_)
      have Bf : Below w.heap.size w (u9.setRow ga9 (h8 F)) := below_setRow B9 (by omega) _
      have Xf := X9.setRowOther (k := ga9) (h8 F) (by omega)
      have Yf := Y9.setRowOther (k := ga9) (h8 F) (by omega)
      have Vf := V9.setRowOther (k := ga9) (h8 F) (by omega)
      have Gf := G9.setRow (h8 F)
      generalize u9.setRow ga9 (h8 F) = uf at *
      refine hK.out _ _ ⟨Bf, Xf, Yf, Vf⟩ (fun hHeld => ?_)
      clear hK K
      try simp only [Act.put, List.setIfInBounds_toArray, List.set_cons_zero, List.set_cons_succ]
      refine wpAnyH_take (i := 12) (oi := ⟨_, _, _, _, _, _⟩) (v := ?_) rfl (by kernel_rfl) (by kernel_rfl) (by kernel_rfl) (fun _ _ _ h => h) (Or.inl ⟨by rfl, ?_⟩) (by assumption) ?_
      rotate_left
      · intro u hSw
        go_simp
        try (with_reducible rfl)
      try simp only [Act.put, List.setIfInBounds_toArray, List.set_cons_zero, List.set_cons_succ]
      refine wpAnyH_done (by kernel_rfl) ?_ _
      go_upto_region 4 with fail
      refine wp_region_held_drew (S := fun u => Below uf.heap.size uf u) (by kernel_rfl) ((Below.refl _ _).drew) (fun hHeld => ?_)
      refine wpAnyH_take (i := 0) (oi := ⟨_, _, _, _, _, _⟩) (v := ?_) rfl (by kernel_rfl) (by kernel_rfl) (by kernel_rfl) (fun _ _ _ h => h) (Or.inl ⟨by rfl, ?_⟩) (by assumption) ?_
      rotate_left
      · intro u hSw
        go_simp
        try (with_reducible rfl)
      try simp only [Act.put, List.setIfInBounds_toArray, List.set_cons_zero, List.set_cons_succ]
      refine wpAnyH_take (i := 1) (oi := ⟨_, _, _, _, _, _⟩) (v := ?_) rfl (by kernel_rfl) (by kernel_rfl) (by kernel_rfl) (fun _ _ _ h => h) (Or.inl ⟨by rfl, ?_⟩) (by assumption) ?_
      rotate_left
      · intro u hSw
        go_simp
        try (with_reducible rfl)
      try simp only [Act.put, List.setIfInBounds_toArray, List.set_cons_zero, List.set_cons_succ]
      refine wpAnyH_take (i := 2) (oi := ⟨_, _, _, _, _, _⟩) (v := ?_) rfl (by kernel_rfl) (by kernel_rfl) (by kernel_rfl) (fun _ _ _ h => h) (Or.inl ⟨by rfl, ?_⟩) (by assumption) ?_
      rotate_left
      · intro u hSw
        go_simp
        try (with_reducible rfl)
      try simp only [Act.put, List.setIfInBounds_toArray, List.set_cons_zero, List.set_cons_succ]
      refine wpAnyH_take (i := 3) (oi := ⟨_, _, _, _, _, _⟩) (v := undef) rfl (by kernel_rfl) (by kernel_rfl) (by kernel_rfl) (fun _ _ _ h => h) (Or.inr ⟨by rfl, rfl⟩) (by assumption) ?_
      try simp only [Act.put, List.setIfInBounds_toArray, List.set_cons_zero, List.set_cons_succ]
      refine wpAnyH_take (i := 4) (oi := ⟨_, _, _, _, _, _⟩) (v := undef) rfl (by kernel_rfl) (by kernel_rfl) (by kernel_rfl) (fun _ _ _ h => h) (Or.inr ⟨by rfl, rfl⟩) (by assumption) ?_
      try simp only [Act.put, List.setIfInBounds_toArray, List.set_cons_zero, List.set_cons_succ]
      refine wpAnyH_take (i := 5) (oi := ⟨_, _, _, _, _, _⟩) (v := undef) rfl (by kernel_rfl) (by kernel_rfl) (by kernel_rfl) (fun _ _ _ h => h) (Or.inr ⟨by rfl, rfl⟩) (by assumption) ?_
      try simp only [Act.put, List.setIfInBounds_toArray, List.set_cons_zero, List.set_cons_succ]
      refine wpAnyH_take (i := 6) (oi := ⟨_, _, _, _, _, _⟩) (v := undef) rfl (by kernel_rfl) (by kernel_rfl) (by kernel_rfl) (fun _ _ _ h => h) (Or.inr ⟨by rfl, rfl⟩) (by assumption) ?_
      try simp only [Act.put, List.setIfInBounds_toArray, List.set_cons_zero, List.set_cons_succ]
      refine wpAnyH_take (i := 7) (oi := ⟨_, _, _, _, _, _⟩) (v := undef) rfl (by kernel_rfl) (by kernel_rfl) (by kernel_rfl) (fun _ _ _ h => h) (Or.inr ⟨by rfl, rfl⟩) (by assumption) ?_
      try simp only [Act.put, List.setIfInBounds_toArray, List.set_cons_zero, List.set_cons_succ]
      refine wpAnyH_take (i := 8) (oi := ⟨_, _, _, _, _, _⟩) (v := undef) rfl (by kernel_rfl) (by kernel_rfl) (by kernel_rfl) (fun _ _ _ h => h) (Or.inr ⟨by rfl, rfl⟩) (by assumption) ?_
      try simp only [Act.put, List.setIfInBounds_toArray, List.set_cons_zero, List.set_cons_succ]
      refine wpAnyH_take (i := 9) (oi := ⟨_, _, _, _, _, _⟩) (v := undef) rfl (by kernel_rfl) (by kernel_rfl) (by kernel_rfl) (fun _ _ _ h => h) (Or.inr ⟨by rfl, rfl⟩) (by assumption) ?_
      try simp only [Act.put, List.setIfInBounds_toArray, List.set_cons_zero, List.set_cons_succ]
      refine wpAnyH_take (i := 10) (oi := ⟨_, _, _, _, _, _⟩) (v := undef) rfl (by kernel_rfl) (by kernel_rfl) (by kernel_rfl) (fun _ _ _ h => h) (Or.inr ⟨by rfl, rfl⟩) (by assumption) ?_
      try simp only [Act.put, List.setIfInBounds_toArray, List.set_cons_zero, List.set_cons_succ]
      refine wpAnyH_take (i := 11) (oi := ⟨_, _, _, _, _, _⟩) (v := ?_) rfl (by kernel_rfl) (by kernel_rfl) (by kernel_rfl) (fun _ _ _ h => h) (Or.inl ⟨by rfl, ?_⟩) (by assumption) ?_
      rotate_left
      · intro u hSw
        go_simp
        try (with_reducible rfl)
      try simp only [Act.put, List.setIfInBounds_toArray, List.set_cons_zero, List.set_cons_succ]
      refine wpAnyH_take (i := 12) (oi := ⟨_, _, _, _, _, _⟩) (v := ?_) rfl (by kernel_rfl) (by kernel_rfl) (by kernel_rfl) (fun _ _ _ h => h) (Or.inl ⟨by rfl, ?_⟩) (by assumption) ?_
      rotate_left
      · intro u hSw
        go_simp
        try (with_reducible rfl)
      try simp only [Act.put, List.setIfInBounds_toArray, List.set_cons_zero, List.set_cons_succ]
      refine wpAnyH_done (by kernel_rfl) ?_ _
      go_wp2_with fail
      go_ret
      exact ⟨rfl, Bf.trans ((Below.refl uf.heap.size uf).drew.mono Bf.size)⟩
  · go_simp
    go_wp2_with fail
    have hb10 := alloc_bel' u0 (.cells (h8 Z32) 24)
    have B10 := B0.trans (hb10.mono B0.size)
    have X10 := X0.below hb10 X0.lt
    have Y10 := Y0.below hb10 Y0.lt
    have V10 := V0.below hb10 V0.lt
    have G10 := Arr.new u0 24 (h8 Z32)
    have hga10 : w.heap.size + 3 ≤ u0.heap.size := by have := V0.lt; omega
    have hsz10 : u0.heap.size ≤ (u0.alloc (.cells (h8 Z32) 24)).heap.size := by simp
    refine hK.out _ _ ⟨B10, X10, Y10, V10⟩ (fun hHeld => ?_)
    clear hK K
    try simp only [Act.put, List.setIfInBounds_toArray, List.set_cons_zero, List.set_cons_succ]
    rw [← h8_Z]
    obtain ⟨ga10, hgae10⟩ : ∃ g, g = u0.heap.size := ⟨_, rfl⟩
    rw [← hgae10] at G10 hga10 ⊢
    clear hgae10
    generalize u0.alloc (.cells (h8 Z32) 24) = u10 at *
    have hHeld : (fun u => Below w.heap.size w u ∧ Arr u w.heap.size 24 (h8 R) ∧ Arr u (w.heap.size + 1) 26 a.arr ∧ Arr u (w.heap.size + 2) 44 (wtA sp n cap o c)) u10 := ⟨B10, X10, Y10, V10⟩
    refine wpAnyH_ready (rs := [2]) (by kernel_rfl) (by simp) ?_
    refine AllReadyH.cons (o := ⟨_, _, _, _, _, _⟩) rfl (fun K hK => ?_) AllReadyH.nil
    go_simp
    refine (refAcBytes_any a _ ha).mono ?_; rintro e u11 ⟨v1, rfl, hown1, hb11⟩; have B11 := B10.trans (hb11.mono B10.size); have X11 := X10.below hb11 X10.lt; have Y11 := Y10.below hb11 Y10.lt; have V11 := V10.below hb11 V10.lt; obtain ⟨s1, k1, rfl, hS11, -⟩ := own_bs hown1 (acb_bts ha) (by omega); have hsz11 : u11.heap.size ≤ u11.heap.size := Nat.le_refl _
    have G11 := G10.below hb11 G10.lt
    obtain ⟨ga11, hgq⟩ : ∃ g, g = ga10 := ⟨_, rfl⟩
    rw [← hgq] at G11 ⊢
    have hga11 : w.heap.size + 3 ≤ ga11 := by omega
    clear hgq
    go_wp2_with fail
    refine hK.out _ _ ⟨B11, X11, Y11, V11⟩ (fun hHeld => ?_)
    clear hK K
    try simp only [Act.put, List.setIfInBounds_toArray, List.set_cons_zero, List.set_cons_succ]
    refine wpAnyH_ready (rs := [3]) (by kernel_rfl) (by simp) ?_
    refine AllReadyH.cons (o := ⟨_, _, _, _, _, _⟩) rfl (fun K hK => ?_) AllReadyH.nil
    go_simp
    refine (refLeaf_bs s1 48 k1 _ (acb a) _ hS11 (by omega)).mono ?_; rintro e u12 ⟨rfl, hb12⟩; have B12 := B11.trans (hb12.mono B11.size); have X12 := X11.below hb12 X11.lt; have Y12 := Y11.below hb12 Y11.lt; have V12 := V11.below hb12 V11.lt
    have G12 := G11.below hb12 G11.lt
    obtain ⟨ga12, hgq⟩ : ∃ g, g = ga11 := ⟨_, rfl⟩
    rw [← hgq] at G12 ⊢
    have hga12 : w.heap.size + 3 ≤ ga12 := by omega
    clear hgq
    go_wp2_with fail
    refine hK.out _ _ ⟨B12, X12, Y12, V12⟩ (fun hHeld => ?_)
    clear hK K
    try simp only [Act.put, List.setIfInBounds_toArray, List.set_cons_zero, List.set_cons_succ]
    refine wpAnyH_ready (rs := [6]) (by kernel_rfl) (by simp) ?_
    refine AllReadyH.cons (o := ⟨_, _, _, _, _, _⟩) rfl (fun K hK => ?_) AllReadyH.nil
    go_simp
    refine (hFo.out u12 B12).mono ?_; rintro e u13 ⟨rfl, hb13⟩; have B13 := B12.trans (hb13.mono B12.size); have X13 := X12.below hb13 X12.lt; have Y13 := Y12.below hb13 Y12.lt; have V13 := V12.below hb13 V12.lt
    have G13 := G12.below hb13 G12.lt
    obtain ⟨ga13, hgq⟩ : ∃ g, g = ga12 := ⟨_, rfl⟩
    rw [← hgq] at G13 ⊢
    have hga13 : w.heap.size + 3 ≤ ga13 := by omega
    clear hgq
    go_wp2_with fail
    refine hK.out _ _ ⟨B13, X13, Y13, V13⟩ (fun hHeld => ?_)
    clear hK K
    try simp only [Act.put, List.setIfInBounds_toArray, List.set_cons_zero, List.set_cons_succ]
    refine wpAnyH_take (i := 7) (oi := ⟨_, _, _, _, _, _⟩) (v := ?_) rfl (by kernel_rfl) (by kernel_rfl) (by kernel_rfl) (fun _ _ _ h => h) (Or.inl ⟨by rfl, ?_⟩) (by assumption) ?_
    rotate_left
    · intro u hSw
      go_simp
      try (with_reducible rfl)
    try simp only [Act.put, List.setIfInBounds_toArray, List.set_cons_zero, List.set_cons_succ]
    refine wpAnyH_take (i := 8) (oi := ⟨_, _, _, _, _, _⟩) (v := ?_) rfl (by kernel_rfl) (by kernel_rfl) (by kernel_rfl) (fun _ _ _ h => h) (Or.inl ⟨by rfl, ?_⟩) (by assumption) ?_
    rotate_left
    · intro u hSw
      go_simp
      try (with_reducible rfl)
    try simp only [Act.put, List.setIfInBounds_toArray, List.set_cons_zero, List.set_cons_succ]
    refine wpAnyH_take (i := 9) (oi := ⟨_, _, _, _, _, _⟩) (v := ?_) rfl (by kernel_rfl) (by kernel_rfl) (by kernel_rfl) (fun _ _ _ h => h) (Or.inl ⟨by rfl, ?_⟩) (by assumption) ?_
    rotate_left
    · intro u hSw
      go_simp
      try (with_reducible rfl)
    try simp only [Act.put, List.setIfInBounds_toArray, List.set_cons_zero, List.set_cons_succ]
    refine wpAnyH_ready (rs := [11]) (by kernel_rfl) (by simp) ?_
    refine AllReadyH.cons (o := ⟨_, _, _, _, _, _⟩) rfl (fun K hK => ?_) AllReadyH.nil
    refine step_want rfl (wp_store_row 24 (.tmp 9) (.tmp 28) rfl ga13 (h8 F) rfl rfl 24 _ G13 (s24h8 hF) (by rw [h8_size, h8_size, hF, Z32_len]) (h8_one _) ?_)
    have Bf : Below w.heap.size w (u13.setRow ga13 (h8 F)) := below_setRow B13 (by omega) _
    have Xf := X13.setRowOther (k := ga13) (h8 F) (by omega)
    have Yf := Y13.setRowOther (k := ga13) (h8 F) (by omega)
    have Vf := V13.setRowOther (k := ga13) (h8 F) (by omega)
    have Gf := G13.setRow (h8 F)
    generalize u13.setRow ga13 (h8 F) = uf at *
    refine hK.out _ _ ⟨Bf, Xf, Yf, Vf⟩ (fun hHeld => ?_)
    clear hK K
    try simp only [Act.put, List.setIfInBounds_toArray, List.set_cons_zero, List.set_cons_succ]
    refine wpAnyH_take (i := 12) (oi := ⟨_, _, _, _, _, _⟩) (v := ?_) rfl (by kernel_rfl) (by kernel_rfl) (by kernel_rfl) (fun _ _ _ h => h) (Or.inl ⟨by rfl, ?_⟩) (by assumption) ?_
    rotate_left
    · intro u hSw
      go_simp
      try (with_reducible rfl)
    try simp only [Act.put, List.setIfInBounds_toArray, List.set_cons_zero, List.set_cons_succ]
    refine wpAnyH_done (by kernel_rfl) ?_ _
    go_upto_region 4 with fail
    refine wp_region_held_drew (S := fun u => Below uf.heap.size uf u) (by kernel_rfl) ((Below.refl _ _).drew) (fun hHeld => ?_)
    refine wpAnyH_take (i := 0) (oi := ⟨_, _, _, _, _, _⟩) (v := ?_) rfl (by kernel_rfl) (by kernel_rfl) (by kernel_rfl) (fun _ _ _ h => h) (Or.inl ⟨by rfl, ?_⟩) (by assumption) ?_
    rotate_left
    · intro u hSw
      go_simp
      try (with_reducible rfl)
    try simp only [Act.put, List.setIfInBounds_toArray, List.set_cons_zero, List.set_cons_succ]
    refine wpAnyH_take (i := 1) (oi := ⟨_, _, _, _, _, _⟩) (v := ?_) rfl (by kernel_rfl) (by kernel_rfl) (by kernel_rfl) (fun _ _ _ h => h) (Or.inl ⟨by rfl, ?_⟩) (by assumption) ?_
    rotate_left
    · intro u hSw
      go_simp
      try (with_reducible rfl)
    try simp only [Act.put, List.setIfInBounds_toArray, List.set_cons_zero, List.set_cons_succ]
    refine wpAnyH_take (i := 2) (oi := ⟨_, _, _, _, _, _⟩) (v := ?_) rfl (by kernel_rfl) (by kernel_rfl) (by kernel_rfl) (fun _ _ _ h => h) (Or.inl ⟨by rfl, ?_⟩) (by assumption) ?_
    rotate_left
    · intro u hSw
      go_simp
      try (with_reducible rfl)
    try simp only [Act.put, List.setIfInBounds_toArray, List.set_cons_zero, List.set_cons_succ]
    refine wpAnyH_take (i := 3) (oi := ⟨_, _, _, _, _, _⟩) (v := undef) rfl (by kernel_rfl) (by kernel_rfl) (by kernel_rfl) (fun _ _ _ h => h) (Or.inr ⟨by rfl, rfl⟩) (by assumption) ?_
    try simp only [Act.put, List.setIfInBounds_toArray, List.set_cons_zero, List.set_cons_succ]
    refine wpAnyH_take (i := 4) (oi := ⟨_, _, _, _, _, _⟩) (v := undef) rfl (by kernel_rfl) (by kernel_rfl) (by kernel_rfl) (fun _ _ _ h => h) (Or.inr ⟨by rfl, rfl⟩) (by assumption) ?_
    try simp only [Act.put, List.setIfInBounds_toArray, List.set_cons_zero, List.set_cons_succ]
    refine wpAnyH_take (i := 5) (oi := ⟨_, _, _, _, _, _⟩) (v := undef) rfl (by kernel_rfl) (by kernel_rfl) (by kernel_rfl) (fun _ _ _ h => h) (Or.inr ⟨by rfl, rfl⟩) (by assumption) ?_
    try simp only [Act.put, List.setIfInBounds_toArray, List.set_cons_zero, List.set_cons_succ]
    refine wpAnyH_take (i := 6) (oi := ⟨_, _, _, _, _, _⟩) (v := undef) rfl (by kernel_rfl) (by kernel_rfl) (by kernel_rfl) (fun _ _ _ h => h) (Or.inr ⟨by rfl, rfl⟩) (by assumption) ?_
    try simp only [Act.put, List.setIfInBounds_toArray, List.set_cons_zero, List.set_cons_succ]
    refine wpAnyH_take (i := 7) (oi := ⟨_, _, _, _, _, _⟩) (v := undef) rfl (by kernel_rfl) (by kernel_rfl) (by kernel_rfl) (fun _ _ _ h => h) (Or.inr ⟨by rfl, rfl⟩) (by assumption) ?_
    try simp only [Act.put, List.setIfInBounds_toArray, List.set_cons_zero, List.set_cons_succ]
    refine wpAnyH_take (i := 8) (oi := ⟨_, _, _, _, _, _⟩) (v := undef) rfl (by kernel_rfl) (by kernel_rfl) (by kernel_rfl) (fun _ _ _ h => h) (Or.inr ⟨by rfl, rfl⟩) (by assumption) ?_
    try simp only [Act.put, List.setIfInBounds_toArray, List.set_cons_zero, List.set_cons_succ]
    refine wpAnyH_take (i := 9) (oi := ⟨_, _, _, _, _, _⟩) (v := undef) rfl (by kernel_rfl) (by kernel_rfl) (by kernel_rfl) (fun _ _ _ h => h) (Or.inr ⟨by rfl, rfl⟩) (by assumption) ?_
    try simp only [Act.put, List.setIfInBounds_toArray, List.set_cons_zero, List.set_cons_succ]
    refine wpAnyH_take (i := 10) (oi := ⟨_, _, _, _, _, _⟩) (v := undef) rfl (by kernel_rfl) (by kernel_rfl) (by kernel_rfl) (fun _ _ _ h => h) (Or.inr ⟨by rfl, rfl⟩) (by assumption) ?_
    try simp only [Act.put, List.setIfInBounds_toArray, List.set_cons_zero, List.set_cons_succ]
    refine wpAnyH_take (i := 11) (oi := ⟨_, _, _, _, _, _⟩) (v := ?_) rfl (by kernel_rfl) (by kernel_rfl) (by kernel_rfl) (fun _ _ _ h => h) (Or.inl ⟨by rfl, ?_⟩) (by assumption) ?_
    rotate_left
    · intro u hSw
      go_simp
      try (with_reducible rfl)
    try simp only [Act.put, List.setIfInBounds_toArray, List.set_cons_zero, List.set_cons_succ]
    refine wpAnyH_take (i := 12) (oi := ⟨_, _, _, _, _, _⟩) (v := ?_) rfl (by kernel_rfl) (by kernel_rfl) (by kernel_rfl) (fun _ _ _ h => h) (Or.inl ⟨by rfl, ?_⟩) (by assumption) ?_
    rotate_left
    · intro u hSw
      go_simp
      try (with_reducible rfl)
    try simp only [Act.put, List.setIfInBounds_toArray, List.set_cons_zero, List.set_cons_succ]
    refine wpAnyH_done (by kernel_rfl) ?_ _
    go_wp2_with fail
    go_ret
    exact ⟨rfl, Bf.trans ((Below.refl uf.heap.size uf).drew.mono Bf.size)⟩
set_option maxHeartbeats 4000000 in
theorem refCheckOut_ok (R : List Int) (i : Int) (a : Ou) (N : Nat) (sp : Option Addr) (n cap : Nat) (ls : List (List Int)) (o : List Int) (c : Int) (w : World) (hR : R.length = 32) (hW : WT N w sp n cap ls o c) (h5 : n = 5) (h32 : c ≤ 32) (h0 : 0 ≤ i) (h1 : i < c) :
    Calls Try.prog 26 #[.agg (h8 R), .int .i64 i, .agg a.arr, .agg (wtA sp n cap o c)] w fun e w' => e = .returned (.bool (ckO R i a ls o c)) ∧ Below w.heap.size w w' := by
  have hW := hW.here
  have hl5 : ls.length = 5 := by rw [← hW.path.len.out]; exact h5
  have hFok : FoOK i ls.length := by rw [hl5]; exact fo5 h0 (by omega)
  obtain ⟨F, hFe⟩ : ∃ F, F = fo i.toNat (lf (oub a)) ls := ⟨_, rfl⟩
  have hF : F.length = 32 := by rw [hFe]; exact fo_len (lf_len _)
  have hFo := Hid.mk' (fun u (hu : Below w.heap.size w u) => by
    have h := refFold_any i (lf (oub a)) _ sp n cap ls u (lf_len _) (hW.path.below hu)
    unfold foR foE at h
    rw [if_pos hFok, if_pos hFok, ← hFe] at h
    exact h)
  have hfin : Hid (decide (jn o F c = R) = ckO R i a ls o c) := Hid.mk' (by
    unfold ckO
    rw [fo_upO hl5 (by omega), ← hFe]
    congr 1
    simp only [hl5, h32, h0, h1, true_and, and_self])
  have hjl : (jn o F c).length = 32 := jn_len _ _ _
  have heq := run_eq24d hjl hR
  clear hFe hFok hl5
  have h5' : ((n : Int) != 5) = false := by simp; omega
  have h5'' : (n : Int) = 5 := by omega
  have h32' : ¬ c > 32 := by omega
  have hI0 : ¬ i < 0 := by omega
  have hI1 : ¬ i ≥ c := by omega
  have hwi : i % 18446744073709551616 = i := by omega
  have X0 := ((Arr.new w 24 (h8 R)).alloc (.cells a.arr 53)).alloc (.cells (wtA sp n cap o c) 44)
  have Y0 := (show Arr ((w.alloc (.cells (h8 R) 24)).alloc (.cells a.arr 53)) (w.heap.size + 1) 53 a.arr from (by simpa using Arr.new (w.alloc (.cells (h8 R) 24)) 53 a.arr)).alloc (.cells (wtA sp n cap o c) 44)
  have V0 := Arr.new3 w (.cells (h8 R) 24) (.cells a.arr 53) 44 (wtA sp n cap o c)
  have B0 := ((alloc_bel' w (.cells (h8 R) 24)).alloc (by simp) (.cells a.arr 53)).alloc (by simp; omega) (.cells (wtA sp n cap o c) 44)
  have k0 := wt_c0 V0.wt
  have k1 := wt_c' V0.wt hW.o32
  replace h5 := Hid.mk' h5
  go_enter Try.func26, Try.ntmps26
  go_upto_region 3 with fail
  clear k0 k1 h5'' h5'
  replace B0 := B0.drew
  replace X0 := X0.drew
  replace Y0 := Y0.drew
  replace V0 := V0.drew
  obtain ⟨u0, hu0⟩ : ∃ u : World, u = (((w.alloc (.cells (h8 R) 24)).alloc (.cells a.arr 53)).alloc (.cells (wtA sp n cap o c) 44)).drew := ⟨_, rfl⟩
  rw [← hu0] at B0 X0 Y0 V0
  refine wp_region_held_drew (S := fun u => Below w.heap.size w u ∧ Arr u w.heap.size 24 (h8 R) ∧ Arr u (w.heap.size + 1) 53 a.arr ∧ Arr u (w.heap.size + 2) 44 (wtA sp n cap o c)) (by kernel_rfl) (by rw [← hu0]; exact ⟨B0, X0, Y0, V0⟩) (fun hHeld => ?_)
  rw [← hu0]
  rw [← hu0] at hHeld
  clear hu0
  refine wpAnyH_take (i := 0) (oi := ⟨_, _, _, _, _, _⟩) (v := ?_) rfl (by kernel_rfl) (by kernel_rfl) (by kernel_rfl) (fun _ _ _ h => h) (Or.inl ⟨by rfl, ?_⟩) (by assumption) ?_
  rotate_left
  · intro u hSw
    go_simp
    try (with_reducible rfl)
  try simp only [Act.put, List.setIfInBounds_toArray, List.set_cons_zero, List.set_cons_succ]
  refine wpAnyH_take (i := 1) (oi := ⟨_, _, _, _, _, _⟩) rfl (by kernel_rfl) (by kernel_rfl) (by kernel_rfl) (fun _ _ _ h => h) (y53 (by rfl) (.tmp 6) rfl (w.heap.size + 1) 0 rfl a (fun u hu => hu.2.2.1.ou)) (by assumption) ?_
  try simp only [Act.put, List.setIfInBounds_toArray, List.set_cons_zero, List.set_cons_succ]
  refine wpAnyH_take (i := 4) (oi := ⟨_, _, _, _, _, _⟩) (v := ?_) rfl (by kernel_rfl) (by kernel_rfl) (by kernel_rfl) (fun _ _ _ h => h) (Or.inl ⟨by rfl, ?_⟩) (by assumption) ?_
  rotate_left
  · intro u hSw
    go_simp
    try (with_reducible rfl)
  try simp only [Act.put, List.setIfInBounds_toArray, List.set_cons_zero, List.set_cons_succ]
  refine wpAnyH_take (i := 5) (oi := ⟨_, _, _, _, _, _⟩) (v := ?_) rfl (by kernel_rfl) (by kernel_rfl) (by kernel_rfl) (fun _ _ _ h => h) (Or.inl ⟨by rfl, ?_⟩) (by assumption) ?_
  rotate_left
  · intro u hSw
    have cc := wt_c0 hSw.2.2.2.wt
    go_simp
    try (with_reducible rfl)
  try simp only [Act.put, List.setIfInBounds_toArray, List.set_cons_zero, List.set_cons_succ]

  refine wpAnyH_ready (rs := [2, 10]) (by kernel_rfl) (by simp) ?_
  refine AllReadyH.cons (o := ⟨_, _, _, _, _, _⟩) rfl (fun K hK => ?_) (AllReadyH.cons (o := ⟨_, _, _, _, _, _⟩) rfl (fun K hK => ?_) AllReadyH.nil)
  · go_simp
    refine (refOuBytes_any a _).mono ?_; rintro e u1 ⟨v1, rfl, hown1, hb1⟩; have B1 := B0.trans (hb1.mono B0.size); have X1 := X0.below hb1 X0.lt; have Y1 := Y0.below hb1 Y0.lt; have V1 := V0.below hb1 V0.lt; obtain ⟨s1, k1, rfl, hS1, -⟩ := own_bs hown1 (oub_bts a) (by omega); have hsz1 : u1.heap.size ≤ u1.heap.size := Nat.le_refl _
    go_wp2_with fail
    refine hK.out _ _ ⟨B1, X1, Y1, V1⟩ (fun hHeld => ?_)
    clear hK K
    try simp only [Act.put, List.setIfInBounds_toArray, List.set_cons_zero, List.set_cons_succ]
    refine wpAnyH_ready (rs := [3, 10]) (by kernel_rfl) (by simp) ?_
    refine AllReadyH.cons (o := ⟨_, _, _, _, _, _⟩) rfl (fun K hK => ?_) (AllReadyH.cons (o := ⟨_, _, _, _, _, _⟩) rfl (fun K hK => ?_) AllReadyH.nil)
    · go_simp
      refine (refLeaf_bs s1 16 k1 _ (oub a) _ hS1 (by omega)).mono ?_; rintro e u2 ⟨rfl, hb2⟩; have B2 := B1.trans (hb2.mono B1.size); have X2 := X1.below hb2 X1.lt; have Y2 := Y1.below hb2 Y1.lt; have V2 := V1.below hb2 V1.lt
      go_wp2_with fail
      refine hK.out _ _ ⟨B2, X2, Y2, V2⟩ (fun hHeld => ?_)
      clear hK K
      try simp only [Act.put, List.setIfInBounds_toArray, List.set_cons_zero, List.set_cons_succ]
      refine wpAnyH_ready (rs := [6, 10]) (by kernel_rfl) (by simp) ?_
      refine AllReadyH.cons (o := ⟨_, _, _, _, _, _⟩) rfl (fun K hK => ?_) (AllReadyH.cons (o := ⟨_, _, _, _, _, _⟩) rfl (fun K hK => ?_) AllReadyH.nil)
      · go_simp
        refine (hFo.out u2 B2).mono ?_; rintro e u3 ⟨rfl, hb3⟩; have B3 := B2.trans (hb3.mono B2.size); have X3 := X2.below hb3 X2.lt; have Y3 := Y2.below hb3 Y2.lt; have V3 := V2.below hb3 V2.lt
        go_wp2_with fail
        refine hK.out _ _ ⟨B3, X3, Y3, V3⟩ (fun hHeld => ?_)
        clear hK K
        try simp only [Act.put, List.setIfInBounds_toArray, List.set_cons_zero, List.set_cons_succ]
        refine wpAnyH_take (i := 7) (oi := ⟨_, _, _, _, _, _⟩) (v := ?_) rfl (by kernel_rfl) (by kernel_rfl) (by kernel_rfl) (fun _ _ _ h => h) (Or.inl ⟨by rfl, ?_⟩) (by assumption) ?_
        rotate_left
        · intro u hSw
          go_simp
          try (with_reducible rfl)
        try simp only [Act.put, List.setIfInBounds_toArray, List.set_cons_zero, List.set_cons_succ]
        refine wpAnyH_take (i := 8) (oi := ⟨_, _, _, _, _, _⟩) (v := ?_) rfl (by kernel_rfl) (by kernel_rfl) (by kernel_rfl) (fun _ _ _ h => h) (Or.inl ⟨by rfl, ?_⟩) (by assumption) ?_
        rotate_left
        · intro u hSw
          go_simp
          try (with_reducible rfl)
        try simp only [Act.put, List.setIfInBounds_toArray, List.set_cons_zero, List.set_cons_succ]
        refine wpAnyH_take (i := 9) (oi := ⟨_, _, _, _, _, _⟩) (v := ?_) rfl (by kernel_rfl) (by kernel_rfl) (by kernel_rfl) (fun _ _ _ h => h) (Or.inl ⟨by rfl, ?_⟩) (by assumption) ?_
        rotate_left
        · intro u hSw
          go_simp
          try (with_reducible rfl)
        try simp only [Act.put, List.setIfInBounds_toArray, List.set_cons_zero, List.set_cons_succ]
        refine wpAnyH_ready (rs := [10]) (by kernel_rfl) (by simp) ?_
        refine AllReadyH.cons (o := ⟨_, _, _, _, _, _⟩) rfl (fun K hK => ?_) AllReadyH.nil
        go_simp
        go_wp2_with fail
        have hb4 := alloc_bel' u3 (.cells (h8 Z32) 24)
        have B4 := B3.trans (hb4.mono B3.size)
        have X4 := X3.below hb4 X3.lt
        have Y4 := Y3.below hb4 Y3.lt
        have V4 := V3.below hb4 V3.lt
        have G4 := Arr.new u3 24 (h8 Z32)
        have hga4 : w.heap.size + 3 ≤ u3.heap.size := by have := V3.lt; omega
        have hsz4 : u3.heap.size ≤ (u3.alloc (.cells (h8 Z32) 24)).heap.size := by simp
        refine hK.out _ _ ⟨B4, X4, Y4, V4⟩ (fun hHeld => ?_)
        clear hK K
        try simp only [Act.put, List.setIfInBounds_toArray, List.set_cons_zero, List.set_cons_succ]
        rw [← h8_Z]
        obtain ⟨ga4, hgae4⟩ : ∃ g, g = u3.heap.size := ⟨_, rfl⟩
        rw [← hgae4] at G4 hga4 ⊢
        clear hgae4
        generalize u3.alloc (.cells (h8 Z32) 24) = u4 at *
        have hHeld : (fun u => Below w.heap.size w u ∧ Arr u w.heap.size 24 (h8 R) ∧ Arr u (w.heap.size + 1) 53 a.arr ∧ Arr u (w.heap.size + 2) 44 (wtA sp n cap o c)) u4 := ⟨B4, X4, Y4, V4⟩
        refine wpAnyH_ready (rs := [11]) (by kernel_rfl) (by simp) ?_
        refine AllReadyH.cons (o := ⟨_, _, _, _, _, _⟩) rfl (fun K hK => ?_) AllReadyH.nil
        refine step_want rfl (wp_store_row 24 (.tmp 9) (.tmp 39) rfl ga4 (h8 F) rfl rfl 24 _ G4 (s24h8 hF) (by rw [h8_size, h8_size, hF, Z32_len]) (h8_one _) ?_)
        have Bf : Below w.heap.size w (u4.setRow ga4 (h8 F)) := below_setRow B4 (by omega) _
        have Xf := X4.setRowOther (k := ga4) (h8 F) (by omega)
        have Yf := Y4.setRowOther (k := ga4) (h8 F) (by omega)
        have Vf := V4.setRowOther (k := ga4) (h8 F) (by omega)
        have Gf := G4.setRow (h8 F)
        generalize u4.setRow ga4 (h8 F) = uf at *
        refine hK.out _ _ ⟨Bf, Xf, Yf, Vf⟩ (fun hHeld => ?_)
        clear hK K
        try simp only [Act.put, List.setIfInBounds_toArray, List.set_cons_zero, List.set_cons_succ]
        refine wpAnyH_take (i := 12) (oi := ⟨_, _, _, _, _, _⟩) (v := ?_) rfl (by kernel_rfl) (by kernel_rfl) (by kernel_rfl) (fun _ _ _ h => h) (Or.inl ⟨by rfl, ?_⟩) (by assumption) ?_
        rotate_left
        · intro u hSw
          go_simp
          try (with_reducible rfl)
        try simp only [Act.put, List.setIfInBounds_toArray, List.set_cons_zero, List.set_cons_succ]
        refine wpAnyH_done (by kernel_rfl) ?_ _
        go_upto_region 4 with fail
        refine wp_region_held_drew (S := fun u => Below uf.heap.size uf u) (by kernel_rfl) ((Below.refl _ _).drew) (fun hHeld => ?_)
        refine wpAnyH_take (i := 0) (oi := ⟨_, _, _, _, _, _⟩) (v := ?_) rfl (by kernel_rfl) (by kernel_rfl) (by kernel_rfl) (fun _ _ _ h => h) (Or.inl ⟨by rfl, ?_⟩) (by assumption) ?_
        rotate_left
        · intro u hSw
          go_simp
          try (with_reducible rfl)
        try simp only [Act.put, List.setIfInBounds_toArray, List.set_cons_zero, List.set_cons_succ]
        refine wpAnyH_take (i := 1) (oi := ⟨_, _, _, _, _, _⟩) (v := ?_) rfl (by kernel_rfl) (by kernel_rfl) (by kernel_rfl) (fun _ _ _ h => h) (Or.inl ⟨by rfl, ?_⟩) (by assumption) ?_
        rotate_left
        · intro u hSw
          go_simp
          try (with_reducible rfl)
        try simp only [Act.put, List.setIfInBounds_toArray, List.set_cons_zero, List.set_cons_succ]
        refine wpAnyH_take (i := 2) (oi := ⟨_, _, _, _, _, _⟩) (v := ?_) rfl (by kernel_rfl) (by kernel_rfl) (by kernel_rfl) (fun _ _ _ h => h) (Or.inl ⟨by rfl, ?_⟩) (by assumption) ?_
        rotate_left
        · intro u hSw
          go_simp
          try (with_reducible rfl)
        try simp only [Act.put, List.setIfInBounds_toArray, List.set_cons_zero, List.set_cons_succ]
        refine wpAnyH_take (i := 3) (oi := ⟨_, _, _, _, _, _⟩) (v := ?_) rfl (by kernel_rfl) (by kernel_rfl) (by kernel_rfl) (fun _ _ _ h => h) (Or.inl ⟨by rfl, ?_⟩) (by assumption) ?_
        rotate_left
        · intro u hSw
          go_simp
          try (with_reducible rfl)
        try simp only [Act.put, List.setIfInBounds_toArray, List.set_cons_zero, List.set_cons_succ]
        refine wpAnyH_take (i := 4) (oi := ⟨_, _, _, _, _, _⟩) rfl (by kernel_rfl) (by kernel_rfl) (by kernel_rfl) (fun _ _ _ h => h) (y24c' (by rfl) (.tmp 44) rfl (w.heap.size + 2) (0 + 1) rfl o hW.o32 (fun u hu => range_below (wt_o Vf.wt) hu Vf.lt)) (by assumption) ?_
        try simp only [Act.put, List.setIfInBounds_toArray, List.set_cons_zero, List.set_cons_succ]
        refine wpAnyH_take (i := 5) (oi := ⟨_, _, _, _, _, _⟩) rfl (by kernel_rfl) (by kernel_rfl) (by kernel_rfl) (fun _ _ _ h => h) (y24c' (by rfl) (.tmp 9) rfl ga4 0 rfl F hF (fun u hu => range_below Gf.range hu Gf.lt)) (by assumption) ?_
        try simp only [Act.put, List.setIfInBounds_toArray, List.set_cons_zero, List.set_cons_succ]
        refine wpAnyH_take (i := 6) (oi := ⟨_, _, _, _, _, _⟩) (v := ?_) rfl (by kernel_rfl) (by kernel_rfl) (by kernel_rfl) (fun _ _ _ h => h) (Or.inl ⟨by rfl, ?_⟩) (by assumption) ?_
        rotate_left
        · intro u hSw
          go_simp
          try (with_reducible rfl)
        try simp only [Act.put, List.setIfInBounds_toArray, List.set_cons_zero, List.set_cons_succ]
        refine wpAnyH_take (i := 7) (oi := ⟨_, _, _, _, _, _⟩) (v := ?_) rfl (by kernel_rfl) (by kernel_rfl) (by kernel_rfl) (fun _ _ _ h => h) (Or.inl ⟨by rfl, ?_⟩) (by assumption) ?_
        rotate_left
        · intro u hSw
          have cc := (hSw.cell (p := ⟨w.heap.size + 2, 33, none⟩) Vf.lt).trans (wt_c' Vf.wt hW.o32)
          go_simp
          try (with_reducible rfl)
        try simp only [Act.put, List.setIfInBounds_toArray, List.set_cons_zero, List.set_cons_succ]
        refine wpAnyH_take (i := 9) (oi := ⟨_, _, _, _, _, _⟩) rfl (by kernel_rfl) (by kernel_rfl) (by kernel_rfl) (fun _ _ _ h => h) (y24c' (by rfl) (.tmp 4) rfl w.heap.size 0 rfl R hR (fun u hu => range_below Xf.range hu Xf.lt)) (by assumption) ?_
        try simp only [Act.put, List.setIfInBounds_toArray, List.set_cons_zero, List.set_cons_succ]
        refine wpAnyH_ready (rs := [8]) (by kernel_rfl) (by simp) ?_
        refine AllReadyH.cons (o := ⟨_, _, _, _, _, _⟩) rfl (fun K hK => ?_) AllReadyH.nil
        go_simp
        refine (joined_any o F c _ hW.o32 hF).mono ?_; rintro e ug ⟨rfl, hbg⟩; have Ug := (Below.refl uf.heap.size uf).drew.trans (hbg.mono (by simp))
        go_wp2_with fail
        refine hK.out _ _ Ug (fun hHeld => ?_)
        clear hK K
        try simp only [Act.put, List.setIfInBounds_toArray, List.set_cons_zero, List.set_cons_succ]
        refine wpAnyH_take (i := 10) (oi := ⟨_, _, _, _, _, _⟩) (v := ?_) rfl (by kernel_rfl) (by kernel_rfl) (by kernel_rfl) (fun _ _ _ h => h) (Or.inl ⟨by rfl, ?_⟩) (by assumption) ?_
        rotate_left
        · intro u hSw
          go_simp
          try (with_reducible rfl)
        try simp only [Act.put, List.setIfInBounds_toArray, List.set_cons_zero, List.set_cons_succ]
        refine wpAnyH_take (i := 11) (oi := ⟨_, _, _, _, _, _⟩) (v := ?_) rfl (by kernel_rfl) (by kernel_rfl) (by kernel_rfl) (fun _ _ _ h => h) (Or.inl ⟨by rfl, ?_⟩) (by assumption) ?_
        rotate_left
        · intro u hSw
          go_simp
          try (with_reducible rfl)
        try simp only [Act.put, List.setIfInBounds_toArray, List.set_cons_zero, List.set_cons_succ]
        refine wpAnyH_take (i := 12) (oi := ⟨_, _, _, _, _, _⟩) (v := ?_) rfl (by kernel_rfl) (by kernel_rfl) (by kernel_rfl) (fun _ _ _ h => h) (Or.inl ⟨by rfl, ?_⟩) (by assumption) ?_
        rotate_left
        · intro u hSw
          go_simp
          try (with_reducible rfl)
        try simp only [Act.put, List.setIfInBounds_toArray, List.set_cons_zero, List.set_cons_succ]
        refine wpAnyH_done (by kernel_rfl) ?_ _
        go_wp2_with fail
        go_ret
        exact ⟨congrArg (fun b => Ending.returned (Value.bool b)) hfin.out, Bf.trans (Ug.mono Bf.size)⟩
      · go_simp
        go_wp2_with fail
        have hb5 := alloc_bel' u2 (.cells (h8 Z32) 24)
        have B5 := B2.trans (hb5.mono B2.size)
        have X5 := X2.below hb5 X2.lt
        have Y5 := Y2.below hb5 Y2.lt
        have V5 := V2.below hb5 V2.lt
        have G5 := Arr.new u2 24 (h8 Z32)
        have hga5 : w.heap.size + 3 ≤ u2.heap.size := by have := V2.lt; omega
        have hsz5 : u2.heap.size ≤ (u2.alloc (.cells (h8 Z32) 24)).heap.size := by simp
        refine hK.out _ _ ⟨B5, X5, Y5, V5⟩ (fun hHeld => ?_)
        clear hK K
        try simp only [Act.put, List.setIfInBounds_toArray, List.set_cons_zero, List.set_cons_succ]
        rw [← h8_Z]
        obtain ⟨ga5, hgae5⟩ : ∃ g, g = u2.heap.size := ⟨_, rfl⟩
        rw [← hgae5] at G5 hga5 ⊢
        clear hgae5
        generalize u2.alloc (.cells (h8 Z32) 24) = u5 at *
        have hHeld : (fun u => Below w.heap.size w u ∧ Arr u w.heap.size 24 (h8 R) ∧ Arr u (w.heap.size + 1) 53 a.arr ∧ Arr u (w.heap.size + 2) 44 (wtA sp n cap o c)) u5 := ⟨B5, X5, Y5, V5⟩
        refine wpAnyH_ready (rs := [6]) (by kernel_rfl) (by simp) ?_
        refine AllReadyH.cons (o := ⟨_, _, _, _, _, _⟩) rfl (fun K hK => ?_) AllReadyH.nil
        go_simp
        refine (hFo.out u5 B5).mono ?_; rintro e u6 ⟨rfl, hb6⟩; have B6 := B5.trans (hb6.mono B5.size); have X6 := X5.below hb6 X5.lt; have Y6 := Y5.below hb6 Y5.lt; have V6 := V5.below hb6 V5.lt
        have G6 := G5.below hb6 G5.lt
        obtain ⟨ga6, hgq⟩ : ∃ g, g = ga5 := ⟨_, rfl⟩
        rw [← hgq] at G6 ⊢
        have hga6 : w.heap.size + 3 ≤ ga6 := by omega
        clear hgq
        go_wp2_with fail
        refine hK.out _ _ ⟨B6, X6, Y6, V6⟩ (fun hHeld => ?_)
        clear hK K
        try simp only [Act.put, List.setIfInBounds_toArray, List.set_cons_zero, List.set_cons_succ]
        refine wpAnyH_take (i := 7) (oi := ⟨_, _, _, _, _, _⟩) (v := ?_) rfl (by kernel_rfl) (by kernel_rfl) (by kernel_rfl) (fun _ _ _ h => h) (Or.inl ⟨by rfl, ?_⟩) (by assumption) ?_
        rotate_left
        · intro u hSw
          go_simp
          try (with_reducible rfl)
        try simp only [Act.put, List.setIfInBounds_toArray, List.set_cons_zero, List.set_cons_succ]
        refine wpAnyH_take (i := 8) (oi := ⟨_, _, _, _, _, _⟩) (v := ?_) rfl (by kernel_rfl) (by kernel_rfl) (by kernel_rfl) (fun _ _ _ h => h) (Or.inl ⟨by rfl, ?_⟩) (by assumption) ?_
        rotate_left
        · intro u hSw
          go_simp
          try (with_reducible rfl)
        try simp only [Act.put, List.setIfInBounds_toArray, List.set_cons_zero, List.set_cons_succ]
        refine wpAnyH_take (i := 9) (oi := ⟨_, _, _, _, _, _⟩) (v := ?_) rfl (by kernel_rfl) (by kernel_rfl) (by kernel_rfl) (fun _ _ _ h => h) (Or.inl ⟨by rfl, ?_⟩) (by assumption) ?_
        rotate_left
        · intro u hSw
          go_simp
          try (with_reducible rfl)
        try simp only [Act.put, List.setIfInBounds_toArray, List.set_cons_zero, List.set_cons_succ]
        refine wpAnyH_ready (rs := [11]) (by kernel_rfl) (by simp) ?_
        refine AllReadyH.cons (o := ⟨_, _, _, _, _, _⟩) rfl (fun K hK => ?_) AllReadyH.nil
        refine step_want rfl (wp_store_row 24 (.tmp 9) (.tmp 39) rfl ga6 (h8 F) rfl rfl 24 _ G6 (s24h8 hF) (by rw [h8_size, h8_size, hF, Z32_len]) (h8_one _) ?_)
        have Bf : Below w.heap.size w (u6.setRow ga6 (h8 F)) := below_setRow B6 (by omega) _
        have Xf := X6.setRowOther (k := ga6) (h8 F) (by omega)
        have Yf := Y6.setRowOther (k := ga6) (h8 F) (by omega)
        have Vf := V6.setRowOther (k := ga6) (h8 F) (by omega)
        have Gf := G6.setRow (h8 F)
        generalize u6.setRow ga6 (h8 F) = uf at *
        refine hK.out _ _ ⟨Bf, Xf, Yf, Vf⟩ (fun hHeld => ?_)
        clear hK K
        try simp only [Act.put, List.setIfInBounds_toArray, List.set_cons_zero, List.set_cons_succ]
        refine wpAnyH_take (i := 12) (oi := ⟨_, _, _, _, _, _⟩) (v := ?_) rfl (by kernel_rfl) (by kernel_rfl) (by kernel_rfl) (fun _ _ _ h => h) (Or.inl ⟨by rfl, ?_⟩) (by assumption) ?_
        rotate_left
        · intro u hSw
          go_simp
          try (with_reducible rfl)
        try simp only [Act.put, List.setIfInBounds_toArray, List.set_cons_zero, List.set_cons_succ]
        refine wpAnyH_done (by kernel_rfl) ?_ _
        go_upto_region 4 with fail
        refine wp_region_held_drew (S := fun u => Below uf.heap.size uf u) (by kernel_rfl) ((Below.refl _ _).drew) (fun hHeld => ?_)
        refine wpAnyH_take (i := 0) (oi := ⟨_, _, _, _, _, _⟩) (v := ?_) rfl (by kernel_rfl) (by kernel_rfl) (by kernel_rfl) (fun _ _ _ h => h) (Or.inl ⟨by rfl, ?_⟩) (by assumption) ?_
        rotate_left
        · intro u hSw
          go_simp
          try (with_reducible rfl)
        try simp only [Act.put, List.setIfInBounds_toArray, List.set_cons_zero, List.set_cons_succ]
        refine wpAnyH_take (i := 1) (oi := ⟨_, _, _, _, _, _⟩) (v := ?_) rfl (by kernel_rfl) (by kernel_rfl) (by kernel_rfl) (fun _ _ _ h => h) (Or.inl ⟨by rfl, ?_⟩) (by assumption) ?_
        rotate_left
        · intro u hSw
          go_simp
          try (with_reducible rfl)
        try simp only [Act.put, List.setIfInBounds_toArray, List.set_cons_zero, List.set_cons_succ]
        refine wpAnyH_take (i := 2) (oi := ⟨_, _, _, _, _, _⟩) (v := ?_) rfl (by kernel_rfl) (by kernel_rfl) (by kernel_rfl) (fun _ _ _ h => h) (Or.inl ⟨by rfl, ?_⟩) (by assumption) ?_
        rotate_left
        · intro u hSw
          go_simp
          try (with_reducible rfl)
        try simp only [Act.put, List.setIfInBounds_toArray, List.set_cons_zero, List.set_cons_succ]
        refine wpAnyH_take (i := 3) (oi := ⟨_, _, _, _, _, _⟩) (v := ?_) rfl (by kernel_rfl) (by kernel_rfl) (by kernel_rfl) (fun _ _ _ h => h) (Or.inl ⟨by rfl, ?_⟩) (by assumption) ?_
        rotate_left
        · intro u hSw
          go_simp
          try (with_reducible rfl)
        try simp only [Act.put, List.setIfInBounds_toArray, List.set_cons_zero, List.set_cons_succ]
        refine wpAnyH_take (i := 4) (oi := ⟨_, _, _, _, _, _⟩) rfl (by kernel_rfl) (by kernel_rfl) (by kernel_rfl) (fun _ _ _ h => h) (y24c' (by rfl) (.tmp 44) rfl (w.heap.size + 2) (0 + 1) rfl o hW.o32 (fun u hu => range_below (wt_o Vf.wt) hu Vf.lt)) (by assumption) ?_
        try simp only [Act.put, List.setIfInBounds_toArray, List.set_cons_zero, List.set_cons_succ]
        refine wpAnyH_take (i := 5) (oi := ⟨_, _, _, _, _, _⟩) rfl (by kernel_rfl) (by kernel_rfl) (by kernel_rfl) (fun _ _ _ h => h) (y24c' (by rfl) (.tmp 9) rfl ga6 0 rfl F hF (fun u hu => range_below Gf.range hu Gf.lt)) (by assumption) ?_
        try simp only [Act.put, List.setIfInBounds_toArray, List.set_cons_zero, List.set_cons_succ]
        refine wpAnyH_take (i := 6) (oi := ⟨_, _, _, _, _, _⟩) (v := ?_) rfl (by kernel_rfl) (by kernel_rfl) (by kernel_rfl) (fun _ _ _ h => h) (Or.inl ⟨by rfl, ?_⟩) (by assumption) ?_
        rotate_left
        · intro u hSw
          go_simp
          try (with_reducible rfl)
        try simp only [Act.put, List.setIfInBounds_toArray, List.set_cons_zero, List.set_cons_succ]
        refine wpAnyH_take (i := 7) (oi := ⟨_, _, _, _, _, _⟩) (v := ?_) rfl (by kernel_rfl) (by kernel_rfl) (by kernel_rfl) (fun _ _ _ h => h) (Or.inl ⟨by rfl, ?_⟩) (by assumption) ?_
        rotate_left
        · intro u hSw
          have cc := (hSw.cell (p := ⟨w.heap.size + 2, 33, none⟩) Vf.lt).trans (wt_c' Vf.wt hW.o32)
          go_simp
          try (with_reducible rfl)
        try simp only [Act.put, List.setIfInBounds_toArray, List.set_cons_zero, List.set_cons_succ]
        refine wpAnyH_take (i := 9) (oi := ⟨_, _, _, _, _, _⟩) rfl (by kernel_rfl) (by kernel_rfl) (by kernel_rfl) (fun _ _ _ h => h) (y24c' (by rfl) (.tmp 4) rfl w.heap.size 0 rfl R hR (fun u hu => range_below Xf.range hu Xf.lt)) (by assumption) ?_
        try simp only [Act.put, List.setIfInBounds_toArray, List.set_cons_zero, List.set_cons_succ]
        refine wpAnyH_ready (rs := [8]) (by kernel_rfl) (by simp) ?_
        refine AllReadyH.cons (o := ⟨_, _, _, _, _, _⟩) rfl (fun K hK => ?_) AllReadyH.nil
        go_simp
        refine (joined_any o F c _ hW.o32 hF).mono ?_; rintro e ug ⟨rfl, hbg⟩; have Ug := (Below.refl uf.heap.size uf).drew.trans (hbg.mono (by simp))
        go_wp2_with fail
        refine hK.out _ _ Ug (fun hHeld => ?_)
        clear hK K
        try simp only [Act.put, List.setIfInBounds_toArray, List.set_cons_zero, List.set_cons_succ]
        refine wpAnyH_take (i := 10) (oi := ⟨_, _, _, _, _, _⟩) (v := ?_) rfl (by kernel_rfl) (by kernel_rfl) (by kernel_rfl) (fun _ _ _ h => h) (Or.inl ⟨by rfl, ?_⟩) (by assumption) ?_
        rotate_left
        · intro u hSw
          go_simp
          try (with_reducible rfl)
        try simp only [Act.put, List.setIfInBounds_toArray, List.set_cons_zero, List.set_cons_succ]
        refine wpAnyH_take (i := 11) (oi := ⟨_, _, _, _, _, _⟩) (v := ?_) rfl (by kernel_rfl) (by kernel_rfl) (by kernel_rfl) (fun _ _ _ h => h) (Or.inl ⟨by rfl, ?_⟩) (by assumption) ?_
        rotate_left
        · intro u hSw
          go_simp
          try (with_reducible rfl)
        try simp only [Act.put, List.setIfInBounds_toArray, List.set_cons_zero, List.set_cons_succ]
        refine wpAnyH_take (i := 12) (oi := ⟨_, _, _, _, _, _⟩) (v := ?_) rfl (by kernel_rfl) (by kernel_rfl) (by kernel_rfl) (fun _ _ _ h => h) (Or.inl ⟨by rfl, ?_⟩) (by assumption) ?_
        rotate_left
        · intro u hSw
          go_simp
          try (with_reducible rfl)
        try simp only [Act.put, List.setIfInBounds_toArray, List.set_cons_zero, List.set_cons_succ]
        refine wpAnyH_done (by kernel_rfl) ?_ _
        go_wp2_with fail
        go_ret
        exact ⟨congrArg (fun b => Ending.returned (Value.bool b)) hfin.out, Bf.trans (Ug.mono Bf.size)⟩
    · go_simp
      go_wp2_with fail
      have hb7 := alloc_bel' u1 (.cells (h8 Z32) 24)
      have B7 := B1.trans (hb7.mono B1.size)
      have X7 := X1.below hb7 X1.lt
      have Y7 := Y1.below hb7 Y1.lt
      have V7 := V1.below hb7 V1.lt
      have G7 := Arr.new u1 24 (h8 Z32)
      have hS7 := hS1.below (hb7.mono hsz1)
      have hga7 : w.heap.size + 3 ≤ u1.heap.size := by have := V1.lt; omega
      have hsz7 : u1.heap.size ≤ (u1.alloc (.cells (h8 Z32) 24)).heap.size := by simp
      refine hK.out _ _ ⟨B7, X7, Y7, V7⟩ (fun hHeld => ?_)
      clear hK K
      try simp only [Act.put, List.setIfInBounds_toArray, List.set_cons_zero, List.set_cons_succ]
      rw [← h8_Z]
      obtain ⟨ga7, hgae7⟩ : ∃ g, g = u1.heap.size := ⟨_, rfl⟩
      rw [← hgae7] at G7 hga7 ⊢
      clear hgae7
      generalize u1.alloc (.cells (h8 Z32) 24) = u7 at *
      have hHeld : (fun u => Below w.heap.size w u ∧ Arr u w.heap.size 24 (h8 R) ∧ Arr u (w.heap.size + 1) 53 a.arr ∧ Arr u (w.heap.size + 2) 44 (wtA sp n cap o c)) u7 := ⟨B7, X7, Y7, V7⟩
      refine wpAnyH_ready (rs := [3]) (by kernel_rfl) (by simp) ?_
      refine AllReadyH.cons (o := ⟨_, _, _, _, _, _⟩) rfl (fun K hK => ?_) AllReadyH.nil
      go_simp
      refine (refLeaf_bs s1 16 k1 _ (oub a) _ hS7 (by omega)).mono ?_; rintro e u8 ⟨rfl, hb8⟩; have B8 := B7.trans (hb8.mono B7.size); have X8 := X7.below hb8 X7.lt; have Y8 := Y7.below hb8 Y7.lt; have V8 := V7.below hb8 V7.lt
      have G8 := G7.below hb8 G7.lt
      obtain ⟨ga8, hgq⟩ : ∃ g, g = ga7 := ⟨_, rfl⟩
      rw [← hgq] at G8 ⊢
      have hga8 : w.heap.size + 3 ≤ ga8 := by omega
      clear hgq
      go_wp2_with fail
      refine hK.out _ _ ⟨B8, X8, Y8, V8⟩ (fun hHeld => ?_)
      clear hK K
      try simp only [Act.put, List.setIfInBounds_toArray, List.set_cons_zero, List.set_cons_succ]
      refine wpAnyH_ready (rs := [6]) (by kernel_rfl) (by simp) ?_
      refine AllReadyH.cons (o := ⟨_, _, _, _, _, _⟩) rfl (fun K hK => ?_) AllReadyH.nil
      go_simp
      refine (hFo.out u8 B8).mono ?_; rintro e u9 ⟨rfl, hb9⟩; have B9 := B8.trans (hb9.mono B8.size); have X9 := X8.below hb9 X8.lt; have Y9 := Y8.below hb9 Y8.lt; have V9 := V8.below hb9 V8.lt
      have G9 := G8.below hb9 G8.lt
      obtain ⟨ga9, hgq⟩ : ∃ g, g = ga8 := ⟨_, rfl⟩
      rw [← hgq] at G9 ⊢
      have hga9 : w.heap.size + 3 ≤ ga9 := by omega
      clear hgq
      go_wp2_with fail
      refine hK.out _ _ ⟨B9, X9, Y9, V9⟩ (fun hHeld => ?_)
      clear hK K
      try simp only [Act.put, List.setIfInBounds_toArray, List.set_cons_zero, List.set_cons_succ]
      refine wpAnyH_take (i := 7) (oi := ⟨_, _, _, _, _, _⟩) (v := ?_) rfl (by kernel_rfl) (by kernel_rfl) (by kernel_rfl) (fun _ _ _ h => h) (Or.inl ⟨by rfl, ?_⟩) (by assumption) ?_
      rotate_left
      · intro u hSw
        go_simp
        try (with_reducible rfl)
      try simp only [Act.put, List.setIfInBounds_toArray, List.set_cons_zero, List.set_cons_succ]
      refine wpAnyH_take (i := 8) (oi := ⟨_, _, _, _, _, _⟩) (v := ?_) rfl (by kernel_rfl) (by kernel_rfl) (by kernel_rfl) (fun _ _ _ h => h) (Or.inl ⟨by rfl, ?_⟩) (by assumption) ?_
      rotate_left
      · intro u hSw
        go_simp
        try (with_reducible rfl)
      try simp only [Act.put, List.setIfInBounds_toArray, List.set_cons_zero, List.set_cons_succ]
      refine wpAnyH_take (i := 9) (oi := ⟨_, _, _, _, _, _⟩) (v := ?_) rfl (by kernel_rfl) (by kernel_rfl) (by kernel_rfl) (fun _ _ _ h => h) (Or.inl ⟨by rfl, ?_⟩) (by assumption) ?_
      rotate_left
      · intro u hSw
        go_simp
        try (with_reducible rfl)
      try simp only [Act.put, List.setIfInBounds_toArray, List.set_cons_zero, List.set_cons_succ]
      refine wpAnyH_ready (rs := [11]) (by kernel_rfl) (by simp) ?_
      refine AllReadyH.cons (o := ⟨_, _, _, _, _, _⟩) rfl (fun K hK => ?_) AllReadyH.nil
      refine step_want rfl (wp_store_row 24 (.tmp 9) (.tmp 39) rfl ga9 (h8 F) rfl rfl 24 _ G9 (s24h8 hF) (by rw [h8_size, h8_size, hF, Z32_len]) (h8_one _) ?_)
      have Bf : Below w.heap.size w (u9.setRow ga9 (h8 F)) := below_setRow B9 (by omega) _
      have Xf := X9.setRowOther (k := ga9) (h8 F) (by omega)
      have Yf := Y9.setRowOther (k := ga9) (h8 F) (by omega)
      have Vf := V9.setRowOther (k := ga9) (h8 F) (by omega)
      have Gf := G9.setRow (h8 F)
      generalize u9.setRow ga9 (h8 F) = uf at *
      refine hK.out _ _ ⟨Bf, Xf, Yf, Vf⟩ (fun hHeld => ?_)
      clear hK K
      try simp only [Act.put, List.setIfInBounds_toArray, List.set_cons_zero, List.set_cons_succ]
      refine wpAnyH_take (i := 12) (oi := ⟨_, _, _, _, _, _⟩) (v := ?_) rfl (by kernel_rfl) (by kernel_rfl) (by kernel_rfl) (fun _ _ _ h => h) (Or.inl ⟨by rfl, ?_⟩) (by assumption) ?_
      rotate_left
      · intro u hSw
        go_simp
        try (with_reducible rfl)
      try simp only [Act.put, List.setIfInBounds_toArray, List.set_cons_zero, List.set_cons_succ]
      refine wpAnyH_done (by kernel_rfl) ?_ _
      go_upto_region 4 with fail
      refine wp_region_held_drew (S := fun u => Below uf.heap.size uf u) (by kernel_rfl) ((Below.refl _ _).drew) (fun hHeld => ?_)
      refine wpAnyH_take (i := 0) (oi := ⟨_, _, _, _, _, _⟩) (v := ?_) rfl (by kernel_rfl) (by kernel_rfl) (by kernel_rfl) (fun _ _ _ h => h) (Or.inl ⟨by rfl, ?_⟩) (by assumption) ?_
      rotate_left
      · intro u hSw
        go_simp
        try (with_reducible rfl)
      try simp only [Act.put, List.setIfInBounds_toArray, List.set_cons_zero, List.set_cons_succ]
      refine wpAnyH_take (i := 1) (oi := ⟨_, _, _, _, _, _⟩) (v := ?_) rfl (by kernel_rfl) (by kernel_rfl) (by kernel_rfl) (fun _ _ _ h => h) (Or.inl ⟨by rfl, ?_⟩) (by assumption) ?_
      rotate_left
      · intro u hSw
        go_simp
        try (with_reducible rfl)
      try simp only [Act.put, List.setIfInBounds_toArray, List.set_cons_zero, List.set_cons_succ]
      refine wpAnyH_take (i := 2) (oi := ⟨_, _, _, _, _, _⟩) (v := ?_) rfl (by kernel_rfl) (by kernel_rfl) (by kernel_rfl) (fun _ _ _ h => h) (Or.inl ⟨by rfl, ?_⟩) (by assumption) ?_
      rotate_left
      · intro u hSw
        go_simp
        try (with_reducible rfl)
      try simp only [Act.put, List.setIfInBounds_toArray, List.set_cons_zero, List.set_cons_succ]
      refine wpAnyH_take (i := 3) (oi := ⟨_, _, _, _, _, _⟩) (v := ?_) rfl (by kernel_rfl) (by kernel_rfl) (by kernel_rfl) (fun _ _ _ h => h) (Or.inl ⟨by rfl, ?_⟩) (by assumption) ?_
      rotate_left
      · intro u hSw
        go_simp
        try (with_reducible rfl)
      try simp only [Act.put, List.setIfInBounds_toArray, List.set_cons_zero, List.set_cons_succ]
      refine wpAnyH_take (i := 4) (oi := ⟨_, _, _, _, _, _⟩) rfl (by kernel_rfl) (by kernel_rfl) (by kernel_rfl) (fun _ _ _ h => h) (y24c' (by rfl) (.tmp 44) rfl (w.heap.size + 2) (0 + 1) rfl o hW.o32 (fun u hu => range_below (wt_o Vf.wt) hu Vf.lt)) (by assumption) ?_
      try simp only [Act.put, List.setIfInBounds_toArray, List.set_cons_zero, List.set_cons_succ]
      refine wpAnyH_take (i := 5) (oi := ⟨_, _, _, _, _, _⟩) rfl (by kernel_rfl) (by kernel_rfl) (by kernel_rfl) (fun _ _ _ h => h) (y24c' (by rfl) (.tmp 9) rfl ga9 0 rfl F hF (fun u hu => range_below Gf.range hu Gf.lt)) (by assumption) ?_
      try simp only [Act.put, List.setIfInBounds_toArray, List.set_cons_zero, List.set_cons_succ]
      refine wpAnyH_take (i := 6) (oi := ⟨_, _, _, _, _, _⟩) (v := ?_) rfl (by kernel_rfl) (by kernel_rfl) (by kernel_rfl) (fun _ _ _ h => h) (Or.inl ⟨by rfl, ?_⟩) (by assumption) ?_
      rotate_left
      · intro u hSw
        go_simp
        try (with_reducible rfl)
      try simp only [Act.put, List.setIfInBounds_toArray, List.set_cons_zero, List.set_cons_succ]
      refine wpAnyH_take (i := 7) (oi := ⟨_, _, _, _, _, _⟩) (v := ?_) rfl (by kernel_rfl) (by kernel_rfl) (by kernel_rfl) (fun _ _ _ h => h) (Or.inl ⟨by rfl, ?_⟩) (by assumption) ?_
      rotate_left
      · intro u hSw
        have cc := (hSw.cell (p := ⟨w.heap.size + 2, 33, none⟩) Vf.lt).trans (wt_c' Vf.wt hW.o32)
        go_simp
        try (with_reducible rfl)
      try simp only [Act.put, List.setIfInBounds_toArray, List.set_cons_zero, List.set_cons_succ]
      refine wpAnyH_take (i := 9) (oi := ⟨_, _, _, _, _, _⟩) rfl (by kernel_rfl) (by kernel_rfl) (by kernel_rfl) (fun _ _ _ h => h) (y24c' (by rfl) (.tmp 4) rfl w.heap.size 0 rfl R hR (fun u hu => range_below Xf.range hu Xf.lt)) (by assumption) ?_
      try simp only [Act.put, List.setIfInBounds_toArray, List.set_cons_zero, List.set_cons_succ]
      refine wpAnyH_ready (rs := [8]) (by kernel_rfl) (by simp) ?_
      refine AllReadyH.cons (o := ⟨_, _, _, _, _, _⟩) rfl (fun K hK => ?_) AllReadyH.nil
      go_simp
      refine (joined_any o F c _ hW.o32 hF).mono ?_; rintro e ug ⟨rfl, hbg⟩; have Ug := (Below.refl uf.heap.size uf).drew.trans (hbg.mono (by simp))
      go_wp2_with fail
      refine hK.out _ _ Ug (fun hHeld => ?_)
      clear hK K
      try simp only [Act.put, List.setIfInBounds_toArray, List.set_cons_zero, List.set_cons_succ]
      refine wpAnyH_take (i := 10) (oi := ⟨_, _, _, _, _, _⟩) (v := ?_) rfl (by kernel_rfl) (by kernel_rfl) (by kernel_rfl) (fun _ _ _ h => h) (Or.inl ⟨by rfl, ?_⟩) (by assumption) ?_
      rotate_left
      · intro u hSw
        go_simp
        try (with_reducible rfl)
      try simp only [Act.put, List.setIfInBounds_toArray, List.set_cons_zero, List.set_cons_succ]
      refine wpAnyH_take (i := 11) (oi := ⟨_, _, _, _, _, _⟩) (v := ?_) rfl (by kernel_rfl) (by kernel_rfl) (by kernel_rfl) (fun _ _ _ h => h) (Or.inl ⟨by rfl, ?_⟩) (by assumption) ?_
      rotate_left
      · intro u hSw
        go_simp
        try (with_reducible rfl)
      try simp only [Act.put, List.setIfInBounds_toArray, List.set_cons_zero, List.set_cons_succ]
      refine wpAnyH_take (i := 12) (oi := ⟨_, _, _, _, _, _⟩) (v := ?_) rfl (by kernel_rfl) (by kernel_rfl) (by kernel_rfl) (fun _ _ _ h => h) (Or.inl ⟨by rfl, ?_⟩) (by assumption) ?_
      rotate_left
      · intro u hSw
        go_simp
        try (with_reducible rfl)
      try simp only [Act.put, List.setIfInBounds_toArray, List.set_cons_zero, List.set_cons_succ]
      refine wpAnyH_done (by kernel_rfl) ?_ _
      go_wp2_with fail
      go_ret
      exact ⟨congrArg (fun b => Ending.returned (Value.bool b)) hfin.out, Bf.trans (Ug.mono Bf.size)⟩
  · go_simp
    go_wp2_with fail
    have hb10 := alloc_bel' u0 (.cells (h8 Z32) 24)
    have B10 := B0.trans (hb10.mono B0.size)
    have X10 := X0.below hb10 X0.lt
    have Y10 := Y0.below hb10 Y0.lt
    have V10 := V0.below hb10 V0.lt
    have G10 := Arr.new u0 24 (h8 Z32)
    have hga10 : w.heap.size + 3 ≤ u0.heap.size := by have := V0.lt; omega
    have hsz10 : u0.heap.size ≤ (u0.alloc (.cells (h8 Z32) 24)).heap.size := by simp
    refine hK.out _ _ ⟨B10, X10, Y10, V10⟩ (fun hHeld => ?_)
    clear hK K
    try simp only [Act.put, List.setIfInBounds_toArray, List.set_cons_zero, List.set_cons_succ]
    rw [← h8_Z]
    obtain ⟨ga10, hgae10⟩ : ∃ g, g = u0.heap.size := ⟨_, rfl⟩
    rw [← hgae10] at G10 hga10 ⊢
    clear hgae10
    generalize u0.alloc (.cells (h8 Z32) 24) = u10 at *
    have hHeld : (fun u => Below w.heap.size w u ∧ Arr u w.heap.size 24 (h8 R) ∧ Arr u (w.heap.size + 1) 53 a.arr ∧ Arr u (w.heap.size + 2) 44 (wtA sp n cap o c)) u10 := ⟨B10, X10, Y10, V10⟩
    refine wpAnyH_ready (rs := [2]) (by kernel_rfl) (by simp) ?_
    refine AllReadyH.cons (o := ⟨_, _, _, _, _, _⟩) rfl (fun K hK => ?_) AllReadyH.nil
    go_simp
    refine (refOuBytes_any a _).mono ?_; rintro e u11 ⟨v1, rfl, hown1, hb11⟩; have B11 := B10.trans (hb11.mono B10.size); have X11 := X10.below hb11 X10.lt; have Y11 := Y10.below hb11 Y10.lt; have V11 := V10.below hb11 V10.lt; obtain ⟨s1, k1, rfl, hS11, -⟩ := own_bs hown1 (oub_bts a) (by omega); have hsz11 : u11.heap.size ≤ u11.heap.size := Nat.le_refl _
    have G11 := G10.below hb11 G10.lt
    obtain ⟨ga11, hgq⟩ : ∃ g, g = ga10 := ⟨_, rfl⟩
    rw [← hgq] at G11 ⊢
    have hga11 : w.heap.size + 3 ≤ ga11 := by omega
    clear hgq
    go_wp2_with fail
    refine hK.out _ _ ⟨B11, X11, Y11, V11⟩ (fun hHeld => ?_)
    clear hK K
    try simp only [Act.put, List.setIfInBounds_toArray, List.set_cons_zero, List.set_cons_succ]
    refine wpAnyH_ready (rs := [3]) (by kernel_rfl) (by simp) ?_
    refine AllReadyH.cons (o := ⟨_, _, _, _, _, _⟩) rfl (fun K hK => ?_) AllReadyH.nil
    go_simp
    refine (refLeaf_bs s1 16 k1 _ (oub a) _ hS11 (by omega)).mono ?_; rintro e u12 ⟨rfl, hb12⟩; have B12 := B11.trans (hb12.mono B11.size); have X12 := X11.below hb12 X11.lt; have Y12 := Y11.below hb12 Y11.lt; have V12 := V11.below hb12 V11.lt
    have G12 := G11.below hb12 G11.lt
    obtain ⟨ga12, hgq⟩ : ∃ g, g = ga11 := ⟨_, rfl⟩
    rw [← hgq] at G12 ⊢
    have hga12 : w.heap.size + 3 ≤ ga12 := by omega
    clear hgq
    go_wp2_with fail
    refine hK.out _ _ ⟨B12, X12, Y12, V12⟩ (fun hHeld => ?_)
    clear hK K
    try simp only [Act.put, List.setIfInBounds_toArray, List.set_cons_zero, List.set_cons_succ]
    refine wpAnyH_ready (rs := [6]) (by kernel_rfl) (by simp) ?_
    refine AllReadyH.cons (o := ⟨_, _, _, _, _, _⟩) rfl (fun K hK => ?_) AllReadyH.nil
    go_simp
    refine (hFo.out u12 B12).mono ?_; rintro e u13 ⟨rfl, hb13⟩; have B13 := B12.trans (hb13.mono B12.size); have X13 := X12.below hb13 X12.lt; have Y13 := Y12.below hb13 Y12.lt; have V13 := V12.below hb13 V12.lt
    have G13 := G12.below hb13 G12.lt
    obtain ⟨ga13, hgq⟩ : ∃ g, g = ga12 := ⟨_, rfl⟩
    rw [← hgq] at G13 ⊢
    have hga13 : w.heap.size + 3 ≤ ga13 := by omega
    clear hgq
    go_wp2_with fail
    refine hK.out _ _ ⟨B13, X13, Y13, V13⟩ (fun hHeld => ?_)
    clear hK K
    try simp only [Act.put, List.setIfInBounds_toArray, List.set_cons_zero, List.set_cons_succ]
    refine wpAnyH_take (i := 7) (oi := ⟨_, _, _, _, _, _⟩) (v := ?_) rfl (by kernel_rfl) (by kernel_rfl) (by kernel_rfl) (fun _ _ _ h => h) (Or.inl ⟨by rfl, ?_⟩) (by assumption) ?_
    rotate_left
    · intro u hSw
      go_simp
      try (with_reducible rfl)
    try simp only [Act.put, List.setIfInBounds_toArray, List.set_cons_zero, List.set_cons_succ]
    refine wpAnyH_take (i := 8) (oi := ⟨_, _, _, _, _, _⟩) (v := ?_) rfl (by kernel_rfl) (by kernel_rfl) (by kernel_rfl) (fun _ _ _ h => h) (Or.inl ⟨by rfl, ?_⟩) (by assumption) ?_
    rotate_left
    · intro u hSw
      go_simp
      try (with_reducible rfl)
    try simp only [Act.put, List.setIfInBounds_toArray, List.set_cons_zero, List.set_cons_succ]
    refine wpAnyH_take (i := 9) (oi := ⟨_, _, _, _, _, _⟩) (v := ?_) rfl (by kernel_rfl) (by kernel_rfl) (by kernel_rfl) (fun _ _ _ h => h) (Or.inl ⟨by rfl, ?_⟩) (by assumption) ?_
    rotate_left
    · intro u hSw
      go_simp
      try (with_reducible rfl)
    try simp only [Act.put, List.setIfInBounds_toArray, List.set_cons_zero, List.set_cons_succ]
    refine wpAnyH_ready (rs := [11]) (by kernel_rfl) (by simp) ?_
    refine AllReadyH.cons (o := ⟨_, _, _, _, _, _⟩) rfl (fun K hK => ?_) AllReadyH.nil
    refine step_want rfl (wp_store_row 24 (.tmp 9) (.tmp 39) rfl ga13 (h8 F) rfl rfl 24 _ G13 (s24h8 hF) (by rw [h8_size, h8_size, hF, Z32_len]) (h8_one _) ?_)
    have Bf : Below w.heap.size w (u13.setRow ga13 (h8 F)) := below_setRow B13 (by omega) _
    have Xf := X13.setRowOther (k := ga13) (h8 F) (by omega)
    have Yf := Y13.setRowOther (k := ga13) (h8 F) (by omega)
    have Vf := V13.setRowOther (k := ga13) (h8 F) (by omega)
    have Gf := G13.setRow (h8 F)
    generalize u13.setRow ga13 (h8 F) = uf at *
    refine hK.out _ _ ⟨Bf, Xf, Yf, Vf⟩ (fun hHeld => ?_)
    clear hK K
    try simp only [Act.put, List.setIfInBounds_toArray, List.set_cons_zero, List.set_cons_succ]
    refine wpAnyH_take (i := 12) (oi := ⟨_, _, _, _, _, _⟩) (v := ?_) rfl (by kernel_rfl) (by kernel_rfl) (by kernel_rfl) (fun _ _ _ h => h) (Or.inl ⟨by rfl, ?_⟩) (by assumption) ?_
    rotate_left
    · intro u hSw
      go_simp
      try (with_reducible rfl)
    try simp only [Act.put, List.setIfInBounds_toArray, List.set_cons_zero, List.set_cons_succ]
    refine wpAnyH_done (by kernel_rfl) ?_ _
    go_upto_region 4 with fail
    refine wp_region_held_drew (S := fun u => Below uf.heap.size uf u) (by kernel_rfl) ((Below.refl _ _).drew) (fun hHeld => ?_)
    refine wpAnyH_take (i := 0) (oi := ⟨_, _, _, _, _, _⟩) (v := ?_) rfl (by kernel_rfl) (by kernel_rfl) (by kernel_rfl) (fun _ _ _ h => h) (Or.inl ⟨by rfl, ?_⟩) (by assumption) ?_
    rotate_left
    · intro u hSw
      go_simp
      try (with_reducible rfl)
    try simp only [Act.put, List.setIfInBounds_toArray, List.set_cons_zero, List.set_cons_succ]
    refine wpAnyH_take (i := 1) (oi := ⟨_, _, _, _, _, _⟩) (v := ?_) rfl (by kernel_rfl) (by kernel_rfl) (by kernel_rfl) (fun _ _ _ h => h) (Or.inl ⟨by rfl, ?_⟩) (by assumption) ?_
    rotate_left
    · intro u hSw
      go_simp
      try (with_reducible rfl)
    try simp only [Act.put, List.setIfInBounds_toArray, List.set_cons_zero, List.set_cons_succ]
    refine wpAnyH_take (i := 2) (oi := ⟨_, _, _, _, _, _⟩) (v := ?_) rfl (by kernel_rfl) (by kernel_rfl) (by kernel_rfl) (fun _ _ _ h => h) (Or.inl ⟨by rfl, ?_⟩) (by assumption) ?_
    rotate_left
    · intro u hSw
      go_simp
      try (with_reducible rfl)
    try simp only [Act.put, List.setIfInBounds_toArray, List.set_cons_zero, List.set_cons_succ]
    refine wpAnyH_take (i := 3) (oi := ⟨_, _, _, _, _, _⟩) (v := ?_) rfl (by kernel_rfl) (by kernel_rfl) (by kernel_rfl) (fun _ _ _ h => h) (Or.inl ⟨by rfl, ?_⟩) (by assumption) ?_
    rotate_left
    · intro u hSw
      go_simp
      try (with_reducible rfl)
    try simp only [Act.put, List.setIfInBounds_toArray, List.set_cons_zero, List.set_cons_succ]
    refine wpAnyH_take (i := 4) (oi := ⟨_, _, _, _, _, _⟩) rfl (by kernel_rfl) (by kernel_rfl) (by kernel_rfl) (fun _ _ _ h => h) (y24c' (by rfl) (.tmp 44) rfl (w.heap.size + 2) (0 + 1) rfl o hW.o32 (fun u hu => range_below (wt_o Vf.wt) hu Vf.lt)) (by assumption) ?_
    try simp only [Act.put, List.setIfInBounds_toArray, List.set_cons_zero, List.set_cons_succ]
    refine wpAnyH_take (i := 5) (oi := ⟨_, _, _, _, _, _⟩) rfl (by kernel_rfl) (by kernel_rfl) (by kernel_rfl) (fun _ _ _ h => h) (y24c' (by rfl) (.tmp 9) rfl ga13 0 rfl F hF (fun u hu => range_below Gf.range hu Gf.lt)) (by assumption) ?_
    try simp only [Act.put, List.setIfInBounds_toArray, List.set_cons_zero, List.set_cons_succ]
    refine wpAnyH_take (i := 6) (oi := ⟨_, _, _, _, _, _⟩) (v := ?_) rfl (by kernel_rfl) (by kernel_rfl) (by kernel_rfl) (fun _ _ _ h => h) (Or.inl ⟨by rfl, ?_⟩) (by assumption) ?_
    rotate_left
    · intro u hSw
      go_simp
      try (with_reducible rfl)
    try simp only [Act.put, List.setIfInBounds_toArray, List.set_cons_zero, List.set_cons_succ]
    refine wpAnyH_take (i := 7) (oi := ⟨_, _, _, _, _, _⟩) (v := ?_) rfl (by kernel_rfl) (by kernel_rfl) (by kernel_rfl) (fun _ _ _ h => h) (Or.inl ⟨by rfl, ?_⟩) (by assumption) ?_
    rotate_left
    · intro u hSw
      have cc := (hSw.cell (p := ⟨w.heap.size + 2, 33, none⟩) Vf.lt).trans (wt_c' Vf.wt hW.o32)
      go_simp
      try (with_reducible rfl)
    try simp only [Act.put, List.setIfInBounds_toArray, List.set_cons_zero, List.set_cons_succ]
    refine wpAnyH_take (i := 9) (oi := ⟨_, _, _, _, _, _⟩) rfl (by kernel_rfl) (by kernel_rfl) (by kernel_rfl) (fun _ _ _ h => h) (y24c' (by rfl) (.tmp 4) rfl w.heap.size 0 rfl R hR (fun u hu => range_below Xf.range hu Xf.lt)) (by assumption) ?_
    try simp only [Act.put, List.setIfInBounds_toArray, List.set_cons_zero, List.set_cons_succ]
    refine wpAnyH_ready (rs := [8]) (by kernel_rfl) (by simp) ?_
    refine AllReadyH.cons (o := ⟨_, _, _, _, _, _⟩) rfl (fun K hK => ?_) AllReadyH.nil
    go_simp
    refine (joined_any o F c _ hW.o32 hF).mono ?_; rintro e ug ⟨rfl, hbg⟩; have Ug := (Below.refl uf.heap.size uf).drew.trans (hbg.mono (by simp))
    go_wp2_with fail
    refine hK.out _ _ Ug (fun hHeld => ?_)
    clear hK K
    try simp only [Act.put, List.setIfInBounds_toArray, List.set_cons_zero, List.set_cons_succ]
    refine wpAnyH_take (i := 10) (oi := ⟨_, _, _, _, _, _⟩) (v := ?_) rfl (by kernel_rfl) (by kernel_rfl) (by kernel_rfl) (fun _ _ _ h => h) (Or.inl ⟨by rfl, ?_⟩) (by assumption) ?_
    rotate_left
    · intro u hSw
      go_simp
      try (with_reducible rfl)
    try simp only [Act.put, List.setIfInBounds_toArray, List.set_cons_zero, List.set_cons_succ]
    refine wpAnyH_take (i := 11) (oi := ⟨_, _, _, _, _, _⟩) (v := ?_) rfl (by kernel_rfl) (by kernel_rfl) (by kernel_rfl) (fun _ _ _ h => h) (Or.inl ⟨by rfl, ?_⟩) (by assumption) ?_
    rotate_left
    · intro u hSw
      go_simp
      try (with_reducible rfl)
    try simp only [Act.put, List.setIfInBounds_toArray, List.set_cons_zero, List.set_cons_succ]
    refine wpAnyH_take (i := 12) (oi := ⟨_, _, _, _, _, _⟩) (v := ?_) rfl (by kernel_rfl) (by kernel_rfl) (by kernel_rfl) (fun _ _ _ h => h) (Or.inl ⟨by rfl, ?_⟩) (by assumption) ?_
    rotate_left
    · intro u hSw
      go_simp
      try (with_reducible rfl)
    try simp only [Act.put, List.setIfInBounds_toArray, List.set_cons_zero, List.set_cons_succ]
    refine wpAnyH_done (by kernel_rfl) ?_ _
    go_wp2_with fail
    go_ret
    exact ⟨congrArg (fun b => Ending.returned (Value.bool b)) hfin.out, Bf.trans (Ug.mono Bf.size)⟩
end Go.Proofs.Ytlebojbfcolkhaa
