/- Layer msg: the words of a message. -/
import Derived.Test.YtoanfiikeeacdaaE
namespace Go.Proofs.Ytoanfiikeeacdaa
set_option linter.unusedSectionVars false
set_option maxHeartbeats 1000000
open Go.RowKit
set_option maxRecDepth 100000
set_option linter.unusedVariables false
set_option linter.unusedSimpArgs false

variable [DecidableEq Mg]
theorem s41u (f : Nat → Int) : (Try.prog.info? 41).map (·.size) = some (u64s 13 f).size := by rw [u64s_size]; exact size41
theorem st41n {ops : Array Oper} {rest : List Oper} {o : Oper} {a : Act} {Q : Exit → Act → World → Prop} (hgd : o.guard = none) (x y : Operand) (ho : o.op = .store 41 x y) (W : World) (g : Nat) (hgW : W.heap.size = g) {z : Array Value} (hz : z.size = 13)
    (C : Array Value) (hx : a.eval x = .pointer (some ⟨g, 0, none⟩)) (hy : a.eval y = .agg C) (hC : C.size = 13) (h1 : C.all (·.oneCell') = true)
    (h : wpList Try.prog ops Q rest (a.put o.dst undef) (W.alloc (.cells C 41))) : wpList Try.prog ops Q (o :: rest) a (W.alloc (.cells z 41)) := by
  subst hgW
  exact wpList_store_new W z 41 hgd 41 x y ho C hx hy (by rw [hC]; exact size41) (by rw [hz, hC]) h1 h
theorem wordsOf_size (H : Nat → Int) : (wordsOf H).size = 4 := u64s_size _ _
/-- The first five, then as many of the sums' as are laid. -/
def w5 (m : Mg) : Array Value := #[.int .u64 m.kd, .int .u64 m.fr, .int .u64 m.tw, .int .u64 m.am, .int .u64 m.no, .int .u64 0, .int .u64 0, .int .u64 0, .int .u64 0, .int .u64 0, .int .u64 0, .int .u64 0, .int .u64 0]
def wk (m : Mg) (k j : Nat) : Int := if j < 5 then w13 m j else if j < 9 then (if j - 5 < k then w13 m j else 0) else (if j - 9 < k then w13 m j else 0)
theorem w5_wk (m : Mg) : w5 m = u64s 13 (wk m 0) := by
  refine arr_eq (f := fun t => .int .u64 (wk m 0 t)) rfl fun t ht => ?_
  match t, ht with
  | 0, _ => rfl
  | 1, _ => rfl
  | 2, _ => rfl
  | 3, _ => rfl
  | 4, _ => rfl
  | 5, _ => rfl
  | 6, _ => rfl
  | 7, _ => rfl
  | 8, _ => rfl
  | 9, _ => rfl
  | 10, _ => rfl
  | 11, _ => rfl
  | 12, _ => rfl
theorem wk_all (m : Mg) : u64s 13 (wk m 4) = u64s 13 (w13 m) := by
  refine arr_eq (f := fun t => .int .u64 (w13 m t)) (u64s_size _ _) fun t ht => ?_
  rw [u64s_get ht]
  unfold wk
  by_cases h1 : t < 5
  · rw [if_pos h1]
  · rw [if_neg h1]
    by_cases h2 : t < 9
    · rw [if_pos h2, if_pos (by omega)]
    · rw [if_neg h2, if_pos (by omega)]
theorem w13_ky (m : Mg) {k : Nat} (h : k < 4) : w13 m (5 + k) = wacc (bat m.ky) k 8 := by
  match k, h with
  | 0, _ => rfl
  | 1, _ => rfl
  | 2, _ => rfl
  | 3, _ => rfl
theorem w13_nx (m : Mg) (k : Nat) : w13 m (9 + k) = wacc (bat m.nx) k 8 := by rw [Nat.add_comm]; rfl
theorem wk_step (m : Mg) {k : Nat} (h : k < 4) : ((u64s 13 (wk m k)).setIfInBounds (5 + k) (.int .u64 (wacc (bat m.ky) k 8))).setIfInBounds (9 + k) (.int .u64 (wacc (bat m.nx) k 8)) = u64s 13 (wk m (k + 1)) := by
  refine arr_eq (f := fun t => .int .u64 (wk m (k + 1) t)) (by simp [u64s_size]) fun t ht => ?_
  rw [Array.getElem?_setIfInBounds]
  by_cases e : 9 + k = t
  · subst e
    rw [if_pos rfl, if_pos (by simp [u64s_size]; omega)]
    simp only [wk]
    rw [if_neg (by omega), if_neg (by omega), if_pos (by omega), w13_nx]
  · rw [if_neg e, Array.getElem?_setIfInBounds]
    by_cases e2 : 5 + k = t
    · subst e2
      rw [if_pos rfl, if_pos (by simp [u64s_size]; omega)]
      simp only [wk]
      rw [if_neg (by omega), if_pos (by omega), if_pos (by omega), w13_ky m h]
    · rw [if_neg e2, u64s_get ht]
      congr 2
      unfold wk
      by_cases h1 : t < 5
      · rw [if_pos h1, if_pos h1]
      · rw [if_neg h1, if_neg h1]
        by_cases h2 : t < 9
        · rw [if_pos h2, if_pos h2]
          by_cases h3 : t - 5 < k
          · rw [if_pos h3, if_pos (by omega)]
          · rw [if_neg h3, if_neg (by omega)]
        · rw [if_neg h2, if_neg h2]
          by_cases h3 : t - 9 < k
          · rw [if_pos h3, if_pos (by omega)]
          · rw [if_neg h3, if_neg (by omega)]
set_option maxHeartbeats 4000000 in
theorem wordsOf_any (m : Mg) (w : World) (hm : MgOK m) :
    Calls Try.prog 16 #[.agg m.arr] w fun e w' => e = .returned (.agg (u64s 13 (w13 m))) ∧ Below w.heap.size w w' := by
  have A0 := (Arr.new w 27 m.arr).alloc (.cells #[.int .u64 0, .int .u64 0, .int .u64 0, .int .u64 0, .int .u64 0, .int .u64 0, .int .u64 0, .int .u64 0, .int .u64 0, .int .u64 0, .int .u64 0, .int .u64 0, .int .u64 0] 41)
  have R0 : Arr ((w.alloc (.cells m.arr 27)).alloc (.cells #[.int .u64 0, .int .u64 0, .int .u64 0, .int .u64 0, .int .u64 0, .int .u64 0, .int .u64 0, .int .u64 0, .int .u64 0, .int .u64 0, .int .u64 0, .int .u64 0, .int .u64 0] 41)) (w.heap.size + 1) 41 #[.int .u64 0, .int .u64 0, .int .u64 0, .int .u64 0, .int .u64 0, .int .u64 0, .int .u64 0, .int .u64 0, .int .u64 0, .int .u64 0, .int .u64 0, .int .u64 0, .int .u64 0] := by simpa using Arr.new (w.alloc (.cells m.arr 27)) 41 #[.int .u64 0, .int .u64 0, .int .u64 0, .int .u64 0, .int .u64 0, .int .u64 0, .int .u64 0, .int .u64 0, .int .u64 0, .int .u64 0, .int .u64 0, .int .u64 0, .int .u64 0]
  have hB0 := (alloc_bel' w (.cells m.arr 27)).alloc (by simp) (.cells #[.int .u64 0, .int .u64 0, .int .u64 0, .int .u64 0, .int .u64 0, .int .u64 0, .int .u64 0, .int .u64 0, .int .u64 0, .int .u64 0, .int .u64 0, .int .u64 0, .int .u64 0] 41)
  have hV0 : ((w.alloc (.cells m.arr 27)).alloc (.cells #[.int .u64 0, .int .u64 0, .int .u64 0, .int .u64 0, .int .u64 0, .int .u64 0, .int .u64 0, .int .u64 0, .int .u64 0, .int .u64 0, .int .u64 0, .int .u64 0, .int .u64 0] 41)).heap.size = w.heap.size + 1 + 1 := by simp
  have hk0 := hm.k0
  have hk1 := hm.k1
  have hkw : IntKind.u64.wrap m.kd = m.kd := wrap64_of hk0 (by omega)
  have hkw2 : m.kd % 18446744073709551616 = m.kd := by omega
  go_enter Try.func16, Try.ntmps16
  go_upto_region 1 with fail
  generalize (w.alloc (.cells m.arr 27)).alloc (.cells #[.int .u64 0, .int .u64 0, .int .u64 0, .int .u64 0, .int .u64 0, .int .u64 0, .int .u64 0, .int .u64 0, .int .u64 0, .int .u64 0, .int .u64 0, .int .u64 0, .int .u64 0] 41) = V0 at A0 R0 hB0 hV0 ⊢
  have c0 := mg_c0 A0
  have c1 := mg_c1 A0
  have c2 := mg_c2 A0
  have c3 := mg_c3 A0
  have c4 := mg_c4 A0
  go_upto_region 2 with fail
  have A1 := A0.alloc (.cells #[.int .u64 m.kd, .int .u64 m.fr, .int .u64 m.tw, .int .u64 m.am, .int .u64 m.no, .int .u64 0, .int .u64 0, .int .u64 0, .int .u64 0, .int .u64 0, .int .u64 0, .int .u64 0, .int .u64 0] 41)
  have R1 := R0.alloc (.cells #[.int .u64 m.kd, .int .u64 m.fr, .int .u64 m.tw, .int .u64 m.am, .int .u64 m.no, .int .u64 0, .int .u64 0, .int .u64 0, .int .u64 0, .int .u64 0, .int .u64 0, .int .u64 0, .int .u64 0] 41)
  have L1 : Arr (V0.alloc (.cells #[.int .u64 m.kd, .int .u64 m.fr, .int .u64 m.tw, .int .u64 m.am, .int .u64 m.no, .int .u64 0, .int .u64 0, .int .u64 0, .int .u64 0, .int .u64 0, .int .u64 0, .int .u64 0, .int .u64 0] 41)) (w.heap.size + 1 + 1) 41 (u64s 13 (wk m 0)) := by rw [← w5_wk m, ← hV0]; exact Arr.new V0 41 _
  have hB1 := hB0.alloc hB0.size (.cells #[.int .u64 m.kd, .int .u64 m.fr, .int .u64 m.tw, .int .u64 m.am, .int .u64 m.no, .int .u64 0, .int .u64 0, .int .u64 0, .int .u64 0, .int .u64 0, .int .u64 0, .int .u64 0, .int .u64 0] 41)
  generalize V0.alloc (.cells #[.int .u64 m.kd, .int .u64 m.fr, .int .u64 m.tw, .int .u64 m.am, .int .u64 m.no, .int .u64 0, .int .u64 0, .int .u64 0, .int .u64 0, .int .u64 0, .int .u64 0, .int .u64 0, .int .u64 0] 41) = V at A1 R1 L1 hB1 ⊢
  clear c0 c1 c2 c3 c4 A0 R0 hB0
  go_cut [4, 5] (fun s t wc => ∃ b4 b5, s = .pointer (some ⟨b4, 0, none⟩) ∧ t = .pointer (some ⟨b5, 0, none⟩) ∧ V.heap.size ≤ b4 ∧ V.heap.size ≤ b5 ∧ b4 ≠ b5 ∧ Arr wc b4 54 (wordsOf (bat m.ky)) ∧ Arr wc b5 54 (wordsOf (bat m.nx)) ∧ Below V.heap.size V wc)
  case first =>
    refine wp_region_held_drew (S := fun u => Below V.heap.size V u) (by kernel_rfl) ((Below.refl _ _).drew) (fun hHeld => ?_)
    refine wpAnyH_take (i := 0) (oi := ⟨_, _, _, _, _, _⟩) (v := ?_) rfl (by kernel_rfl) (by kernel_rfl) (by kernel_rfl) (fun _ _ _ h => h) (Or.inl ⟨by rfl, ?_⟩) (by assumption) ?_
    rotate_left
    · intro u hSw
      go_simp
      try (with_reducible rfl)
    try simp only [Act.put, List.setIfInBounds_toArray, List.set_cons_zero, List.set_cons_succ]
    refine wpAnyH_take (i := 1) (oi := ⟨_, _, _, _, _, _⟩) rfl (by kernel_rfl) (by kernel_rfl) (by kernel_rfl) (fun _ _ _ h => h) (y25 (by rfl) (.tmp 19) rfl w.heap.size 5 rfl m.ky hm.kl (fun u hu => range_below (mg_ky A1) hu A1.lt)) (by assumption) ?_
    try simp only [Act.put, List.setIfInBounds_toArray, List.set_cons_zero, List.set_cons_succ]
    refine wpAnyH_take (i := 3) (oi := ⟨_, _, _, _, _, _⟩) (v := ?_) rfl (by kernel_rfl) (by kernel_rfl) (by kernel_rfl) (fun _ _ _ h => h) (Or.inl ⟨by rfl, ?_⟩) (by assumption) ?_
    rotate_left
    · intro u hSw
      go_simp
      try (with_reducible rfl)
    try simp only [Act.put, List.setIfInBounds_toArray, List.set_cons_zero, List.set_cons_succ]
    refine wpAnyH_take (i := 4) (oi := ⟨_, _, _, _, _, _⟩) rfl (by kernel_rfl) (by kernel_rfl) (by kernel_rfl) (fun _ _ _ h => h) (y25 (by rfl) (.tmp 22) rfl w.heap.size 37 rfl m.nx hm.nl (fun u hu => range_below (mg_nx A1 hm.kl) hu A1.lt)) (by assumption) ?_
    try simp only [Act.put, List.setIfInBounds_toArray, List.set_cons_zero, List.set_cons_succ]
    have H0 : Below V.heap.size V V.drew := (Below.refl _ _).drew
    refine wpAnyH_ready (rs := [2, 6, 7]) (by kernel_rfl) (by simp) ?_
    refine AllReadyH.cons (o := ⟨_, _, _, _, _, _⟩) rfl (fun K hK => ?_) (AllReadyH.cons (o := ⟨_, _, _, _, _, _⟩) rfl (fun K hK => ?_) (AllReadyH.cons (o := ⟨_, _, _, _, _, _⟩) rfl (fun K hK => ?_) (AllReadyH.nil)))
    · go_simp
      refine (words_any (h8 m.ky) (bat m.ky) _ (by rw [h8_size, hm.kl]) (fun t ht => h8_get (by rw [hm.kl]; exact ht)) (fun t _ => bat_rng hm.kb t)).mono ?_; rintro e u1 ⟨rfl, hb1⟩
      have H1 := H0.trans (hb1.mono H0.size)
      go_wp2_with fail
      refine hK.out _ _ H1 (fun hHeld => ?_)
      clear hK K
      try simp only [Act.put, List.setIfInBounds_toArray, List.set_cons_zero, List.set_cons_succ]
      refine wpAnyH_ready (rs := [5, 6, 7]) (by kernel_rfl) (by simp) ?_
      refine AllReadyH.cons (o := ⟨_, _, _, _, _, _⟩) rfl (fun K hK => ?_) (AllReadyH.cons (o := ⟨_, _, _, _, _, _⟩) rfl (fun K hK => ?_) (AllReadyH.cons (o := ⟨_, _, _, _, _, _⟩) rfl (fun K hK => ?_) (AllReadyH.nil)))
      · go_simp
        refine (words_any (h8 m.nx) (bat m.nx) _ (by rw [h8_size, hm.nl]) (fun t ht => h8_get (by rw [hm.nl]; exact ht)) (fun t _ => bat_rng hm.nb t)).mono ?_; rintro e u2 ⟨rfl, hb2⟩
        have H2 := H1.trans (hb2.mono H1.size)
        go_wp2_with fail
        refine hK.out _ _ H2 (fun hHeld => ?_)
        clear hK K
        try simp only [Act.put, List.setIfInBounds_toArray, List.set_cons_zero, List.set_cons_succ]
        refine wpAnyH_ready (rs := [6, 7]) (by kernel_rfl) (by simp) ?_
        refine AllReadyH.cons (o := ⟨_, _, _, _, _, _⟩) rfl (fun K hK => ?_) (AllReadyH.cons (o := ⟨_, _, _, _, _, _⟩) rfl (fun K hK => ?_) (AllReadyH.nil))
        · go_simp
          go_wp2_with fail
          have H3 := H2.alloc H2.size (.cells #[.int .u64 0, .int .u64 0, .int .u64 0, .int .u64 0] 54)
          have hs3 : u2.heap.size = u2.heap.size := by simp
          have le4 : V.heap.size ≤ u2.heap.size := by rw [← hs3]; exact H2.size
          have h4_3 : Arr (u2.alloc (.cells #[.int .u64 0, .int .u64 0, .int .u64 0, .int .u64 0] 54)) (u2.heap.size) 54 #[.int .u64 0, .int .u64 0, .int .u64 0, .int .u64 0] := by have q := Arr.new u2 54 #[.int .u64 0, .int .u64 0, .int .u64 0, .int .u64 0]; rw [hs3] at q; exact q
          refine hK.out _ _ H3 (fun hHeld => ?_)
          clear hK K
          try simp only [Act.put, List.setIfInBounds_toArray, List.set_cons_zero, List.set_cons_succ]
          refine wpAnyH_ready (rs := [7]) (by kernel_rfl) (by simp) ?_
          refine AllReadyH.cons (o := ⟨_, _, _, _, _, _⟩) rfl (fun K hK => ?_) (AllReadyH.nil)
          · go_simp
            go_wp2_with fail
            have H4 := H3.alloc H3.size (.cells #[.int .u64 0, .int .u64 0, .int .u64 0, .int .u64 0] 54)
            have hs4 : (u2.alloc (.cells #[.int .u64 0, .int .u64 0, .int .u64 0, .int .u64 0] 54)).heap.size = u2.heap.size + 1 := by simp
            have le5 : V.heap.size ≤ u2.heap.size + 1 := by rw [← hs4]; exact H3.size
            have h5_4 : Arr ((u2.alloc (.cells #[.int .u64 0, .int .u64 0, .int .u64 0, .int .u64 0] 54)).alloc (.cells #[.int .u64 0, .int .u64 0, .int .u64 0, .int .u64 0] 54)) (u2.heap.size + 1) 54 #[.int .u64 0, .int .u64 0, .int .u64 0, .int .u64 0] := by have q := Arr.new (u2.alloc (.cells #[.int .u64 0, .int .u64 0, .int .u64 0, .int .u64 0] 54)) 54 #[.int .u64 0, .int .u64 0, .int .u64 0, .int .u64 0]; rw [hs4] at q; exact q
            have ne45 : (u2.heap.size) ≠ u2.heap.size + 1 := by have q := Arr.lt h4_3; rw [hs4] at q; omega
            have h4_4 := Arr.alloc h4_3 (.cells #[.int .u64 0, .int .u64 0, .int .u64 0, .int .u64 0] 54)
            refine hK.out _ _ H4 (fun hHeld => ?_)
            clear hK K
            try simp only [Act.put, List.setIfInBounds_toArray, List.set_cons_zero, List.set_cons_succ]
            skip
            refine wpAnyH_ready (rs := [8]) (by kernel_rfl) (by simp) ?_
            refine AllReadyH.cons (o := ⟨_, _, _, _, _, _⟩) rfl (fun K hK => ?_) AllReadyH.nil
            refine step_want rfl (wp_store_row 54 (.tmp 4) (.tmp 21) rfl (u2.heap.size) (wordsOf (bat m.ky)) rfl rfl 54 _ h4_4 (s30u _) (by rw [wordsOf_size]; rfl) (u64s_one _ _) ?_)
            have HS8 := below_setRow H4 le4 (wordsOf (bat m.ky))
            have h4s := Arr.setRow h4_4 (wordsOf (bat m.ky))
            have h5s := Arr.setRowOther h5_4 (wordsOf (bat m.ky)) (Ne.symm ne45)
            refine hK.out _ _ HS8 (fun hHeld => ?_)
            clear hK K
            try simp only [Act.put, List.setIfInBounds_toArray, List.set_cons_zero, List.set_cons_succ]
            refine wpAnyH_ready (rs := [9]) (by kernel_rfl) (by simp) ?_
            refine AllReadyH.cons (o := ⟨_, _, _, _, _, _⟩) rfl (fun K hK => ?_) AllReadyH.nil
            refine step_want rfl (wp_store_row 54 (.tmp 5) (.tmp 24) rfl (u2.heap.size + 1) (wordsOf (bat m.nx)) rfl rfl 54 _ h5s (s30u _) (by rw [wordsOf_size]; rfl) (u64s_one _ _) ?_)
            have HS9 := below_setRow HS8 le5 (wordsOf (bat m.nx))
            have h4t := Arr.setRowOther h4s (wordsOf (bat m.nx)) ne45
            have h5t := Arr.setRow h5s (wordsOf (bat m.nx))
            refine hK.out _ _ HS9 (fun hHeld => ?_)
            clear hK K
            try simp only [Act.put, List.setIfInBounds_toArray, List.set_cons_zero, List.set_cons_succ]
            refine wpAnyH_done (by kernel_rfl) ?_ _
            go_wp2_with fail
            go_meet
            exact ⟨_, _, rfl, rfl, le4, le5, ne45, h4t, h5t, HS9⟩
        · go_simp
          go_wp2_with fail
          have H3 := H2.alloc H2.size (.cells #[.int .u64 0, .int .u64 0, .int .u64 0, .int .u64 0] 54)
          have hs3 : u2.heap.size = u2.heap.size := by simp
          have le5 : V.heap.size ≤ u2.heap.size := by rw [← hs3]; exact H2.size
          have h5_3 : Arr (u2.alloc (.cells #[.int .u64 0, .int .u64 0, .int .u64 0, .int .u64 0] 54)) (u2.heap.size) 54 #[.int .u64 0, .int .u64 0, .int .u64 0, .int .u64 0] := by have q := Arr.new u2 54 #[.int .u64 0, .int .u64 0, .int .u64 0, .int .u64 0]; rw [hs3] at q; exact q
          refine hK.out _ _ H3 (fun hHeld => ?_)
          clear hK K
          try simp only [Act.put, List.setIfInBounds_toArray, List.set_cons_zero, List.set_cons_succ]
          refine wpAnyH_ready (rs := [6]) (by kernel_rfl) (by simp) ?_
          refine AllReadyH.cons (o := ⟨_, _, _, _, _, _⟩) rfl (fun K hK => ?_) (AllReadyH.nil)
          · go_simp
            go_wp2_with fail
            have H4 := H3.alloc H3.size (.cells #[.int .u64 0, .int .u64 0, .int .u64 0, .int .u64 0] 54)
            have hs4 : (u2.alloc (.cells #[.int .u64 0, .int .u64 0, .int .u64 0, .int .u64 0] 54)).heap.size = u2.heap.size + 1 := by simp
            have le4 : V.heap.size ≤ u2.heap.size + 1 := by rw [← hs4]; exact H3.size
            have h4_4 : Arr ((u2.alloc (.cells #[.int .u64 0, .int .u64 0, .int .u64 0, .int .u64 0] 54)).alloc (.cells #[.int .u64 0, .int .u64 0, .int .u64 0, .int .u64 0] 54)) (u2.heap.size + 1) 54 #[.int .u64 0, .int .u64 0, .int .u64 0, .int .u64 0] := by have q := Arr.new (u2.alloc (.cells #[.int .u64 0, .int .u64 0, .int .u64 0, .int .u64 0] 54)) 54 #[.int .u64 0, .int .u64 0, .int .u64 0, .int .u64 0]; rw [hs4] at q; exact q
            have ne45 : u2.heap.size + 1 ≠ (u2.heap.size) := by have q := Arr.lt h5_3; rw [hs4] at q; omega
            have h5_4 := Arr.alloc h5_3 (.cells #[.int .u64 0, .int .u64 0, .int .u64 0, .int .u64 0] 54)
            refine hK.out _ _ H4 (fun hHeld => ?_)
            clear hK K
            try simp only [Act.put, List.setIfInBounds_toArray, List.set_cons_zero, List.set_cons_succ]
            skip
            refine wpAnyH_ready (rs := [8]) (by kernel_rfl) (by simp) ?_
            refine AllReadyH.cons (o := ⟨_, _, _, _, _, _⟩) rfl (fun K hK => ?_) AllReadyH.nil
            refine step_want rfl (wp_store_row 54 (.tmp 4) (.tmp 21) rfl (u2.heap.size + 1) (wordsOf (bat m.ky)) rfl rfl 54 _ h4_4 (s30u _) (by rw [wordsOf_size]; rfl) (u64s_one _ _) ?_)
            have HS8 := below_setRow H4 le4 (wordsOf (bat m.ky))
            have h4s := Arr.setRow h4_4 (wordsOf (bat m.ky))
            have h5s := Arr.setRowOther h5_4 (wordsOf (bat m.ky)) (Ne.symm ne45)
            refine hK.out _ _ HS8 (fun hHeld => ?_)
            clear hK K
            try simp only [Act.put, List.setIfInBounds_toArray, List.set_cons_zero, List.set_cons_succ]
            refine wpAnyH_ready (rs := [9]) (by kernel_rfl) (by simp) ?_
            refine AllReadyH.cons (o := ⟨_, _, _, _, _, _⟩) rfl (fun K hK => ?_) AllReadyH.nil
            refine step_want rfl (wp_store_row 54 (.tmp 5) (.tmp 24) rfl (u2.heap.size) (wordsOf (bat m.nx)) rfl rfl 54 _ h5s (s30u _) (by rw [wordsOf_size]; rfl) (u64s_one _ _) ?_)
            have HS9 := below_setRow HS8 le5 (wordsOf (bat m.nx))
            have h4t := Arr.setRowOther h4s (wordsOf (bat m.nx)) ne45
            have h5t := Arr.setRow h5s (wordsOf (bat m.nx))
            refine hK.out _ _ HS9 (fun hHeld => ?_)
            clear hK K
            try simp only [Act.put, List.setIfInBounds_toArray, List.set_cons_zero, List.set_cons_succ]
            refine wpAnyH_done (by kernel_rfl) ?_ _
            go_wp2_with fail
            go_meet
            exact ⟨_, _, rfl, rfl, le4, le5, ne45, h4t, h5t, HS9⟩
      · go_simp
        go_wp2_with fail
        have H2 := H1.alloc H1.size (.cells #[.int .u64 0, .int .u64 0, .int .u64 0, .int .u64 0] 54)
        have hs2 : u1.heap.size = u1.heap.size := by simp
        have le4 : V.heap.size ≤ u1.heap.size := by rw [← hs2]; exact H1.size
        have h4_2 : Arr (u1.alloc (.cells #[.int .u64 0, .int .u64 0, .int .u64 0, .int .u64 0] 54)) (u1.heap.size) 54 #[.int .u64 0, .int .u64 0, .int .u64 0, .int .u64 0] := by have q := Arr.new u1 54 #[.int .u64 0, .int .u64 0, .int .u64 0, .int .u64 0]; rw [hs2] at q; exact q
        refine hK.out _ _ H2 (fun hHeld => ?_)
        clear hK K
        try simp only [Act.put, List.setIfInBounds_toArray, List.set_cons_zero, List.set_cons_succ]
        refine wpAnyH_ready (rs := [5, 7]) (by kernel_rfl) (by simp) ?_
        refine AllReadyH.cons (o := ⟨_, _, _, _, _, _⟩) rfl (fun K hK => ?_) (AllReadyH.cons (o := ⟨_, _, _, _, _, _⟩) rfl (fun K hK => ?_) (AllReadyH.nil))
        · go_simp
          refine (words_any (h8 m.nx) (bat m.nx) _ (by rw [h8_size, hm.nl]) (fun t ht => h8_get (by rw [hm.nl]; exact ht)) (fun t _ => bat_rng hm.nb t)).mono ?_; rintro e u3 ⟨rfl, hb3⟩
          have H3 := H2.trans (hb3.mono H2.size)
          have h4_3 := Arr.bel h4_2 hb3
          go_wp2_with fail
          refine hK.out _ _ H3 (fun hHeld => ?_)
          clear hK K
          try simp only [Act.put, List.setIfInBounds_toArray, List.set_cons_zero, List.set_cons_succ]
          refine wpAnyH_ready (rs := [7]) (by kernel_rfl) (by simp) ?_
          refine AllReadyH.cons (o := ⟨_, _, _, _, _, _⟩) rfl (fun K hK => ?_) (AllReadyH.nil)
          · go_simp
            go_wp2_with fail
            have H4 := H3.alloc H3.size (.cells #[.int .u64 0, .int .u64 0, .int .u64 0, .int .u64 0] 54)
            have hs4 : u3.heap.size = u3.heap.size := by simp
            have le5 : V.heap.size ≤ u3.heap.size := by rw [← hs4]; exact H3.size
            have h5_4 : Arr (u3.alloc (.cells #[.int .u64 0, .int .u64 0, .int .u64 0, .int .u64 0] 54)) (u3.heap.size) 54 #[.int .u64 0, .int .u64 0, .int .u64 0, .int .u64 0] := by have q := Arr.new u3 54 #[.int .u64 0, .int .u64 0, .int .u64 0, .int .u64 0]; rw [hs4] at q; exact q
            have ne45 : (u1.heap.size) ≠ u3.heap.size := by have q := Arr.lt h4_3; rw [hs4] at q; omega
            have h4_4 := Arr.alloc h4_3 (.cells #[.int .u64 0, .int .u64 0, .int .u64 0, .int .u64 0] 54)
            refine hK.out _ _ H4 (fun hHeld => ?_)
            clear hK K
            try simp only [Act.put, List.setIfInBounds_toArray, List.set_cons_zero, List.set_cons_succ]
            skip
            refine wpAnyH_ready (rs := [8]) (by kernel_rfl) (by simp) ?_
            refine AllReadyH.cons (o := ⟨_, _, _, _, _, _⟩) rfl (fun K hK => ?_) AllReadyH.nil
            refine step_want rfl (wp_store_row 54 (.tmp 4) (.tmp 21) rfl (u1.heap.size) (wordsOf (bat m.ky)) rfl rfl 54 _ h4_4 (s30u _) (by rw [wordsOf_size]; rfl) (u64s_one _ _) ?_)
            have HS8 := below_setRow H4 le4 (wordsOf (bat m.ky))
            have h4s := Arr.setRow h4_4 (wordsOf (bat m.ky))
            have h5s := Arr.setRowOther h5_4 (wordsOf (bat m.ky)) (Ne.symm ne45)
            refine hK.out _ _ HS8 (fun hHeld => ?_)
            clear hK K
            try simp only [Act.put, List.setIfInBounds_toArray, List.set_cons_zero, List.set_cons_succ]
            refine wpAnyH_ready (rs := [9]) (by kernel_rfl) (by simp) ?_
            refine AllReadyH.cons (o := ⟨_, _, _, _, _, _⟩) rfl (fun K hK => ?_) AllReadyH.nil
            refine step_want rfl (wp_store_row 54 (.tmp 5) (.tmp 24) rfl (u3.heap.size) (wordsOf (bat m.nx)) rfl rfl 54 _ h5s (s30u _) (by rw [wordsOf_size]; rfl) (u64s_one _ _) ?_)
            have HS9 := below_setRow HS8 le5 (wordsOf (bat m.nx))
            have h4t := Arr.setRowOther h4s (wordsOf (bat m.nx)) ne45
            have h5t := Arr.setRow h5s (wordsOf (bat m.nx))
            refine hK.out _ _ HS9 (fun hHeld => ?_)
            clear hK K
            try simp only [Act.put, List.setIfInBounds_toArray, List.set_cons_zero, List.set_cons_succ]
            refine wpAnyH_done (by kernel_rfl) ?_ _
            go_wp2_with fail
            go_meet
            exact ⟨_, _, rfl, rfl, le4, le5, ne45, h4t, h5t, HS9⟩
        · go_simp
          go_wp2_with fail
          have H3 := H2.alloc H2.size (.cells #[.int .u64 0, .int .u64 0, .int .u64 0, .int .u64 0] 54)
          have hs3 : (u1.alloc (.cells #[.int .u64 0, .int .u64 0, .int .u64 0, .int .u64 0] 54)).heap.size = u1.heap.size + 1 := by simp
          have le5 : V.heap.size ≤ u1.heap.size + 1 := by rw [← hs3]; exact H2.size
          have h5_3 : Arr ((u1.alloc (.cells #[.int .u64 0, .int .u64 0, .int .u64 0, .int .u64 0] 54)).alloc (.cells #[.int .u64 0, .int .u64 0, .int .u64 0, .int .u64 0] 54)) (u1.heap.size + 1) 54 #[.int .u64 0, .int .u64 0, .int .u64 0, .int .u64 0] := by have q := Arr.new (u1.alloc (.cells #[.int .u64 0, .int .u64 0, .int .u64 0, .int .u64 0] 54)) 54 #[.int .u64 0, .int .u64 0, .int .u64 0, .int .u64 0]; rw [hs3] at q; exact q
          have ne45 : (u1.heap.size) ≠ u1.heap.size + 1 := by have q := Arr.lt h4_2; rw [hs3] at q; omega
          have h4_3 := Arr.alloc h4_2 (.cells #[.int .u64 0, .int .u64 0, .int .u64 0, .int .u64 0] 54)
          refine hK.out _ _ H3 (fun hHeld => ?_)
          clear hK K
          try simp only [Act.put, List.setIfInBounds_toArray, List.set_cons_zero, List.set_cons_succ]
          refine wpAnyH_ready (rs := [5]) (by kernel_rfl) (by simp) ?_
          refine AllReadyH.cons (o := ⟨_, _, _, _, _, _⟩) rfl (fun K hK => ?_) (AllReadyH.nil)
          · go_simp
            refine (words_any (h8 m.nx) (bat m.nx) _ (by rw [h8_size, hm.nl]) (fun t ht => h8_get (by rw [hm.nl]; exact ht)) (fun t _ => bat_rng hm.nb t)).mono ?_; rintro e u4 ⟨rfl, hb4⟩
            have H4 := H3.trans (hb4.mono H3.size)
            have h4_4 := Arr.bel h4_3 hb4
            have h5_4 := Arr.bel h5_3 hb4
            go_wp2_with fail
            refine hK.out _ _ H4 (fun hHeld => ?_)
            clear hK K
            try simp only [Act.put, List.setIfInBounds_toArray, List.set_cons_zero, List.set_cons_succ]
            skip
            refine wpAnyH_ready (rs := [8]) (by kernel_rfl) (by simp) ?_
            refine AllReadyH.cons (o := ⟨_, _, _, _, _, _⟩) rfl (fun K hK => ?_) AllReadyH.nil
            refine step_want rfl (wp_store_row 54 (.tmp 4) (.tmp 21) rfl (u1.heap.size) (wordsOf (bat m.ky)) rfl rfl 54 _ h4_4 (s30u _) (by rw [wordsOf_size]; rfl) (u64s_one _ _) ?_)
            have HS8 := below_setRow H4 le4 (wordsOf (bat m.ky))
            have h4s := Arr.setRow h4_4 (wordsOf (bat m.ky))
            have h5s := Arr.setRowOther h5_4 (wordsOf (bat m.ky)) (Ne.symm ne45)
            refine hK.out _ _ HS8 (fun hHeld => ?_)
            clear hK K
            try simp only [Act.put, List.setIfInBounds_toArray, List.set_cons_zero, List.set_cons_succ]
            refine wpAnyH_ready (rs := [9]) (by kernel_rfl) (by simp) ?_
            refine AllReadyH.cons (o := ⟨_, _, _, _, _, _⟩) rfl (fun K hK => ?_) AllReadyH.nil
            refine step_want rfl (wp_store_row 54 (.tmp 5) (.tmp 24) rfl (u1.heap.size + 1) (wordsOf (bat m.nx)) rfl rfl 54 _ h5s (s30u _) (by rw [wordsOf_size]; rfl) (u64s_one _ _) ?_)
            have HS9 := below_setRow HS8 le5 (wordsOf (bat m.nx))
            have h4t := Arr.setRowOther h4s (wordsOf (bat m.nx)) ne45
            have h5t := Arr.setRow h5s (wordsOf (bat m.nx))
            refine hK.out _ _ HS9 (fun hHeld => ?_)
            clear hK K
            try simp only [Act.put, List.setIfInBounds_toArray, List.set_cons_zero, List.set_cons_succ]
            refine wpAnyH_done (by kernel_rfl) ?_ _
            go_wp2_with fail
            go_meet
            exact ⟨_, _, rfl, rfl, le4, le5, ne45, h4t, h5t, HS9⟩
      · go_simp
        go_wp2_with fail
        have H2 := H1.alloc H1.size (.cells #[.int .u64 0, .int .u64 0, .int .u64 0, .int .u64 0] 54)
        have hs2 : u1.heap.size = u1.heap.size := by simp
        have le5 : V.heap.size ≤ u1.heap.size := by rw [← hs2]; exact H1.size
        have h5_2 : Arr (u1.alloc (.cells #[.int .u64 0, .int .u64 0, .int .u64 0, .int .u64 0] 54)) (u1.heap.size) 54 #[.int .u64 0, .int .u64 0, .int .u64 0, .int .u64 0] := by have q := Arr.new u1 54 #[.int .u64 0, .int .u64 0, .int .u64 0, .int .u64 0]; rw [hs2] at q; exact q
        refine hK.out _ _ H2 (fun hHeld => ?_)
        clear hK K
        try simp only [Act.put, List.setIfInBounds_toArray, List.set_cons_zero, List.set_cons_succ]
        refine wpAnyH_ready (rs := [5, 6]) (by kernel_rfl) (by simp) ?_
        refine AllReadyH.cons (o := ⟨_, _, _, _, _, _⟩) rfl (fun K hK => ?_) (AllReadyH.cons (o := ⟨_, _, _, _, _, _⟩) rfl (fun K hK => ?_) (AllReadyH.nil))
        · go_simp
          refine (words_any (h8 m.nx) (bat m.nx) _ (by rw [h8_size, hm.nl]) (fun t ht => h8_get (by rw [hm.nl]; exact ht)) (fun t _ => bat_rng hm.nb t)).mono ?_; rintro e u3 ⟨rfl, hb3⟩
          have H3 := H2.trans (hb3.mono H2.size)
          have h5_3 := Arr.bel h5_2 hb3
          go_wp2_with fail
          refine hK.out _ _ H3 (fun hHeld => ?_)
          clear hK K
          try simp only [Act.put, List.setIfInBounds_toArray, List.set_cons_zero, List.set_cons_succ]
          refine wpAnyH_ready (rs := [6]) (by kernel_rfl) (by simp) ?_
          refine AllReadyH.cons (o := ⟨_, _, _, _, _, _⟩) rfl (fun K hK => ?_) (AllReadyH.nil)
          · go_simp
            go_wp2_with fail
            have H4 := H3.alloc H3.size (.cells #[.int .u64 0, .int .u64 0, .int .u64 0, .int .u64 0] 54)
            have hs4 : u3.heap.size = u3.heap.size := by simp
            have le4 : V.heap.size ≤ u3.heap.size := by rw [← hs4]; exact H3.size
            have h4_4 : Arr (u3.alloc (.cells #[.int .u64 0, .int .u64 0, .int .u64 0, .int .u64 0] 54)) (u3.heap.size) 54 #[.int .u64 0, .int .u64 0, .int .u64 0, .int .u64 0] := by have q := Arr.new u3 54 #[.int .u64 0, .int .u64 0, .int .u64 0, .int .u64 0]; rw [hs4] at q; exact q
            have ne45 : u3.heap.size ≠ (u1.heap.size) := by have q := Arr.lt h5_3; rw [hs4] at q; omega
            have h5_4 := Arr.alloc h5_3 (.cells #[.int .u64 0, .int .u64 0, .int .u64 0, .int .u64 0] 54)
            refine hK.out _ _ H4 (fun hHeld => ?_)
            clear hK K
            try simp only [Act.put, List.setIfInBounds_toArray, List.set_cons_zero, List.set_cons_succ]
            skip
            refine wpAnyH_ready (rs := [8]) (by kernel_rfl) (by simp) ?_
            refine AllReadyH.cons (o := ⟨_, _, _, _, _, _⟩) rfl (fun K hK => ?_) AllReadyH.nil
            refine step_want rfl (wp_store_row 54 (.tmp 4) (.tmp 21) rfl (u3.heap.size) (wordsOf (bat m.ky)) rfl rfl 54 _ h4_4 (s30u _) (by rw [wordsOf_size]; rfl) (u64s_one _ _) ?_)
            have HS8 := below_setRow H4 le4 (wordsOf (bat m.ky))
            have h4s := Arr.setRow h4_4 (wordsOf (bat m.ky))
            have h5s := Arr.setRowOther h5_4 (wordsOf (bat m.ky)) (Ne.symm ne45)
            refine hK.out _ _ HS8 (fun hHeld => ?_)
            clear hK K
            try simp only [Act.put, List.setIfInBounds_toArray, List.set_cons_zero, List.set_cons_succ]
            refine wpAnyH_ready (rs := [9]) (by kernel_rfl) (by simp) ?_
            refine AllReadyH.cons (o := ⟨_, _, _, _, _, _⟩) rfl (fun K hK => ?_) AllReadyH.nil
            refine step_want rfl (wp_store_row 54 (.tmp 5) (.tmp 24) rfl (u1.heap.size) (wordsOf (bat m.nx)) rfl rfl 54 _ h5s (s30u _) (by rw [wordsOf_size]; rfl) (u64s_one _ _) ?_)
            have HS9 := below_setRow HS8 le5 (wordsOf (bat m.nx))
            have h4t := Arr.setRowOther h4s (wordsOf (bat m.nx)) ne45
            have h5t := Arr.setRow h5s (wordsOf (bat m.nx))
            refine hK.out _ _ HS9 (fun hHeld => ?_)
            clear hK K
            try simp only [Act.put, List.setIfInBounds_toArray, List.set_cons_zero, List.set_cons_succ]
            refine wpAnyH_done (by kernel_rfl) ?_ _
            go_wp2_with fail
            go_meet
            exact ⟨_, _, rfl, rfl, le4, le5, ne45, h4t, h5t, HS9⟩
        · go_simp
          go_wp2_with fail
          have H3 := H2.alloc H2.size (.cells #[.int .u64 0, .int .u64 0, .int .u64 0, .int .u64 0] 54)
          have hs3 : (u1.alloc (.cells #[.int .u64 0, .int .u64 0, .int .u64 0, .int .u64 0] 54)).heap.size = u1.heap.size + 1 := by simp
          have le4 : V.heap.size ≤ u1.heap.size + 1 := by rw [← hs3]; exact H2.size
          have h4_3 : Arr ((u1.alloc (.cells #[.int .u64 0, .int .u64 0, .int .u64 0, .int .u64 0] 54)).alloc (.cells #[.int .u64 0, .int .u64 0, .int .u64 0, .int .u64 0] 54)) (u1.heap.size + 1) 54 #[.int .u64 0, .int .u64 0, .int .u64 0, .int .u64 0] := by have q := Arr.new (u1.alloc (.cells #[.int .u64 0, .int .u64 0, .int .u64 0, .int .u64 0] 54)) 54 #[.int .u64 0, .int .u64 0, .int .u64 0, .int .u64 0]; rw [hs3] at q; exact q
          have ne45 : u1.heap.size + 1 ≠ (u1.heap.size) := by have q := Arr.lt h5_2; rw [hs3] at q; omega
          have h5_3 := Arr.alloc h5_2 (.cells #[.int .u64 0, .int .u64 0, .int .u64 0, .int .u64 0] 54)
          refine hK.out _ _ H3 (fun hHeld => ?_)
          clear hK K
          try simp only [Act.put, List.setIfInBounds_toArray, List.set_cons_zero, List.set_cons_succ]
          refine wpAnyH_ready (rs := [5]) (by kernel_rfl) (by simp) ?_
          refine AllReadyH.cons (o := ⟨_, _, _, _, _, _⟩) rfl (fun K hK => ?_) (AllReadyH.nil)
          · go_simp
            refine (words_any (h8 m.nx) (bat m.nx) _ (by rw [h8_size, hm.nl]) (fun t ht => h8_get (by rw [hm.nl]; exact ht)) (fun t _ => bat_rng hm.nb t)).mono ?_; rintro e u4 ⟨rfl, hb4⟩
            have H4 := H3.trans (hb4.mono H3.size)
            have h4_4 := Arr.bel h4_3 hb4
            have h5_4 := Arr.bel h5_3 hb4
            go_wp2_with fail
            refine hK.out _ _ H4 (fun hHeld => ?_)
            clear hK K
            try simp only [Act.put, List.setIfInBounds_toArray, List.set_cons_zero, List.set_cons_succ]
            skip
            refine wpAnyH_ready (rs := [8]) (by kernel_rfl) (by simp) ?_
            refine AllReadyH.cons (o := ⟨_, _, _, _, _, _⟩) rfl (fun K hK => ?_) AllReadyH.nil
            refine step_want rfl (wp_store_row 54 (.tmp 4) (.tmp 21) rfl (u1.heap.size + 1) (wordsOf (bat m.ky)) rfl rfl 54 _ h4_4 (s30u _) (by rw [wordsOf_size]; rfl) (u64s_one _ _) ?_)
            have HS8 := below_setRow H4 le4 (wordsOf (bat m.ky))
            have h4s := Arr.setRow h4_4 (wordsOf (bat m.ky))
            have h5s := Arr.setRowOther h5_4 (wordsOf (bat m.ky)) (Ne.symm ne45)
            refine hK.out _ _ HS8 (fun hHeld => ?_)
            clear hK K
            try simp only [Act.put, List.setIfInBounds_toArray, List.set_cons_zero, List.set_cons_succ]
            refine wpAnyH_ready (rs := [9]) (by kernel_rfl) (by simp) ?_
            refine AllReadyH.cons (o := ⟨_, _, _, _, _, _⟩) rfl (fun K hK => ?_) AllReadyH.nil
            refine step_want rfl (wp_store_row 54 (.tmp 5) (.tmp 24) rfl (u1.heap.size) (wordsOf (bat m.nx)) rfl rfl 54 _ h5s (s30u _) (by rw [wordsOf_size]; rfl) (u64s_one _ _) ?_)
            have HS9 := below_setRow HS8 le5 (wordsOf (bat m.nx))
            have h4t := Arr.setRowOther h4s (wordsOf (bat m.nx)) ne45
            have h5t := Arr.setRow h5s (wordsOf (bat m.nx))
            refine hK.out _ _ HS9 (fun hHeld => ?_)
            clear hK K
            try simp only [Act.put, List.setIfInBounds_toArray, List.set_cons_zero, List.set_cons_succ]
            refine wpAnyH_done (by kernel_rfl) ?_ _
            go_wp2_with fail
            go_meet
            exact ⟨_, _, rfl, rfl, le4, le5, ne45, h4t, h5t, HS9⟩
    · go_simp
      go_wp2_with fail
      have H1 := H0.alloc H0.size (.cells #[.int .u64 0, .int .u64 0, .int .u64 0, .int .u64 0] 54)
      have hs1 : V.drew.heap.size = V.heap.size := by simp
      have le4 : V.heap.size ≤ V.heap.size := by rw [← hs1]; exact H0.size
      have h4_1 : Arr (V.drew.alloc (.cells #[.int .u64 0, .int .u64 0, .int .u64 0, .int .u64 0] 54)) (V.heap.size) 54 #[.int .u64 0, .int .u64 0, .int .u64 0, .int .u64 0] := by have q := Arr.new V.drew 54 #[.int .u64 0, .int .u64 0, .int .u64 0, .int .u64 0]; rw [hs1] at q; exact q
      refine hK.out _ _ H1 (fun hHeld => ?_)
      clear hK K
      try simp only [Act.put, List.setIfInBounds_toArray, List.set_cons_zero, List.set_cons_succ]
      refine wpAnyH_ready (rs := [2, 7]) (by kernel_rfl) (by simp) ?_
      refine AllReadyH.cons (o := ⟨_, _, _, _, _, _⟩) rfl (fun K hK => ?_) (AllReadyH.cons (o := ⟨_, _, _, _, _, _⟩) rfl (fun K hK => ?_) (AllReadyH.nil))
      · go_simp
        refine (words_any (h8 m.ky) (bat m.ky) _ (by rw [h8_size, hm.kl]) (fun t ht => h8_get (by rw [hm.kl]; exact ht)) (fun t _ => bat_rng hm.kb t)).mono ?_; rintro e u2 ⟨rfl, hb2⟩
        have H2 := H1.trans (hb2.mono H1.size)
        have h4_2 := Arr.bel h4_1 hb2
        go_wp2_with fail
        refine hK.out _ _ H2 (fun hHeld => ?_)
        clear hK K
        try simp only [Act.put, List.setIfInBounds_toArray, List.set_cons_zero, List.set_cons_succ]
        refine wpAnyH_ready (rs := [5, 7]) (by kernel_rfl) (by simp) ?_
        refine AllReadyH.cons (o := ⟨_, _, _, _, _, _⟩) rfl (fun K hK => ?_) (AllReadyH.cons (o := ⟨_, _, _, _, _, _⟩) rfl (fun K hK => ?_) (AllReadyH.nil))
        · go_simp
          refine (words_any (h8 m.nx) (bat m.nx) _ (by rw [h8_size, hm.nl]) (fun t ht => h8_get (by rw [hm.nl]; exact ht)) (fun t _ => bat_rng hm.nb t)).mono ?_; rintro e u3 ⟨rfl, hb3⟩
          have H3 := H2.trans (hb3.mono H2.size)
          have h4_3 := Arr.bel h4_2 hb3
          go_wp2_with fail
          refine hK.out _ _ H3 (fun hHeld => ?_)
          clear hK K
          try simp only [Act.put, List.setIfInBounds_toArray, List.set_cons_zero, List.set_cons_succ]
          refine wpAnyH_ready (rs := [7]) (by kernel_rfl) (by simp) ?_
          refine AllReadyH.cons (o := ⟨_, _, _, _, _, _⟩) rfl (fun K hK => ?_) (AllReadyH.nil)
          · go_simp
            go_wp2_with fail
            have H4 := H3.alloc H3.size (.cells #[.int .u64 0, .int .u64 0, .int .u64 0, .int .u64 0] 54)
            have hs4 : u3.heap.size = u3.heap.size := by simp
            have le5 : V.heap.size ≤ u3.heap.size := by rw [← hs4]; exact H3.size
            have h5_4 : Arr (u3.alloc (.cells #[.int .u64 0, .int .u64 0, .int .u64 0, .int .u64 0] 54)) (u3.heap.size) 54 #[.int .u64 0, .int .u64 0, .int .u64 0, .int .u64 0] := by have q := Arr.new u3 54 #[.int .u64 0, .int .u64 0, .int .u64 0, .int .u64 0]; rw [hs4] at q; exact q
            have ne45 : (V.heap.size) ≠ u3.heap.size := by have q := Arr.lt h4_3; rw [hs4] at q; omega
            have h4_4 := Arr.alloc h4_3 (.cells #[.int .u64 0, .int .u64 0, .int .u64 0, .int .u64 0] 54)
            refine hK.out _ _ H4 (fun hHeld => ?_)
            clear hK K
            try simp only [Act.put, List.setIfInBounds_toArray, List.set_cons_zero, List.set_cons_succ]
            skip
            refine wpAnyH_ready (rs := [8]) (by kernel_rfl) (by simp) ?_
            refine AllReadyH.cons (o := ⟨_, _, _, _, _, _⟩) rfl (fun K hK => ?_) AllReadyH.nil
            refine step_want rfl (wp_store_row 54 (.tmp 4) (.tmp 21) rfl (V.heap.size) (wordsOf (bat m.ky)) rfl rfl 54 _ h4_4 (s30u _) (by rw [wordsOf_size]; rfl) (u64s_one _ _) ?_)
            have HS8 := below_setRow H4 le4 (wordsOf (bat m.ky))
            have h4s := Arr.setRow h4_4 (wordsOf (bat m.ky))
            have h5s := Arr.setRowOther h5_4 (wordsOf (bat m.ky)) (Ne.symm ne45)
            refine hK.out _ _ HS8 (fun hHeld => ?_)
            clear hK K
            try simp only [Act.put, List.setIfInBounds_toArray, List.set_cons_zero, List.set_cons_succ]
            refine wpAnyH_ready (rs := [9]) (by kernel_rfl) (by simp) ?_
            refine AllReadyH.cons (o := ⟨_, _, _, _, _, _⟩) rfl (fun K hK => ?_) AllReadyH.nil
            refine step_want rfl (wp_store_row 54 (.tmp 5) (.tmp 24) rfl (u3.heap.size) (wordsOf (bat m.nx)) rfl rfl 54 _ h5s (s30u _) (by rw [wordsOf_size]; rfl) (u64s_one _ _) ?_)
            have HS9 := below_setRow HS8 le5 (wordsOf (bat m.nx))
            have h4t := Arr.setRowOther h4s (wordsOf (bat m.nx)) ne45
            have h5t := Arr.setRow h5s (wordsOf (bat m.nx))
            refine hK.out _ _ HS9 (fun hHeld => ?_)
            clear hK K
            try simp only [Act.put, List.setIfInBounds_toArray, List.set_cons_zero, List.set_cons_succ]
            refine wpAnyH_done (by kernel_rfl) ?_ _
            go_wp2_with fail
            go_meet
            exact ⟨_, _, rfl, rfl, le4, le5, ne45, h4t, h5t, HS9⟩
        · go_simp
          go_wp2_with fail
          have H3 := H2.alloc H2.size (.cells #[.int .u64 0, .int .u64 0, .int .u64 0, .int .u64 0] 54)
          have hs3 : u2.heap.size = u2.heap.size := by simp
          have le5 : V.heap.size ≤ u2.heap.size := by rw [← hs3]; exact H2.size
          have h5_3 : Arr (u2.alloc (.cells #[.int .u64 0, .int .u64 0, .int .u64 0, .int .u64 0] 54)) (u2.heap.size) 54 #[.int .u64 0, .int .u64 0, .int .u64 0, .int .u64 0] := by have q := Arr.new u2 54 #[.int .u64 0, .int .u64 0, .int .u64 0, .int .u64 0]; rw [hs3] at q; exact q
          have ne45 : (V.heap.size) ≠ u2.heap.size := by have q := Arr.lt h4_2; rw [hs3] at q; omega
          have h4_3 := Arr.alloc h4_2 (.cells #[.int .u64 0, .int .u64 0, .int .u64 0, .int .u64 0] 54)
          refine hK.out _ _ H3 (fun hHeld => ?_)
          clear hK K
          try simp only [Act.put, List.setIfInBounds_toArray, List.set_cons_zero, List.set_cons_succ]
          refine wpAnyH_ready (rs := [5]) (by kernel_rfl) (by simp) ?_
          refine AllReadyH.cons (o := ⟨_, _, _, _, _, _⟩) rfl (fun K hK => ?_) (AllReadyH.nil)
          · go_simp
            refine (words_any (h8 m.nx) (bat m.nx) _ (by rw [h8_size, hm.nl]) (fun t ht => h8_get (by rw [hm.nl]; exact ht)) (fun t _ => bat_rng hm.nb t)).mono ?_; rintro e u4 ⟨rfl, hb4⟩
            have H4 := H3.trans (hb4.mono H3.size)
            have h4_4 := Arr.bel h4_3 hb4
            have h5_4 := Arr.bel h5_3 hb4
            go_wp2_with fail
            refine hK.out _ _ H4 (fun hHeld => ?_)
            clear hK K
            try simp only [Act.put, List.setIfInBounds_toArray, List.set_cons_zero, List.set_cons_succ]
            skip
            refine wpAnyH_ready (rs := [8]) (by kernel_rfl) (by simp) ?_
            refine AllReadyH.cons (o := ⟨_, _, _, _, _, _⟩) rfl (fun K hK => ?_) AllReadyH.nil
            refine step_want rfl (wp_store_row 54 (.tmp 4) (.tmp 21) rfl (V.heap.size) (wordsOf (bat m.ky)) rfl rfl 54 _ h4_4 (s30u _) (by rw [wordsOf_size]; rfl) (u64s_one _ _) ?_)
            have HS8 := below_setRow H4 le4 (wordsOf (bat m.ky))
            have h4s := Arr.setRow h4_4 (wordsOf (bat m.ky))
            have h5s := Arr.setRowOther h5_4 (wordsOf (bat m.ky)) (Ne.symm ne45)
            refine hK.out _ _ HS8 (fun hHeld => ?_)
            clear hK K
            try simp only [Act.put, List.setIfInBounds_toArray, List.set_cons_zero, List.set_cons_succ]
            refine wpAnyH_ready (rs := [9]) (by kernel_rfl) (by simp) ?_
            refine AllReadyH.cons (o := ⟨_, _, _, _, _, _⟩) rfl (fun K hK => ?_) AllReadyH.nil
            refine step_want rfl (wp_store_row 54 (.tmp 5) (.tmp 24) rfl (u2.heap.size) (wordsOf (bat m.nx)) rfl rfl 54 _ h5s (s30u _) (by rw [wordsOf_size]; rfl) (u64s_one _ _) ?_)
            have HS9 := below_setRow HS8 le5 (wordsOf (bat m.nx))
            have h4t := Arr.setRowOther h4s (wordsOf (bat m.nx)) ne45
            have h5t := Arr.setRow h5s (wordsOf (bat m.nx))
            refine hK.out _ _ HS9 (fun hHeld => ?_)
            clear hK K
            try simp only [Act.put, List.setIfInBounds_toArray, List.set_cons_zero, List.set_cons_succ]
            refine wpAnyH_done (by kernel_rfl) ?_ _
            go_wp2_with fail
            go_meet
            exact ⟨_, _, rfl, rfl, le4, le5, ne45, h4t, h5t, HS9⟩
      · go_simp
        go_wp2_with fail
        have H2 := H1.alloc H1.size (.cells #[.int .u64 0, .int .u64 0, .int .u64 0, .int .u64 0] 54)
        have hs2 : (V.drew.alloc (.cells #[.int .u64 0, .int .u64 0, .int .u64 0, .int .u64 0] 54)).heap.size = V.heap.size + 1 := by simp
        have le5 : V.heap.size ≤ V.heap.size + 1 := by rw [← hs2]; exact H1.size
        have h5_2 : Arr ((V.drew.alloc (.cells #[.int .u64 0, .int .u64 0, .int .u64 0, .int .u64 0] 54)).alloc (.cells #[.int .u64 0, .int .u64 0, .int .u64 0, .int .u64 0] 54)) (V.heap.size + 1) 54 #[.int .u64 0, .int .u64 0, .int .u64 0, .int .u64 0] := by have q := Arr.new (V.drew.alloc (.cells #[.int .u64 0, .int .u64 0, .int .u64 0, .int .u64 0] 54)) 54 #[.int .u64 0, .int .u64 0, .int .u64 0, .int .u64 0]; rw [hs2] at q; exact q
        have ne45 : (V.heap.size) ≠ V.heap.size + 1 := by have q := Arr.lt h4_1; rw [hs2] at q; omega
        have h4_2 := Arr.alloc h4_1 (.cells #[.int .u64 0, .int .u64 0, .int .u64 0, .int .u64 0] 54)
        refine hK.out _ _ H2 (fun hHeld => ?_)
        clear hK K
        try simp only [Act.put, List.setIfInBounds_toArray, List.set_cons_zero, List.set_cons_succ]
        refine wpAnyH_ready (rs := [2]) (by kernel_rfl) (by simp) ?_
        refine AllReadyH.cons (o := ⟨_, _, _, _, _, _⟩) rfl (fun K hK => ?_) (AllReadyH.nil)
        · go_simp
          refine (words_any (h8 m.ky) (bat m.ky) _ (by rw [h8_size, hm.kl]) (fun t ht => h8_get (by rw [hm.kl]; exact ht)) (fun t _ => bat_rng hm.kb t)).mono ?_; rintro e u3 ⟨rfl, hb3⟩
          have H3 := H2.trans (hb3.mono H2.size)
          have h4_3 := Arr.bel h4_2 hb3
          have h5_3 := Arr.bel h5_2 hb3
          go_wp2_with fail
          refine hK.out _ _ H3 (fun hHeld => ?_)
          clear hK K
          try simp only [Act.put, List.setIfInBounds_toArray, List.set_cons_zero, List.set_cons_succ]
          refine wpAnyH_ready (rs := [5]) (by kernel_rfl) (by simp) ?_
          refine AllReadyH.cons (o := ⟨_, _, _, _, _, _⟩) rfl (fun K hK => ?_) (AllReadyH.nil)
          · go_simp
            refine (words_any (h8 m.nx) (bat m.nx) _ (by rw [h8_size, hm.nl]) (fun t ht => h8_get (by rw [hm.nl]; exact ht)) (fun t _ => bat_rng hm.nb t)).mono ?_; rintro e u4 ⟨rfl, hb4⟩
            have H4 := H3.trans (hb4.mono H3.size)
            have h4_4 := Arr.bel h4_3 hb4
            have h5_4 := Arr.bel h5_3 hb4
            go_wp2_with fail
            refine hK.out _ _ H4 (fun hHeld => ?_)
            clear hK K
            try simp only [Act.put, List.setIfInBounds_toArray, List.set_cons_zero, List.set_cons_succ]
            skip
            refine wpAnyH_ready (rs := [8]) (by kernel_rfl) (by simp) ?_
            refine AllReadyH.cons (o := ⟨_, _, _, _, _, _⟩) rfl (fun K hK => ?_) AllReadyH.nil
            refine step_want rfl (wp_store_row 54 (.tmp 4) (.tmp 21) rfl (V.heap.size) (wordsOf (bat m.ky)) rfl rfl 54 _ h4_4 (s30u _) (by rw [wordsOf_size]; rfl) (u64s_one _ _) ?_)
            have HS8 := below_setRow H4 le4 (wordsOf (bat m.ky))
            have h4s := Arr.setRow h4_4 (wordsOf (bat m.ky))
            have h5s := Arr.setRowOther h5_4 (wordsOf (bat m.ky)) (Ne.symm ne45)
            refine hK.out _ _ HS8 (fun hHeld => ?_)
            clear hK K
            try simp only [Act.put, List.setIfInBounds_toArray, List.set_cons_zero, List.set_cons_succ]
            refine wpAnyH_ready (rs := [9]) (by kernel_rfl) (by simp) ?_
            refine AllReadyH.cons (o := ⟨_, _, _, _, _, _⟩) rfl (fun K hK => ?_) AllReadyH.nil
            refine step_want rfl (wp_store_row 54 (.tmp 5) (.tmp 24) rfl (V.heap.size + 1) (wordsOf (bat m.nx)) rfl rfl 54 _ h5s (s30u _) (by rw [wordsOf_size]; rfl) (u64s_one _ _) ?_)
            have HS9 := below_setRow HS8 le5 (wordsOf (bat m.nx))
            have h4t := Arr.setRowOther h4s (wordsOf (bat m.nx)) ne45
            have h5t := Arr.setRow h5s (wordsOf (bat m.nx))
            refine hK.out _ _ HS9 (fun hHeld => ?_)
            clear hK K
            try simp only [Act.put, List.setIfInBounds_toArray, List.set_cons_zero, List.set_cons_succ]
            refine wpAnyH_done (by kernel_rfl) ?_ _
            go_wp2_with fail
            go_meet
            exact ⟨_, _, rfl, rfl, le4, le5, ne45, h4t, h5t, HS9⟩
    · go_simp
      go_wp2_with fail
      have H1 := H0.alloc H0.size (.cells #[.int .u64 0, .int .u64 0, .int .u64 0, .int .u64 0] 54)
      have hs1 : V.drew.heap.size = V.heap.size := by simp
      have le5 : V.heap.size ≤ V.heap.size := by rw [← hs1]; exact H0.size
      have h5_1 : Arr (V.drew.alloc (.cells #[.int .u64 0, .int .u64 0, .int .u64 0, .int .u64 0] 54)) (V.heap.size) 54 #[.int .u64 0, .int .u64 0, .int .u64 0, .int .u64 0] := by have q := Arr.new V.drew 54 #[.int .u64 0, .int .u64 0, .int .u64 0, .int .u64 0]; rw [hs1] at q; exact q
      refine hK.out _ _ H1 (fun hHeld => ?_)
      clear hK K
      try simp only [Act.put, List.setIfInBounds_toArray, List.set_cons_zero, List.set_cons_succ]
      refine wpAnyH_ready (rs := [2, 6]) (by kernel_rfl) (by simp) ?_
      refine AllReadyH.cons (o := ⟨_, _, _, _, _, _⟩) rfl (fun K hK => ?_) (AllReadyH.cons (o := ⟨_, _, _, _, _, _⟩) rfl (fun K hK => ?_) (AllReadyH.nil))
      · go_simp
        refine (words_any (h8 m.ky) (bat m.ky) _ (by rw [h8_size, hm.kl]) (fun t ht => h8_get (by rw [hm.kl]; exact ht)) (fun t _ => bat_rng hm.kb t)).mono ?_; rintro e u2 ⟨rfl, hb2⟩
        have H2 := H1.trans (hb2.mono H1.size)
        have h5_2 := Arr.bel h5_1 hb2
        go_wp2_with fail
        refine hK.out _ _ H2 (fun hHeld => ?_)
        clear hK K
        try simp only [Act.put, List.setIfInBounds_toArray, List.set_cons_zero, List.set_cons_succ]
        refine wpAnyH_ready (rs := [5, 6]) (by kernel_rfl) (by simp) ?_
        refine AllReadyH.cons (o := ⟨_, _, _, _, _, _⟩) rfl (fun K hK => ?_) (AllReadyH.cons (o := ⟨_, _, _, _, _, _⟩) rfl (fun K hK => ?_) (AllReadyH.nil))
        · go_simp
          refine (words_any (h8 m.nx) (bat m.nx) _ (by rw [h8_size, hm.nl]) (fun t ht => h8_get (by rw [hm.nl]; exact ht)) (fun t _ => bat_rng hm.nb t)).mono ?_; rintro e u3 ⟨rfl, hb3⟩
          have H3 := H2.trans (hb3.mono H2.size)
          have h5_3 := Arr.bel h5_2 hb3
          go_wp2_with fail
          refine hK.out _ _ H3 (fun hHeld => ?_)
          clear hK K
          try simp only [Act.put, List.setIfInBounds_toArray, List.set_cons_zero, List.set_cons_succ]
          refine wpAnyH_ready (rs := [6]) (by kernel_rfl) (by simp) ?_
          refine AllReadyH.cons (o := ⟨_, _, _, _, _, _⟩) rfl (fun K hK => ?_) (AllReadyH.nil)
          · go_simp
            go_wp2_with fail
            have H4 := H3.alloc H3.size (.cells #[.int .u64 0, .int .u64 0, .int .u64 0, .int .u64 0] 54)
            have hs4 : u3.heap.size = u3.heap.size := by simp
            have le4 : V.heap.size ≤ u3.heap.size := by rw [← hs4]; exact H3.size
            have h4_4 : Arr (u3.alloc (.cells #[.int .u64 0, .int .u64 0, .int .u64 0, .int .u64 0] 54)) (u3.heap.size) 54 #[.int .u64 0, .int .u64 0, .int .u64 0, .int .u64 0] := by have q := Arr.new u3 54 #[.int .u64 0, .int .u64 0, .int .u64 0, .int .u64 0]; rw [hs4] at q; exact q
            have ne45 : u3.heap.size ≠ (V.heap.size) := by have q := Arr.lt h5_3; rw [hs4] at q; omega
            have h5_4 := Arr.alloc h5_3 (.cells #[.int .u64 0, .int .u64 0, .int .u64 0, .int .u64 0] 54)
            refine hK.out _ _ H4 (fun hHeld => ?_)
            clear hK K
            try simp only [Act.put, List.setIfInBounds_toArray, List.set_cons_zero, List.set_cons_succ]
            skip
            refine wpAnyH_ready (rs := [8]) (by kernel_rfl) (by simp) ?_
            refine AllReadyH.cons (o := ⟨_, _, _, _, _, _⟩) rfl (fun K hK => ?_) AllReadyH.nil
            refine step_want rfl (wp_store_row 54 (.tmp 4) (.tmp 21) rfl (u3.heap.size) (wordsOf (bat m.ky)) rfl rfl 54 _ h4_4 (s30u _) (by rw [wordsOf_size]; rfl) (u64s_one _ _) ?_)
            have HS8 := below_setRow H4 le4 (wordsOf (bat m.ky))
            have h4s := Arr.setRow h4_4 (wordsOf (bat m.ky))
            have h5s := Arr.setRowOther h5_4 (wordsOf (bat m.ky)) (Ne.symm ne45)
            refine hK.out _ _ HS8 (fun hHeld => ?_)
            clear hK K
            try simp only [Act.put, List.setIfInBounds_toArray, List.set_cons_zero, List.set_cons_succ]
            refine wpAnyH_ready (rs := [9]) (by kernel_rfl) (by simp) ?_
            refine AllReadyH.cons (o := ⟨_, _, _, _, _, _⟩) rfl (fun K hK => ?_) AllReadyH.nil
            refine step_want rfl (wp_store_row 54 (.tmp 5) (.tmp 24) rfl (V.heap.size) (wordsOf (bat m.nx)) rfl rfl 54 _ h5s (s30u _) (by rw [wordsOf_size]; rfl) (u64s_one _ _) ?_)
            have HS9 := below_setRow HS8 le5 (wordsOf (bat m.nx))
            have h4t := Arr.setRowOther h4s (wordsOf (bat m.nx)) ne45
            have h5t := Arr.setRow h5s (wordsOf (bat m.nx))
            refine hK.out _ _ HS9 (fun hHeld => ?_)
            clear hK K
            try simp only [Act.put, List.setIfInBounds_toArray, List.set_cons_zero, List.set_cons_succ]
            refine wpAnyH_done (by kernel_rfl) ?_ _
            go_wp2_with fail
            go_meet
            exact ⟨_, _, rfl, rfl, le4, le5, ne45, h4t, h5t, HS9⟩
        · go_simp
          go_wp2_with fail
          have H3 := H2.alloc H2.size (.cells #[.int .u64 0, .int .u64 0, .int .u64 0, .int .u64 0] 54)
          have hs3 : u2.heap.size = u2.heap.size := by simp
          have le4 : V.heap.size ≤ u2.heap.size := by rw [← hs3]; exact H2.size
          have h4_3 : Arr (u2.alloc (.cells #[.int .u64 0, .int .u64 0, .int .u64 0, .int .u64 0] 54)) (u2.heap.size) 54 #[.int .u64 0, .int .u64 0, .int .u64 0, .int .u64 0] := by have q := Arr.new u2 54 #[.int .u64 0, .int .u64 0, .int .u64 0, .int .u64 0]; rw [hs3] at q; exact q
          have ne45 : u2.heap.size ≠ (V.heap.size) := by have q := Arr.lt h5_2; rw [hs3] at q; omega
          have h5_3 := Arr.alloc h5_2 (.cells #[.int .u64 0, .int .u64 0, .int .u64 0, .int .u64 0] 54)
          refine hK.out _ _ H3 (fun hHeld => ?_)
          clear hK K
          try simp only [Act.put, List.setIfInBounds_toArray, List.set_cons_zero, List.set_cons_succ]
          refine wpAnyH_ready (rs := [5]) (by kernel_rfl) (by simp) ?_
          refine AllReadyH.cons (o := ⟨_, _, _, _, _, _⟩) rfl (fun K hK => ?_) (AllReadyH.nil)
          · go_simp
            refine (words_any (h8 m.nx) (bat m.nx) _ (by rw [h8_size, hm.nl]) (fun t ht => h8_get (by rw [hm.nl]; exact ht)) (fun t _ => bat_rng hm.nb t)).mono ?_; rintro e u4 ⟨rfl, hb4⟩
            have H4 := H3.trans (hb4.mono H3.size)
            have h4_4 := Arr.bel h4_3 hb4
            have h5_4 := Arr.bel h5_3 hb4
            go_wp2_with fail
            refine hK.out _ _ H4 (fun hHeld => ?_)
            clear hK K
            try simp only [Act.put, List.setIfInBounds_toArray, List.set_cons_zero, List.set_cons_succ]
            skip
            refine wpAnyH_ready (rs := [8]) (by kernel_rfl) (by simp) ?_
            refine AllReadyH.cons (o := ⟨_, _, _, _, _, _⟩) rfl (fun K hK => ?_) AllReadyH.nil
            refine step_want rfl (wp_store_row 54 (.tmp 4) (.tmp 21) rfl (u2.heap.size) (wordsOf (bat m.ky)) rfl rfl 54 _ h4_4 (s30u _) (by rw [wordsOf_size]; rfl) (u64s_one _ _) ?_)
            have HS8 := below_setRow H4 le4 (wordsOf (bat m.ky))
            have h4s := Arr.setRow h4_4 (wordsOf (bat m.ky))
            have h5s := Arr.setRowOther h5_4 (wordsOf (bat m.ky)) (Ne.symm ne45)
            refine hK.out _ _ HS8 (fun hHeld => ?_)
            clear hK K
            try simp only [Act.put, List.setIfInBounds_toArray, List.set_cons_zero, List.set_cons_succ]
            refine wpAnyH_ready (rs := [9]) (by kernel_rfl) (by simp) ?_
            refine AllReadyH.cons (o := ⟨_, _, _, _, _, _⟩) rfl (fun K hK => ?_) AllReadyH.nil
            refine step_want rfl (wp_store_row 54 (.tmp 5) (.tmp 24) rfl (V.heap.size) (wordsOf (bat m.nx)) rfl rfl 54 _ h5s (s30u _) (by rw [wordsOf_size]; rfl) (u64s_one _ _) ?_)
            have HS9 := below_setRow HS8 le5 (wordsOf (bat m.nx))
            have h4t := Arr.setRowOther h4s (wordsOf (bat m.nx)) ne45
            have h5t := Arr.setRow h5s (wordsOf (bat m.nx))
            refine hK.out _ _ HS9 (fun hHeld => ?_)
            clear hK K
            try simp only [Act.put, List.setIfInBounds_toArray, List.set_cons_zero, List.set_cons_succ]
            refine wpAnyH_done (by kernel_rfl) ?_ _
            go_wp2_with fail
            go_meet
            exact ⟨_, _, rfl, rfl, le4, le5, ne45, h4t, h5t, HS9⟩
      · go_simp
        go_wp2_with fail
        have H2 := H1.alloc H1.size (.cells #[.int .u64 0, .int .u64 0, .int .u64 0, .int .u64 0] 54)
        have hs2 : (V.drew.alloc (.cells #[.int .u64 0, .int .u64 0, .int .u64 0, .int .u64 0] 54)).heap.size = V.heap.size + 1 := by simp
        have le4 : V.heap.size ≤ V.heap.size + 1 := by rw [← hs2]; exact H1.size
        have h4_2 : Arr ((V.drew.alloc (.cells #[.int .u64 0, .int .u64 0, .int .u64 0, .int .u64 0] 54)).alloc (.cells #[.int .u64 0, .int .u64 0, .int .u64 0, .int .u64 0] 54)) (V.heap.size + 1) 54 #[.int .u64 0, .int .u64 0, .int .u64 0, .int .u64 0] := by have q := Arr.new (V.drew.alloc (.cells #[.int .u64 0, .int .u64 0, .int .u64 0, .int .u64 0] 54)) 54 #[.int .u64 0, .int .u64 0, .int .u64 0, .int .u64 0]; rw [hs2] at q; exact q
        have ne45 : V.heap.size + 1 ≠ (V.heap.size) := by have q := Arr.lt h5_1; rw [hs2] at q; omega
        have h5_2 := Arr.alloc h5_1 (.cells #[.int .u64 0, .int .u64 0, .int .u64 0, .int .u64 0] 54)
        refine hK.out _ _ H2 (fun hHeld => ?_)
        clear hK K
        try simp only [Act.put, List.setIfInBounds_toArray, List.set_cons_zero, List.set_cons_succ]
        refine wpAnyH_ready (rs := [2]) (by kernel_rfl) (by simp) ?_
        refine AllReadyH.cons (o := ⟨_, _, _, _, _, _⟩) rfl (fun K hK => ?_) (AllReadyH.nil)
        · go_simp
          refine (words_any (h8 m.ky) (bat m.ky) _ (by rw [h8_size, hm.kl]) (fun t ht => h8_get (by rw [hm.kl]; exact ht)) (fun t _ => bat_rng hm.kb t)).mono ?_; rintro e u3 ⟨rfl, hb3⟩
          have H3 := H2.trans (hb3.mono H2.size)
          have h4_3 := Arr.bel h4_2 hb3
          have h5_3 := Arr.bel h5_2 hb3
          go_wp2_with fail
          refine hK.out _ _ H3 (fun hHeld => ?_)
          clear hK K
          try simp only [Act.put, List.setIfInBounds_toArray, List.set_cons_zero, List.set_cons_succ]
          refine wpAnyH_ready (rs := [5]) (by kernel_rfl) (by simp) ?_
          refine AllReadyH.cons (o := ⟨_, _, _, _, _, _⟩) rfl (fun K hK => ?_) (AllReadyH.nil)
          · go_simp
            refine (words_any (h8 m.nx) (bat m.nx) _ (by rw [h8_size, hm.nl]) (fun t ht => h8_get (by rw [hm.nl]; exact ht)) (fun t _ => bat_rng hm.nb t)).mono ?_; rintro e u4 ⟨rfl, hb4⟩
            have H4 := H3.trans (hb4.mono H3.size)
            have h4_4 := Arr.bel h4_3 hb4
            have h5_4 := Arr.bel h5_3 hb4
            go_wp2_with fail
            refine hK.out _ _ H4 (fun hHeld => ?_)
            clear hK K
            try simp only [Act.put, List.setIfInBounds_toArray, List.set_cons_zero, List.set_cons_succ]
            skip
            refine wpAnyH_ready (rs := [8]) (by kernel_rfl) (by simp) ?_
            refine AllReadyH.cons (o := ⟨_, _, _, _, _, _⟩) rfl (fun K hK => ?_) AllReadyH.nil
            refine step_want rfl (wp_store_row 54 (.tmp 4) (.tmp 21) rfl (V.heap.size + 1) (wordsOf (bat m.ky)) rfl rfl 54 _ h4_4 (s30u _) (by rw [wordsOf_size]; rfl) (u64s_one _ _) ?_)
            have HS8 := below_setRow H4 le4 (wordsOf (bat m.ky))
            have h4s := Arr.setRow h4_4 (wordsOf (bat m.ky))
            have h5s := Arr.setRowOther h5_4 (wordsOf (bat m.ky)) (Ne.symm ne45)
            refine hK.out _ _ HS8 (fun hHeld => ?_)
            clear hK K
            try simp only [Act.put, List.setIfInBounds_toArray, List.set_cons_zero, List.set_cons_succ]
            refine wpAnyH_ready (rs := [9]) (by kernel_rfl) (by simp) ?_
            refine AllReadyH.cons (o := ⟨_, _, _, _, _, _⟩) rfl (fun K hK => ?_) AllReadyH.nil
            refine step_want rfl (wp_store_row 54 (.tmp 5) (.tmp 24) rfl (V.heap.size) (wordsOf (bat m.nx)) rfl rfl 54 _ h5s (s30u _) (by rw [wordsOf_size]; rfl) (u64s_one _ _) ?_)
            have HS9 := below_setRow HS8 le5 (wordsOf (bat m.nx))
            have h4t := Arr.setRowOther h4s (wordsOf (bat m.nx)) ne45
            have h5t := Arr.setRow h5s (wordsOf (bat m.nx))
            refine hK.out _ _ HS9 (fun hHeld => ?_)
            clear hK K
            try simp only [Act.put, List.setIfInBounds_toArray, List.set_cons_zero, List.set_cons_succ]
            refine wpAnyH_done (by kernel_rfl) ?_ _
            go_wp2_with fail
            go_meet
            exact ⟨_, _, rfl, rfl, le4, le5, ne45, h4t, h5t, HS9⟩
  case rest =>
    obtain ⟨b4, b5, rfl, rfl, l4, l5, n45, B4, B5, hbc⟩ := hcut
    have A2 := A1.below hbc A1.lt
    have R2 := R1.below hbc R1.lt
    have L2 := L1.below hbc L1.lt
    have hB2 := hB1.trans (hbc.mono hB1.size)
    have n4 : w.heap.size + 1 + 1 ≠ b4 := by have := L1.lt; omega
    have n5 : w.heap.size + 1 + 1 ≠ b5 := by have := L1.lt; omega
    clear A1 R1 L1
    go_wp2_with fail
    go_loopw [25] (fun i wr => ∃ k : Nat, k ≤ 4 ∧ i = .int .i64 k ∧ Arr wr (w.heap.size + 1) 41 #[.int .u64 0, .int .u64 0, .int .u64 0, .int .u64 0, .int .u64 0, .int .u64 0, .int .u64 0, .int .u64 0, .int .u64 0, .int .u64 0, .int .u64 0, .int .u64 0, .int .u64 0] ∧ Arr wr (w.heap.size + 1 + 1) 41 (u64s 13 (wk m k)) ∧ Arr wr b4 54 (wordsOf (bat m.ky)) ∧ Arr wr b5 54 (wordsOf (bat m.nx)) ∧ Below w.heap.size w wr) (fun i _ => 4 - (intOf i).toNat)
    case atStart => exact ⟨0, by omega, rfl, R2, L2, B4, B5, hB2⟩
    case round =>
      obtain ⟨k, hk, rfl, R3, L3, C4, C5, hB3⟩ := hrel
      clear R2 L2 B4 B5 hB2
      by_cases hlt : k < 4
      · have h3 : (k : Int) < 4 := by omega
        have h4 : (0 : Int) ≤ k := by omega
        have h5 : (5 : Int) + k < 13 := by omega
        have h6 : (0 : Int) ≤ 5 + k := by omega
        have h7 : (9 : Int) + k < 13 := by omega
        have h8' : (0 : Int) ≤ 9 + k := by omega
        have e5 : (5 + (k : Int)).toNat = 5 + k := by omega
        have e9 : (9 + (k : Int)).toNat = 9 + k := by omega
        have x4 : wr.cell? ⟨b4, k, none⟩ = some (.int .u64 (wacc (bat m.ky) k 8)) := (C4.cell _).trans (u64s_get hlt)
        have x5 : wr.cell? ⟨b5, k, none⟩ = some (.int .u64 (wacc (bat m.nx) k 8)) := (C5.cell _).trans (u64s_get hlt)
        have y5 : wr.cell? ⟨w.heap.size + 1 + 1, 5 + k, none⟩ = some (.int .u64 (wk m k (5 + k))) := (L3.cell _).trans (u64s_get (by omega))
        have y9 : wr.cell? ⟨w.heap.size + 1 + 1, 9 + k, none⟩ = some (.int .u64 (wk m k (9 + k))) := (L3.cell _).trans (u64s_get (by omega))
        have f5 := L3.frozen (5 + k)
        have f9 := L3.frozen (9 + k)
        go_wp2_with fail
        go_region
        go_wp2_with fail
        go_roundw
        case rel =>
          have L4 := (L3.set (5 + k) (.int .u64 (wacc (bat m.ky) k 8))).set (9 + k) (.int .u64 (wacc (bat m.nx) k 8))
          rw [wk_step m hlt] at L4
          exact ⟨k + 1, by omega, by go_num, ((R3.setOther _ (by simp)).setOther _ (by simp)).drew, L4.drew, ((C4.setOther _ (by simp; omega)).setOther _ (by simp; omega)).drew, ((C5.setOther _ (by simp; omega)).setOther _ (by simp; omega)).drew, ((hB3.setCell (by simp; omega) _).setCell (by simp; omega) _).drew⟩
        case measure => simp [intOf]; omega
      · obtain rfl : k = 4 := by omega
        rw [wk_all] at L3
        go_wp2_with (first
          | (refine atL 41 (.tmp 3) ?_; refine wpList_load_row (by rfl) 41 (.tmp 3) (by rfl) (w.heap.size + 1 + 1) (by rfl) 41 (u64s 13 (w13 m)) (0, 0) _ L3 Try.underlying41 rfl (s41u _) ?_)
          | (refine atS 41 (.tmp 2) (.tmp 41) ?_; refine wpList_store_arr (by rfl) 41 (.tmp 2) (.tmp 41) (by rfl) (w.heap.size + 1) (u64s 13 (w13 m)) (by rfl) (by rfl) 41 _ R3 (s41u _) (by rw [u64s_size]; rfl) (u64s_one _ _) ?_))
        exact bodyPost_ret (v := .agg (u64s 13 (w13 m))) (results_cell_row Try.results16 _ _ (w.heap.size + 1) 41 _ (0, 0) _ rfl (R3.setRow _) Try.underlying41 rfl (s41u _)) rfl ⟨rfl, below_setRow hB3 (by omega) _⟩
end Go.Proofs.Ytoanfiikeeacdaa
