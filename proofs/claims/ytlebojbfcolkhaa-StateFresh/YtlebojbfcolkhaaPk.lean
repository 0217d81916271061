/- Layer state: Check, CheckOut. -/
import Derived.Test.YtlebojbfcolkhaaA23
namespace Go.Proofs.Ytlebojbfcolkhaa
open Go.RowKit
set_option maxRecDepth 100000
set_option linter.unusedVariables false
set_option linter.unusedSimpArgs false

theorem ckA_ok (R : List Int) (i : Int) (a : Ac) (ls : List (List Int)) (o : List Int) (c : Int) (hl : ls.length = 5) (h32 : c ≤ 32) (h0 : 0 ≤ i) (h1 : i < 32) : ckB R i (lf (acb a)) (ls ++ [o, cnt c]) = ckA R i a ls o c := by
  unfold ckB ckA
  have e : (i : Int).toNat = i.toNat := by omega
  have hf : FoOK i (ls ++ [o, cnt c]).length := by
    refine ⟨by simp [hl], by omega, ?_⟩
    have : (ls ++ [o, cnt c]).length = 7 := by simp [hl]
    rw [this]
    show i < 128
    omega
  rw [e]
  congr 1
  exact propext ⟨fun q => ⟨⟨hl, h32, h0, h1⟩, q.2⟩, fun q => ⟨hf, q.2⟩⟩
set_option maxHeartbeats 2000000 in
theorem scheck_ok (R : List Int) (i : Int) (a : Ac) (N : Nat) (sp : Option Addr) (n cap : Nat) (ls : List (List Int)) (o : List Int) (c : Int) (w : World) (hR : R.length = 32) (ha : AcOK a) (hW : WT N w sp n cap ls o c) (h5 : n = 5) (h32 : c ≤ 32) (h0 : 0 ≤ i) (h1 : i < 32) :
    Calls Try.prog 23 #[.agg (h8 R), .int .i64 i, .agg a.arr, .agg (wtA sp n cap o c)] w fun e w' => e = .returned (.bool (ckA R i a ls o c)) ∧ Below w.heap.size w w' := by
  have hW := hW.here
  have hck := Hid.mk' (ckA_ok R i a ls o c (by rw [← hW.path.len.out]; exact h5) h32 h0 h1)
  have X0 := ((Arr.new w 24 (h8 R)).alloc (.cells a.arr 26)).alloc (.cells (wtA sp n cap o c) 44)
  have Y0 := (show Arr ((w.alloc (.cells (h8 R) 24)).alloc (.cells a.arr 26)) (w.heap.size + 1) 26 a.arr from (by simpa using Arr.new (w.alloc (.cells (h8 R) 24)) 26 a.arr)).alloc (.cells (wtA sp n cap o c) 44)
  have V0 := Arr.new3 w (.cells (h8 R) 24) (.cells a.arr 26) 44 (wtA sp n cap o c)
  have B0 := ((alloc_bel' w (.cells (h8 R) 24)).alloc (by simp) (.cells a.arr 26)).alloc (by simp; omega) (.cells (wtA sp n cap o c) 44)
  have hM := mayW_any sp n cap o c (((w.alloc (.cells (h8 R) 24)).alloc (.cells a.arr 26)).alloc (.cells (wtA sp n cap o c) 44)) hW.o32 (by omega)
  rw [decide_eq_true ⟨h5, h32⟩] at hM
  have hI0 : ¬ i < 0 := by omega
  have hI1 : ¬ i ≥ 32 := by omega
  replace hM := Hid.mk' hM
  have hn100 : n ≤ 100 := by omega
  replace h5 := Hid.mk' h5
  go_enter Try.func23, Try.ntmps23
  go_upto_region 3 with (first
    | (refine ld44 (by rfl) _ (by rfl) (w.heap.size + 2) 0 (by rfl) sp n cap o c hW.o32 V0.wt ?_)
    | (go_at_call 55; go_must (refine hM.out.mono ?_; rintro e w1 ⟨rfl, hbM⟩)))
  replace B0 := (B0.trans (hbM.mono B0.size)).drew
  replace X0 := (X0.below hbM X0.lt).drew
  replace Y0 := (Y0.below hbM Y0.lt).drew
  replace V0 := (V0.below hbM V0.lt).drew
  clear hM
  refine wp_region_held_drew (S := fun u => Below w.heap.size w u ∧ Arr u w.heap.size 24 (h8 R) ∧ Arr u (w.heap.size + 1) 26 a.arr ∧ Arr u (w.heap.size + 2) 44 (wtA sp n cap o c)) (by kernel_rfl) (⟨B0, X0, Y0, V0⟩) (fun hHeld => ?_)
  refine wpAnyH_take (i := 0) (oi := ⟨_, _, _, _, _, _⟩) rfl (by kernel_rfl) (by kernel_rfl) (by kernel_rfl) (fun _ _ _ h => h) (y24 (by rfl) (.tmp 4) rfl w.heap.size 0 rfl R hR (fun u hu => hu.2.1.range)) (by assumption) ?_
  try simp only [Act.put, List.setIfInBounds_toArray, List.set_cons_zero, List.set_cons_succ]
  refine wpAnyH_take (i := 1) (oi := ⟨_, _, _, _, _, _⟩) (v := ?_) rfl (by kernel_rfl) (by kernel_rfl) (by kernel_rfl) (fun _ _ _ h => h) (Or.inl ⟨by rfl, ?_⟩) (by assumption) ?_
  rotate_left
  · intro u hSw
    go_simp
    try (with_reducible rfl)
  try simp only [Act.put, List.setIfInBounds_toArray, List.set_cons_zero, List.set_cons_succ]
  refine wpAnyH_take (i := 2) (oi := ⟨_, _, _, _, _, _⟩) rfl (by kernel_rfl) (by kernel_rfl) (by kernel_rfl) (fun _ _ _ h => h) (y26 (by rfl) (.tmp 6) rfl (w.heap.size + 1) 0 rfl a ha.l32 (fun u hu => hu.2.2.1.ac)) (by assumption) ?_
  try simp only [Act.put, List.setIfInBounds_toArray, List.set_cons_zero, List.set_cons_succ]
  refine wpAnyH_take (i := 5) (oi := ⟨_, _, _, _, _, _⟩) rfl (by kernel_rfl) (by kernel_rfl) (by kernel_rfl) (fun _ _ _ h => h) (y44 (by rfl) (.tmp 7) rfl (w.heap.size + 2) 0 rfl sp n cap o c hW.o32 (fun u hu => hu.2.2.2.wt)) (by assumption) ?_
  try simp only [Act.put, List.setIfInBounds_toArray, List.set_cons_zero, List.set_cons_succ]
  refine wpAnyH_ready (rs := [3]) (by kernel_rfl) (by simp) ?_
  refine AllReadyH.cons (o := ⟨_, _, _, _, _, _⟩) rfl (fun K hK => ?_) AllReadyH.nil
  go_simp
  refine (acBytes_any a _ ha).mono ?_; rintro e u1 ⟨v1, rfl, hown1, hb1⟩; have B1 := B0.trans (hb1.mono B0.size); have X1 := X0.below hb1 X0.lt; have Y1 := Y0.below hb1 Y0.lt; have V1 := V0.below hb1 V0.lt; obtain ⟨s1, k1, rfl, hS1, -⟩ := own_bs hown1 (acb_bts ha) (by omega)
  go_wp2_with fail
  refine hK.out _ _ ⟨B1, X1, Y1, V1⟩ (fun hHeld => ?_)
  clear hK K
  try simp only [Act.put, List.setIfInBounds_toArray, List.set_cons_zero, List.set_cons_succ]
  refine wpAnyH_ready (rs := [4]) (by kernel_rfl) (by simp) ?_
  refine AllReadyH.cons (o := ⟨_, _, _, _, _, _⟩) rfl (fun K hK => ?_) AllReadyH.nil
  go_simp
  refine (leaf_bs s1 48 k1 _ (acb a) _ hS1.toBS).mono ?_; rintro e u2 ⟨rfl, hb2⟩; have B2 := B1.trans (hb2.mono B1.size); have X2 := X1.below hb2 X1.lt; have Y2 := Y1.below hb2 Y1.lt; have V2 := V1.below hb2 V1.lt
  go_wp2_with fail
  refine hK.out _ _ ⟨B2, X2, Y2, V2⟩ (fun hHeld => ?_)
  clear hK K
  try simp only [Act.put, List.setIfInBounds_toArray, List.set_cons_zero, List.set_cons_succ]
  refine wpAnyH_ready (rs := [6]) (by kernel_rfl) (by simp) ?_
  refine AllReadyH.cons (o := ⟨_, _, _, _, _, _⟩) rfl (fun K hK => ?_) AllReadyH.nil
  go_simp
  refine (wayUp_any _ sp n cap ls o c _ (hW.below B2) hn100).mono ?_; rintro e u3 ⟨s3, k3, rfl, hH3, hb3⟩; have B3 := B2.trans (hb3.mono B2.size); have X3 := X2.below hb3 X2.lt; have Y3 := Y2.below hb3 Y2.lt; have V3 := V2.below hb3 V2.lt
  go_wp2_with fail
  refine hK.out _ _ ⟨B3, X3, Y3, V3⟩ (fun hHeld => ?_)
  clear hK K
  try simp only [Act.put, List.setIfInBounds_toArray, List.set_cons_zero, List.set_cons_succ]
  refine wpAnyH_ready (rs := [7]) (by kernel_rfl) (by simp) ?_
  refine AllReadyH.cons (o := ⟨_, _, _, _, _, _⟩) rfl (fun K hK => ?_) AllReadyH.nil
  go_simp
  refine (check_any R i (lf (acb a)) _ s3 (n + 2) k3 _ _ hR (lf_len _) hH3).mono ?_; rintro e u4 ⟨rfl, hb4⟩; have B4 := B3.trans (hb4.mono B3.size); have X4 := X3.below hb4 X3.lt; have Y4 := Y3.below hb4 Y3.lt; have V4 := V3.below hb4 V3.lt
  go_wp2_with fail
  refine hK.out _ _ ⟨B4, X4, Y4, V4⟩ (fun hHeld => ?_)
  clear hK K
  try simp only [Act.put, List.setIfInBounds_toArray, List.set_cons_zero, List.set_cons_succ]
  refine wpAnyH_take (i := 8) (oi := ⟨_, _, _, _, _, _⟩) (v := ?_) rfl (by kernel_rfl) (by kernel_rfl) (by kernel_rfl) (fun _ _ _ h => h) (Or.inl ⟨by rfl, ?_⟩) (by assumption) ?_
  rotate_left
  · intro u hSw
    go_simp
    try (with_reducible rfl)
  try simp only [Act.put, List.setIfInBounds_toArray, List.set_cons_zero, List.set_cons_succ]
  refine wpAnyH_done (by kernel_rfl) ?_ _

  go_wp2_with fail
  go_ret
  exact ⟨congrArg (fun b => Ending.returned (Value.bool b)) hck.out, B4⟩
set_option maxHeartbeats 2000000 in
theorem scheck_no (R : List Int) (i : Int) (a : Ac) (N : Nat) (sp : Option Addr) (n cap : Nat) (ls : List (List Int)) (o : List Int) (c : Int) (w : World) (hW : WT N w sp n cap ls o c) (hi : i ≤ 9223372036854775807) (h : ¬ (n = 5 ∧ c ≤ 32) ∨ i < 0 ∨ i ≥ 32) :
    Calls Try.prog 23 #[.agg (h8 R), .int .i64 i, .agg a.arr, .agg (wtA sp n cap o c)] w fun e w' => e = .returned (.bool false) ∧ Below w.heap.size w w' := by
  have V0 := Arr.new3 w (.cells (h8 R) 24) (.cells a.arr 26) 44 (wtA sp n cap o c)
  have B0 := ((alloc_bel' w (.cells (h8 R) 24)).alloc (by simp) (.cells a.arr 26)).alloc (by simp; omega) (.cells (wtA sp n cap o c) 44)
  have hM := mayW_any sp n cap o c (((w.alloc (.cells (h8 R) 24)).alloc (.cells a.arr 26)).alloc (.cells (wtA sp n cap o c) 44)) hW.o32 hW.path.small
  by_cases hm : n = 5 ∧ c ≤ 32
  · rw [decide_eq_true hm] at hM
    replace h : i < 0 ∨ i ≥ 32 := by rcases h with h | h; exact absurd hm h; exact h
    clear hm
    replace hM := Hid.mk' hM
    by_cases hI : i < 0
    · clear h
      go_enter Try.func23, Try.ntmps23
      go_wp2_with (first
        | (refine ld44 (by rfl) _ (by rfl) (w.heap.size + 2) 0 (by rfl) sp n cap o c hW.o32 V0.wt ?_)
        | (go_at_call 55; go_must (refine hM.out.mono ?_; rintro e w1 ⟨rfl, hbM⟩; have kc := wt_c' (V0.below hbM V0.lt).wt hW.o32)))
      go_ret
      exact ⟨rfl, B0.trans (hbM.mono B0.size)⟩
    · have hI1 : i ≥ 32 := by omega
      clear h
      have hwi : i % 18446744073709551616 = i := by omega
      go_enter Try.func23, Try.ntmps23
      go_wp2_with (first
        | (refine ld44 (by rfl) _ (by rfl) (w.heap.size + 2) 0 (by rfl) sp n cap o c hW.o32 V0.wt ?_)
        | (go_at_call 55; go_must (refine hM.out.mono ?_; rintro e w1 ⟨rfl, hbM⟩; have kc := wt_c' (V0.below hbM V0.lt).wt hW.o32)))
      go_ret
      exact ⟨rfl, B0.trans (hbM.mono B0.size)⟩
  · rw [decide_eq_false hm] at hM
    clear hm h
    replace hM := Hid.mk' hM
    go_enter Try.func23, Try.ntmps23
    go_wp2_with (first
      | (refine ld44 (by rfl) _ (by rfl) (w.heap.size + 2) 0 (by rfl) sp n cap o c hW.o32 V0.wt ?_)
      | (go_at_call 55; go_must (refine hM.out.mono ?_; rintro e w1 ⟨rfl, hbM⟩; have kc := wt_c' (V0.below hbM V0.lt).wt hW.o32)))
    go_ret
    exact ⟨rfl, B0.trans (hbM.mono B0.size)⟩
theorem scheck_any (R : List Int) (i : Int) (a : Ac) (N : Nat) (sp : Option Addr) (n cap : Nat) (ls : List (List Int)) (o : List Int) (c : Int) (w : World) (hR : R.length = 32) (ha : AcOK a) (hW : WT N w sp n cap ls o c) (hi : i ≤ 9223372036854775807) :
    Calls Try.prog 23 #[.agg (h8 R), .int .i64 i, .agg a.arr, .agg (wtA sp n cap o c)] w fun e w' => e = .returned (.bool (ckA R i a ls o c)) ∧ Below w.heap.size w w' := by
  by_cases h : n = 5 ∧ c ≤ 32 ∧ 0 ≤ i ∧ i < 32
  · exact scheck_ok R i a N sp n cap ls o c w hR ha hW h.1 h.2.1 h.2.2.1 h.2.2.2
  · have e : ckA R i a ls o c = false := by
      unfold ckA
      rw [decide_eq_false]
      rintro ⟨⟨h1, h2, h3, h4⟩, -⟩
      exact h ⟨by rw [hW.path.len.out]; exact h1, h2, h3, h4⟩
    rw [e]
    refine scheck_no R i a N sp n cap ls o c w hW hi ?_
    by_cases h5 : n = 5 ∧ c ≤ 32
    · right
      by_cases h0 : i < 0
      · exact .inl h0
      · right
        have : ¬ i < 32 := fun hb => h ⟨h5.1, h5.2, by omega, hb⟩
        omega
    · exact .inl h5
theorem ckO_ok (R : List Int) (i : Int) (a : Ou) (ls : List (List Int)) (o : List Int) (c : Int) (hl : ls.length = 5) (h32 : c ≤ 32) (h0 : 0 ≤ i) (h1 : i < c) : ckB R (32 + i) (lf (oub a)) (ls ++ [o, cnt c]) = ckO R i a ls o c := by
  unfold ckB ckO
  have e : ((32 + i) : Int).toNat = 32 + i.toNat := by omega
  have hf : FoOK (32 + i) (ls ++ [o, cnt c]).length := by
    refine ⟨by simp [hl], by omega, ?_⟩
    have : (ls ++ [o, cnt c]).length = 7 := by simp [hl]
    rw [this]
    show (32 + i) < 128
    omega
  rw [e]
  congr 1
  exact propext ⟨fun q => ⟨⟨hl, h32, h0, h1⟩, q.2⟩, fun q => ⟨hf, q.2⟩⟩
set_option maxHeartbeats 2000000 in
theorem scheckOut_ok (R : List Int) (i : Int) (a : Ou) (N : Nat) (sp : Option Addr) (n cap : Nat) (ls : List (List Int)) (o : List Int) (c : Int) (w : World) (hR : R.length = 32) (hW : WT N w sp n cap ls o c) (h5 : n = 5) (h32 : c ≤ 32) (h0 : 0 ≤ i) (h1 : i < c) :
    Calls Try.prog 25 #[.agg (h8 R), .int .i64 i, .agg a.arr, .agg (wtA sp n cap o c)] w fun e w' => e = .returned (.bool (ckO R i a ls o c)) ∧ Below w.heap.size w w' := by
  have hW := hW.here
  have hck := Hid.mk' (ckO_ok R i a ls o c (by rw [← hW.path.len.out]; exact h5) h32 h0 h1)
  have X0 := ((Arr.new w 24 (h8 R)).alloc (.cells a.arr 53)).alloc (.cells (wtA sp n cap o c) 44)
  have Y0 := (show Arr ((w.alloc (.cells (h8 R) 24)).alloc (.cells a.arr 53)) (w.heap.size + 1) 53 a.arr from (by simpa using Arr.new (w.alloc (.cells (h8 R) 24)) 53 a.arr)).alloc (.cells (wtA sp n cap o c) 44)
  have V0 := Arr.new3 w (.cells (h8 R) 24) (.cells a.arr 53) 44 (wtA sp n cap o c)
  have B0 := ((alloc_bel' w (.cells (h8 R) 24)).alloc (by simp) (.cells a.arr 53)).alloc (by simp; omega) (.cells (wtA sp n cap o c) 44)
  have hM := mayW_any sp n cap o c (((w.alloc (.cells (h8 R) 24)).alloc (.cells a.arr 53)).alloc (.cells (wtA sp n cap o c) 44)) hW.o32 (by omega)
  rw [decide_eq_true ⟨h5, h32⟩] at hM
  have hI0 : ¬ i < 0 := by omega
  have hI1 : ¬ i ≥ c := by omega
  have hwi : i % 18446744073709551616 = i := by have := hW.c1; omega
  have hwj : IntKind.i64.wrap (32 + i) = 32 + i := by rw [IntKind.wrap_i64]; omega
  replace hM := Hid.mk' hM
  have hn100 : n ≤ 100 := by omega
  replace h5 := Hid.mk' h5
  go_enter Try.func25, Try.ntmps25
  go_upto_region 3 with (first
    | (refine ld44 (by rfl) _ (by rfl) (w.heap.size + 2) 0 (by rfl) sp n cap o c hW.o32 V0.wt ?_)
    | (go_at_call 55; go_must (refine hM.out.mono ?_; rintro e w1 ⟨rfl, hbM⟩; have kc := wt_c' (V0.below hbM V0.lt).wt hW.o32)))
  replace B0 := (B0.trans (hbM.mono B0.size)).drew
  replace X0 := (X0.below hbM X0.lt).drew
  replace Y0 := (Y0.below hbM Y0.lt).drew
  replace V0 := (V0.below hbM V0.lt).drew
  clear hM
  refine wp_region_held_drew (S := fun u => Below w.heap.size w u ∧ Arr u w.heap.size 24 (h8 R) ∧ Arr u (w.heap.size + 1) 53 a.arr ∧ Arr u (w.heap.size + 2) 44 (wtA sp n cap o c)) (by kernel_rfl) (⟨B0, X0, Y0, V0⟩) (fun hHeld => ?_)
  refine wpAnyH_take (i := 0) (oi := ⟨_, _, _, _, _, _⟩) rfl (by kernel_rfl) (by kernel_rfl) (by kernel_rfl) (fun _ _ _ h => h) (y24 (by rfl) (.tmp 4) rfl w.heap.size 0 rfl R hR (fun u hu => hu.2.1.range)) (by assumption) ?_
  try simp only [Act.put, List.setIfInBounds_toArray, List.set_cons_zero, List.set_cons_succ]
  refine wpAnyH_take (i := 1) (oi := ⟨_, _, _, _, _, _⟩) (v := ?_) rfl (by kernel_rfl) (by kernel_rfl) (by kernel_rfl) (fun _ _ _ h => h) (Or.inl ⟨by rfl, ?_⟩) (by assumption) ?_
  rotate_left
  · intro u hSw
    go_simp
    try (with_reducible rfl)
  try simp only [Act.put, List.setIfInBounds_toArray, List.set_cons_zero, List.set_cons_succ]
  refine wpAnyH_take (i := 2) (oi := ⟨_, _, _, _, _, _⟩) (v := ?_) rfl (by kernel_rfl) (by kernel_rfl) (by kernel_rfl) (fun _ _ _ h => h) (Or.inl ⟨by rfl, ?_⟩) (by assumption) ?_
  rotate_left
  · intro u hSw
    go_simp
    try (with_reducible rfl)
  try simp only [Act.put, List.setIfInBounds_toArray, List.set_cons_zero, List.set_cons_succ]
  refine wpAnyH_take (i := 3) (oi := ⟨_, _, _, _, _, _⟩) rfl (by kernel_rfl) (by kernel_rfl) (by kernel_rfl) (fun _ _ _ h => h) (y53 (by rfl) (.tmp 6) rfl (w.heap.size + 1) 0 rfl a (fun u hu => hu.2.2.1.ou)) (by assumption) ?_
  try simp only [Act.put, List.setIfInBounds_toArray, List.set_cons_zero, List.set_cons_succ]
  refine wpAnyH_take (i := 6) (oi := ⟨_, _, _, _, _, _⟩) rfl (by kernel_rfl) (by kernel_rfl) (by kernel_rfl) (fun _ _ _ h => h) (y44 (by rfl) (.tmp 7) rfl (w.heap.size + 2) 0 rfl sp n cap o c hW.o32 (fun u hu => hu.2.2.2.wt)) (by assumption) ?_
  try simp only [Act.put, List.setIfInBounds_toArray, List.set_cons_zero, List.set_cons_succ]
  refine wpAnyH_ready (rs := [4]) (by kernel_rfl) (by simp) ?_
  refine AllReadyH.cons (o := ⟨_, _, _, _, _, _⟩) rfl (fun K hK => ?_) AllReadyH.nil
  go_simp
  refine (ouBytes_any a _).mono ?_; rintro e u1 ⟨v1, rfl, hown1, hb1⟩; have B1 := B0.trans (hb1.mono B0.size); have X1 := X0.below hb1 X0.lt; have Y1 := Y0.below hb1 Y0.lt; have V1 := V0.below hb1 V0.lt; obtain ⟨s1, k1, rfl, hS1, -⟩ := own_bs hown1 (oub_bts a) (by omega)
  go_wp2_with fail
  refine hK.out _ _ ⟨B1, X1, Y1, V1⟩ (fun hHeld => ?_)
  clear hK K
  try simp only [Act.put, List.setIfInBounds_toArray, List.set_cons_zero, List.set_cons_succ]
  refine wpAnyH_ready (rs := [5]) (by kernel_rfl) (by simp) ?_
  refine AllReadyH.cons (o := ⟨_, _, _, _, _, _⟩) rfl (fun K hK => ?_) AllReadyH.nil
  go_simp
  refine (leaf_bs s1 16 k1 _ (oub a) _ hS1.toBS).mono ?_; rintro e u2 ⟨rfl, hb2⟩; have B2 := B1.trans (hb2.mono B1.size); have X2 := X1.below hb2 X1.lt; have Y2 := Y1.below hb2 Y1.lt; have V2 := V1.below hb2 V1.lt
  go_wp2_with fail
  refine hK.out _ _ ⟨B2, X2, Y2, V2⟩ (fun hHeld => ?_)
  clear hK K
  try simp only [Act.put, List.setIfInBounds_toArray, List.set_cons_zero, List.set_cons_succ]
  refine wpAnyH_ready (rs := [7]) (by kernel_rfl) (by simp) ?_
  refine AllReadyH.cons (o := ⟨_, _, _, _, _, _⟩) rfl (fun K hK => ?_) AllReadyH.nil
  go_simp
  refine (wayUp_any _ sp n cap ls o c _ (hW.below B2) hn100).mono ?_; rintro e u3 ⟨s3, k3, rfl, hH3, hb3⟩; have B3 := B2.trans (hb3.mono B2.size); have X3 := X2.below hb3 X2.lt; have Y3 := Y2.below hb3 Y2.lt; have V3 := V2.below hb3 V2.lt
  go_wp2_with fail
  refine hK.out _ _ ⟨B3, X3, Y3, V3⟩ (fun hHeld => ?_)
  clear hK K
  try simp only [Act.put, List.setIfInBounds_toArray, List.set_cons_zero, List.set_cons_succ]
  refine wpAnyH_ready (rs := [8]) (by kernel_rfl) (by simp) ?_
  refine AllReadyH.cons (o := ⟨_, _, _, _, _, _⟩) rfl (fun K hK => ?_) AllReadyH.nil
  go_simp
  refine (check_any R (32 + i) (lf (oub a)) _ s3 (n + 2) k3 _ _ hR (lf_len _) hH3).mono ?_; rintro e u4 ⟨rfl, hb4⟩; have B4 := B3.trans (hb4.mono B3.size); have X4 := X3.below hb4 X3.lt; have Y4 := Y3.below hb4 Y3.lt; have V4 := V3.below hb4 V3.lt
  go_wp2_with fail
  refine hK.out _ _ ⟨B4, X4, Y4, V4⟩ (fun hHeld => ?_)
  clear hK K
  try simp only [Act.put, List.setIfInBounds_toArray, List.set_cons_zero, List.set_cons_succ]
  refine wpAnyH_take (i := 9) (oi := ⟨_, _, _, _, _, _⟩) (v := ?_) rfl (by kernel_rfl) (by kernel_rfl) (by kernel_rfl) (fun _ _ _ h => h) (Or.inl ⟨by rfl, ?_⟩) (by assumption) ?_
  rotate_left
  · intro u hSw
    go_simp
    try (with_reducible rfl)
  try simp only [Act.put, List.setIfInBounds_toArray, List.set_cons_zero, List.set_cons_succ]
  refine wpAnyH_done (by kernel_rfl) ?_ _

  go_wp2_with fail
  go_ret
  exact ⟨congrArg (fun b => Ending.returned (Value.bool b)) hck.out, B4⟩
set_option maxHeartbeats 2000000 in
theorem scheckOut_no (R : List Int) (i : Int) (a : Ou) (N : Nat) (sp : Option Addr) (n cap : Nat) (ls : List (List Int)) (o : List Int) (c : Int) (w : World) (hW : WT N w sp n cap ls o c) (hi : i ≤ 9223372036854775807) (h : ¬ (n = 5 ∧ c ≤ 32) ∨ i < 0 ∨ i ≥ c) :
    Calls Try.prog 25 #[.agg (h8 R), .int .i64 i, .agg a.arr, .agg (wtA sp n cap o c)] w fun e w' => e = .returned (.bool false) ∧ Below w.heap.size w w' := by
  have V0 := Arr.new3 w (.cells (h8 R) 24) (.cells a.arr 53) 44 (wtA sp n cap o c)
  have B0 := ((alloc_bel' w (.cells (h8 R) 24)).alloc (by simp) (.cells a.arr 53)).alloc (by simp; omega) (.cells (wtA sp n cap o c) 44)
  have hM := mayW_any sp n cap o c (((w.alloc (.cells (h8 R) 24)).alloc (.cells a.arr 53)).alloc (.cells (wtA sp n cap o c) 44)) hW.o32 hW.path.small
  by_cases hm : n = 5 ∧ c ≤ 32
  · rw [decide_eq_true hm] at hM
    replace h : i < 0 ∨ i ≥ c := by rcases h with h | h; exact absurd hm h; exact h
    clear hm
    replace hM := Hid.mk' hM
    by_cases hI : i < 0
    · clear h
      go_enter Try.func25, Try.ntmps25
      go_wp2_with (first
        | (refine ld44 (by rfl) _ (by rfl) (w.heap.size + 2) 0 (by rfl) sp n cap o c hW.o32 V0.wt ?_)
        | (go_at_call 55; go_must (refine hM.out.mono ?_; rintro e w1 ⟨rfl, hbM⟩; have kc := wt_c' (V0.below hbM V0.lt).wt hW.o32)))
      go_ret
      exact ⟨rfl, B0.trans (hbM.mono B0.size)⟩
    · have hI1 : i ≥ c := by omega
      clear h
      have hwi : i % 18446744073709551616 = i := by omega
      go_enter Try.func25, Try.ntmps25
      go_wp2_with (first
        | (refine ld44 (by rfl) _ (by rfl) (w.heap.size + 2) 0 (by rfl) sp n cap o c hW.o32 V0.wt ?_)
        | (go_at_call 55; go_must (refine hM.out.mono ?_; rintro e w1 ⟨rfl, hbM⟩; have kc := wt_c' (V0.below hbM V0.lt).wt hW.o32)))
      go_ret
      exact ⟨rfl, B0.trans (hbM.mono B0.size)⟩
  · rw [decide_eq_false hm] at hM
    clear hm h
    replace hM := Hid.mk' hM
    go_enter Try.func25, Try.ntmps25
    go_wp2_with (first
      | (refine ld44 (by rfl) _ (by rfl) (w.heap.size + 2) 0 (by rfl) sp n cap o c hW.o32 V0.wt ?_)
      | (go_at_call 55; go_must (refine hM.out.mono ?_; rintro e w1 ⟨rfl, hbM⟩; have kc := wt_c' (V0.below hbM V0.lt).wt hW.o32)))
    go_ret
    exact ⟨rfl, B0.trans (hbM.mono B0.size)⟩
theorem scheckOut_any (R : List Int) (i : Int) (a : Ou) (N : Nat) (sp : Option Addr) (n cap : Nat) (ls : List (List Int)) (o : List Int) (c : Int) (w : World) (hR : R.length = 32) (hW : WT N w sp n cap ls o c) (hi : i ≤ 9223372036854775807) :
    Calls Try.prog 25 #[.agg (h8 R), .int .i64 i, .agg a.arr, .agg (wtA sp n cap o c)] w fun e w' => e = .returned (.bool (ckO R i a ls o c)) ∧ Below w.heap.size w w' := by
  by_cases h : n = 5 ∧ c ≤ 32 ∧ 0 ≤ i ∧ i < c
  · exact scheckOut_ok R i a N sp n cap ls o c w hR hW h.1 h.2.1 h.2.2.1 h.2.2.2
  · have e : ckO R i a ls o c = false := by
      unfold ckO
      rw [decide_eq_false]
      rintro ⟨⟨h1, h2, h3, h4⟩, -⟩
      exact h ⟨by rw [hW.path.len.out]; exact h1, h2, h3, h4⟩
    rw [e]
    refine scheckOut_no R i a N sp n cap ls o c w hW hi ?_
    by_cases h5 : n = 5 ∧ c ≤ 32
    · right
      by_cases h0 : i < 0
      · exact .inl h0
      · right
        have : ¬ i < c := fun hb => h ⟨h5.1, h5.2, by omega, hb⟩
        omega
    · exact .inl h5
end Go.Proofs.Ytlebojbfcolkhaa
