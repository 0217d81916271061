import Derived.Test.YtfmjapopnomkkaaTq
import Derived.Test.YtfmjapopnomkkaaTm
namespace Go.Proofs.Ytfmjapopnomkkaa
open Go.RowKit
set_option linter.unusedSimpArgs false

theorem s24b {X : List Int} (h : X.length = 32) : (Try.prog.info? 24).map (·.size) = some (by8 X).toArray.size := by rw [by8_u8s h, u8s_size]; exact size24

theorem keepS {X V : List Int} {g5 : Nat} {w w1 w2 : World} (hb : Below w1.heap.size w1 w2) (h : w1.rangeAt w.heap.size 0 (by8 X) ∧ w1.rangeAt (w.heap.size + 1) 0 (by64 V) ∧ w1.rangeAt g5 0 (by8 X) ∧ Below w.heap.size w w1) :
    w2.rangeAt w.heap.size 0 (by8 X) ∧ w2.rangeAt (w.heap.size + 1) 0 (by64 V) ∧ w2.rangeAt g5 0 (by8 X) ∧ Below w.heap.size w w2 :=
  ⟨range_bel hb h.1, range_bel hb h.2.1, range_bel hb h.2.2.1, h.2.2.2.trans (hb.mono h.2.2.2.size)⟩

set_option maxHeartbeats 1000000 in
theorem back_walk (X V : List Int) (w : World) (hX : X.length = 32) (hV : V.length = 4) (hH : ∀ t, 0 ≤ bat X t ∧ bat X t ≤ 255) (hU : ∀ t, 0 ≤ bat V t ∧ bat V t < 18446744073709551616) :
    Calls Try.prog 5 #[.agg (by8 X).toArray, .agg (by64 V).toArray] w fun e w' => e = .returned (.bool true) ∧ Below w.heap.size w w' := by
  have hs24 := s24b hX
  have hl8 := by8_len X
  have hl64 := by64_len V
  have hA0 : Arr ((w.alloc (.cells (by8 X).toArray 24)).alloc (.cells (by64 V).toArray 30)) w.heap.size 24 (by8 X).toArray := (Arr.new _ _ _).alloc _
  have hV0 : Arr ((w.alloc (.cells (by8 X).toArray 24)).alloc (.cells (by64 V).toArray 30)) (w.heap.size + 1) 30 (by64 V).toArray := by simpa using Arr.new (w.alloc (.cells (by8 X).toArray 24)) 30 (by64 V).toArray
  have hB0 : Below w.heap.size w ((w.alloc (.cells (by8 X).toArray 24)).alloc (.cells (by64 V).toArray 30)) := ((Below.refl _ _).alloc (Nat.le_refl _) _).alloc (by simp) _
  have hz0 : w.heap.size < ((w.alloc (.cells (by8 X).toArray 24)).alloc (.cells (by64 V).toArray 30)).heap.size := by simp; omega
  go_enter Try.func5, Try.ntmps5
  go_upto_region 2 with (first
    | (refine wpList_load_row (by rfl) 24 (.tmp 2) (by rfl) w.heap.size (by rfl) 24 (by8 X).toArray (0, 0) _ hA0 Try.underlying24 rfl hs24 ?_)
    | (go_at_call 22; go_must (refine (hex_by8 _ hX hH).mono ?_; rintro e w1 ⟨rfl, hb1⟩))
    | (go_at_call 16; go_must (refine (unhex_back _ hX hH).mono ?_; rintro e w2 ⟨rfl, hb2⟩))
    | (refine wpList_store_new w2 _ 24 (by rfl) 24 (.tmp 5) (.tmp 11) (by rfl) (by8 X).toArray (by rfl) (by rfl) hs24 (by rw [by8_u8s hX]; rfl) (by rw [by8_u8s hX]; exact u8s_one _ _) ?_))
  have hA2 : Arr (w2.alloc (.cells (by8 X).toArray 24)) w.heap.size 24 (by8 X).toArray := ((hA0.bel hb1).bel hb2).alloc _
  have hV2 : Arr (w2.alloc (.cells (by8 X).toArray 24)) (w.heap.size + 1) 30 (by64 V).toArray := ((hV0.bel hb1).bel hb2).alloc _
  have hx2 : Arr (w2.alloc (.cells (by8 X).toArray 24)) w2.heap.size 24 (by8 X).toArray := Arr.new _ _ _
  have hB2 : Below w.heap.size w (w2.alloc (.cells (by8 X).toArray 24)) := ((hB0.trans (hb1.mono hB0.size)).trans (hb2.mono (Nat.le_trans hB0.size hb1.size))).alloc (Nat.le_trans hB0.size (Nat.le_trans hb1.size hb2.size)) _
  clear hb1 hb2 hA0 hV0 hB0 hz0 hs24 hl8 hl64
  generalize w2.alloc (.cells (by8 X).toArray 24) = W at *
  generalize w2.heap.size = g5 at *
  have r1 := hA2.range
  have r2 := hV2.range
  have r3 := hx2.range
  have hu24 := Try.underlying24
  have hu30 := Try.underlying30
  have hi24 : (Try.prog.info? 24).map (·.size) = some (by8 X).length := by rw [by8_len, hX]; exact size24
  have hi30 : (Try.prog.info? 30).map (·.size) = some (by64 V).length := by rw [by64_len, hV]; exact size30
  have q24 := eq24b hX
  have q30 := eq30b hV
  have hsz := hexS_size (bat X)
  have HX := Hid.mk' hX
  have HV := Hid.mk' hV
  have HH := Hid.mk' hH
  have HU := Hid.mk' hU
  clear hX hV hH hU hA2 hV2 hx2
  refine wp_region_held_drew (S := (fun w' => w'.rangeAt w.heap.size 0 (by8 X) ∧ w'.rangeAt (w.heap.size + 1) 0 (by64 V) ∧ w'.rangeAt g5 0 (by8 X) ∧ Below w.heap.size w w')) (by kernel_rfl) ⟨r1, r2, r3, hB2.drew⟩ (fun hHeld => ?_)
  -- operation 0
  refine wpAnyH_ready (rs := [0]) (by kernel_rfl) (by simp) ?_
  refine AllReadyH.cons (o := ⟨_, _, _, _, _, _⟩) rfl (fun K hK => ?_) AllReadyH.nil
  go_simp
  refine (anchored_any _).mono ?_; rintro e w4 ⟨rfl, hb⟩
  go_wp2_with fail
  refine hK.out _ _ (keepS hb hHeld) (fun hHeld => ?_)
  clear hK K
  try simp only [Act.put, List.setIfInBounds_toArray, List.set_cons_zero, List.set_cons_succ]
  -- operation 1
  refine wpAnyH_take (i := 1) (oi := ⟨_, _, _, _, _, _⟩) (v := ?_) rfl (by kernel_rfl) (by kernel_rfl) (by kernel_rfl) (fun _ _ _ h => h) (Or.inl ⟨by rfl, ?_⟩) (by assumption) ?_
  rotate_left
  · intro w hSw
    go_simp
    try (with_reducible rfl)
  try simp only [Act.put, List.setIfInBounds_toArray, List.set_cons_zero, List.set_cons_succ]
  -- operation 2
  refine wpAnyH_take (i := 2) (oi := ⟨_, _, _, _, _, _⟩) (v := ?_) rfl (by kernel_rfl) (by kernel_rfl) (by kernel_rfl) (fun _ _ _ h => h) (Or.inl ⟨by rfl, ?_⟩) (by assumption) ?_
  rotate_left
  · intro w hSw
    go_simp
    try (with_reducible rfl)
  try simp only [Act.put, List.setIfInBounds_toArray, List.set_cons_zero, List.set_cons_succ]
  -- operation 3
  refine wpAnyH_take (i := 3) (oi := ⟨_, _, _, _, _, _⟩) (v := ?_) rfl (by kernel_rfl) (by kernel_rfl) (by kernel_rfl) (fun _ _ _ h => h) (Or.inl ⟨by rfl, ?_⟩) (by assumption) ?_
  rotate_left
  · intro w hSw
    go_simp
    try (with_reducible rfl)
  try simp only [Act.put, List.setIfInBounds_toArray, List.set_cons_zero, List.set_cons_succ]
  -- operation 4
  refine wpAnyH_take (i := 4) (oi := ⟨_, _, _, _, _, _⟩) (v := ?_) rfl (by kernel_rfl) (by kernel_rfl) (by kernel_rfl) (fun _ _ _ h => h) (Or.inl ⟨by rfl, ?_⟩) (by assumption) ?_
  rotate_left
  · intro w hSw
    go_simp
    try (with_reducible rfl)
  try simp only [Act.put, List.setIfInBounds_toArray, List.set_cons_zero, List.set_cons_succ]
  -- operation 5
  refine wpAnyH_take (i := 5) (oi := ⟨_, _, _, _, _, _⟩) (v := ?_) rfl (by kernel_rfl) (by kernel_rfl) (by kernel_rfl) (fun _ _ _ h => h) (Or.inl ⟨by rfl, ?_⟩) (by assumption) ?_
  rotate_left
  · intro w hSw
    go_simp
    try (with_reducible rfl)
  try simp only [Act.put, List.setIfInBounds_toArray, List.set_cons_zero, List.set_cons_succ]
  -- operation 6
  refine wpAnyH_take (i := 6) (oi := ⟨_, _, _, _, _, _⟩) rfl (by kernel_rfl) (by kernel_rfl) (by kernel_rfl) (fun _ _ _ h => h) (yieldsIf_load_mid (by rfl) 24 (.tmp 5) rfl g5 0 rfl (by8 X) _ (fun _ h => h.2.2.1) Try.underlying24 rfl hi24) (by assumption) ?_
  try simp only [Act.put, List.setIfInBounds_toArray, List.set_cons_zero, List.set_cons_succ]
  -- operation 7
  refine wpAnyH_take (i := 7) (oi := ⟨_, _, _, _, _, _⟩) rfl (by kernel_rfl) (by kernel_rfl) (by kernel_rfl) (fun _ _ _ h => h) (yieldsIf_load_mid (by rfl) 24 (.tmp 2) rfl w.heap.size 0 rfl (by8 X) _ (fun _ h => h.1) Try.underlying24 rfl hi24) (by assumption) ?_
  try simp only [Act.put, List.setIfInBounds_toArray, List.set_cons_zero, List.set_cons_succ]
  -- operation 8
  refine wpAnyH_take (i := 8) (oi := ⟨_, _, _, _, _, _⟩) (v := ?_) rfl (by kernel_rfl) (by kernel_rfl) (by kernel_rfl) (fun _ _ _ h => h) (Or.inl ⟨by rfl, ?_⟩) (by assumption) ?_
  rotate_left
  · intro w hSw
    go_simp
    try (with_reducible rfl)
  try simp only [Act.put, List.setIfInBounds_toArray, List.set_cons_zero, List.set_cons_succ]
  -- operation 9
  refine wpAnyH_take (i := 9) (oi := ⟨_, _, _, _, _, _⟩) (v := ?_) rfl (by kernel_rfl) (by kernel_rfl) (by kernel_rfl) (fun _ _ _ h => h) (Or.inl ⟨by rfl, ?_⟩) (by assumption) ?_
  rotate_left
  · intro w hSw
    go_simp
    try (with_reducible rfl)
  try simp only [Act.put, List.setIfInBounds_toArray, List.set_cons_zero, List.set_cons_succ]
  -- operation 10
  refine wpAnyH_take (i := 10) (oi := ⟨_, _, _, _, _, _⟩) (v := ?_) rfl (by kernel_rfl) (by kernel_rfl) (by kernel_rfl) (fun _ _ _ h => h) (Or.inl ⟨by rfl, ?_⟩) (by assumption) ?_
  rotate_left
  · intro w hSw
    go_simp
    try (with_reducible rfl)
  try simp only [Act.put, List.setIfInBounds_toArray, List.set_cons_zero, List.set_cons_succ]
  -- operation 11
  refine wpAnyH_take (i := 11) (oi := ⟨_, _, _, _, _, _⟩) rfl (by kernel_rfl) (by kernel_rfl) (by kernel_rfl) (fun _ _ _ h => h) (yieldsIf_load_mid (by rfl) 24 (.tmp 2) rfl w.heap.size 0 rfl (by8 X) _ (fun _ h => h.1) Try.underlying24 rfl hi24) (by assumption) ?_
  try simp only [Act.put, List.setIfInBounds_toArray, List.set_cons_zero, List.set_cons_succ]
  -- operation 14
  refine wpAnyH_take (i := 14) (oi := ⟨_, _, _, _, _, _⟩) rfl (by kernel_rfl) (by kernel_rfl) (by kernel_rfl) (fun _ _ _ h => h) (yieldsIf_load_mid (by rfl) 24 (.tmp 2) rfl w.heap.size 0 rfl (by8 X) _ (fun _ h => h.1) Try.underlying24 rfl hi24) (by assumption) ?_
  try simp only [Act.put, List.setIfInBounds_toArray, List.set_cons_zero, List.set_cons_succ]
  -- operation 12
  refine wpAnyH_ready (rs := [12]) (by kernel_rfl) (by simp) ?_
  refine AllReadyH.cons (o := ⟨_, _, _, _, _, _⟩) rfl (fun K hK => ?_) AllReadyH.nil
  go_simp
  refine (words_by8 _ HX.out HH.out).mono ?_; rintro e w5 ⟨rfl, hb⟩
  go_wp2_with fail
  refine hK.out _ _ (keepS hb hHeld) (fun hHeld => ?_)
  clear hK K
  try simp only [Act.put, List.setIfInBounds_toArray, List.set_cons_zero, List.set_cons_succ]
  -- operation 13
  refine wpAnyH_ready (rs := [13]) (by kernel_rfl) (by simp) ?_
  refine AllReadyH.cons (o := ⟨_, _, _, _, _, _⟩) rfl (fun K hK => ?_) AllReadyH.nil
  go_simp
  refine (from_words_by8 _ HX.out HH.out).mono ?_; rintro e w6 ⟨rfl, hb⟩
  go_wp2_with fail
  refine hK.out _ _ (keepS hb hHeld) (fun hHeld => ?_)
  clear hK K
  try simp only [Act.put, List.setIfInBounds_toArray, List.set_cons_zero, List.set_cons_succ]
  -- operation 15
  refine wpAnyH_take (i := 15) (oi := ⟨_, _, _, _, _, _⟩) (v := ?_) rfl (by kernel_rfl) (by kernel_rfl) (by kernel_rfl) (fun _ _ _ h => h) (Or.inl ⟨by rfl, ?_⟩) (by assumption) ?_
  rotate_left
  · intro w hSw
    go_simp
    try (with_reducible rfl)
  try simp only [Act.put, List.setIfInBounds_toArray, List.set_cons_zero, List.set_cons_succ]
  -- operation 16
  refine wpAnyH_take (i := 16) (oi := ⟨_, _, _, _, _, _⟩) (v := ?_) rfl (by kernel_rfl) (by kernel_rfl) (by kernel_rfl) (fun _ _ _ h => h) (Or.inl ⟨by rfl, ?_⟩) (by assumption) ?_
  rotate_left
  · intro w hSw
    go_simp
    try (with_reducible rfl)
  try simp only [Act.put, List.setIfInBounds_toArray, List.set_cons_zero, List.set_cons_succ]
  -- operation 17
  refine wpAnyH_take (i := 17) (oi := ⟨_, _, _, _, _, _⟩) (v := ?_) rfl (by kernel_rfl) (by kernel_rfl) (by kernel_rfl) (fun _ _ _ h => h) (Or.inl ⟨by rfl, ?_⟩) (by assumption) ?_
  rotate_left
  · intro w hSw
    go_simp
    try (with_reducible rfl)
  try simp only [Act.put, List.setIfInBounds_toArray, List.set_cons_zero, List.set_cons_succ]
  -- operation 18
  refine wpAnyH_take (i := 18) (oi := ⟨_, _, _, _, _, _⟩) rfl (by kernel_rfl) (by kernel_rfl) (by kernel_rfl) (fun _ _ _ h => h) (yieldsIf_load_mid (by rfl) 30 (.tmp 3) rfl (w.heap.size + 1) 0 rfl (by64 V) _ (fun _ h => h.2.1) Try.underlying30 rfl hi30) (by assumption) ?_
  try simp only [Act.put, List.setIfInBounds_toArray, List.set_cons_zero, List.set_cons_succ]
  -- operation 21
  refine wpAnyH_take (i := 21) (oi := ⟨_, _, _, _, _, _⟩) rfl (by kernel_rfl) (by kernel_rfl) (by kernel_rfl) (fun _ _ _ h => h) (yieldsIf_load_mid (by rfl) 30 (.tmp 3) rfl (w.heap.size + 1) 0 rfl (by64 V) _ (fun _ h => h.2.1) Try.underlying30 rfl hi30) (by assumption) ?_
  try simp only [Act.put, List.setIfInBounds_toArray, List.set_cons_zero, List.set_cons_succ]
  -- operation 19
  refine wpAnyH_ready (rs := [19]) (by kernel_rfl) (by simp) ?_
  refine AllReadyH.cons (o := ⟨_, _, _, _, _, _⟩) rfl (fun K hK => ?_) AllReadyH.nil
  go_simp
  refine (from_by64 _ HV.out).mono ?_; rintro e w7 ⟨rfl, hb⟩
  go_wp2_with fail
  refine hK.out _ _ (keepS hb hHeld) (fun hHeld => ?_)
  clear hK K
  try simp only [Act.put, List.setIfInBounds_toArray, List.set_cons_zero, List.set_cons_succ]
  -- operation 20
  refine wpAnyH_ready (rs := [20]) (by kernel_rfl) (by simp) ?_
  refine AllReadyH.cons (o := ⟨_, _, _, _, _, _⟩) rfl (fun K hK => ?_) AllReadyH.nil
  go_simp
  refine (words_from_by64 _ HV.out HU.out).mono ?_; rintro e w8 ⟨rfl, hb⟩
  go_wp2_with fail
  refine hK.out _ _ (keepS hb hHeld) (fun hHeld => ?_)
  clear hK K
  try simp only [Act.put, List.setIfInBounds_toArray, List.set_cons_zero, List.set_cons_succ]
  -- operation 22
  refine wpAnyH_take (i := 22) (oi := ⟨_, _, _, _, _, _⟩) (v := ?_) rfl (by kernel_rfl) (by kernel_rfl) (by kernel_rfl) (fun _ _ _ h => h) (Or.inl ⟨by rfl, ?_⟩) (by assumption) ?_
  rotate_left
  · intro w hSw
    go_simp
    try (with_reducible rfl)
  try simp only [Act.put, List.setIfInBounds_toArray, List.set_cons_zero, List.set_cons_succ]
  -- operation 23
  refine wpAnyH_take (i := 23) (oi := ⟨_, _, _, _, _, _⟩) (v := ?_) rfl (by kernel_rfl) (by kernel_rfl) (by kernel_rfl) (fun _ _ _ h => h) (Or.inl ⟨by rfl, ?_⟩) (by assumption) ?_
  rotate_left
  · intro w hSw
    go_simp
    try (with_reducible rfl)
  try simp only [Act.put, List.setIfInBounds_toArray, List.set_cons_zero, List.set_cons_succ]
  -- operation 24
  refine wpAnyH_take (i := 24) (oi := ⟨_, _, _, _, _, _⟩) (v := ?_) rfl (by kernel_rfl) (by kernel_rfl) (by kernel_rfl) (fun _ _ _ h => h) (Or.inl ⟨by rfl, ?_⟩) (by assumption) ?_
  rotate_left
  · intro w hSw
    go_simp
    try (with_reducible rfl)
  try simp only [Act.put, List.setIfInBounds_toArray, List.set_cons_zero, List.set_cons_succ]
  -- operation 25
  refine wpAnyH_take (i := 25) (oi := ⟨_, _, _, _, _, _⟩) rfl (by kernel_rfl) (by kernel_rfl) (by kernel_rfl) (fun _ _ _ h => h) (yieldsIf_load_mid (by rfl) 24 (.tmp 2) rfl w.heap.size 0 rfl (by8 X) _ (fun _ h => h.1) Try.underlying24 rfl hi24) (by assumption) ?_
  try simp only [Act.put, List.setIfInBounds_toArray, List.set_cons_zero, List.set_cons_succ]
  -- operation 26
  refine wpAnyH_ready (rs := [26]) (by kernel_rfl) (by simp) ?_
  refine AllReadyH.cons (o := ⟨_, _, _, _, _, _⟩) rfl (fun K hK => ?_) AllReadyH.nil
  go_simp
  refine (hex_by8 _ HX.out HH.out).mono ?_; rintro e w9 ⟨rfl, hb⟩
  go_wp2_with fail
  refine hK.out _ _ (keepS hb hHeld) (fun hHeld => ?_)
  clear hK K
  try simp only [Act.put, List.setIfInBounds_toArray, List.set_cons_zero, List.set_cons_succ]
  -- operation 27
  refine wpAnyH_take (i := 27) (oi := ⟨_, _, _, _, _, _⟩) (v := ?_) rfl (by kernel_rfl) (by kernel_rfl) (by kernel_rfl) (fun _ _ _ h => h) (Or.inl ⟨by rfl, ?_⟩) (by assumption) ?_
  rotate_left
  · intro w hSw
    go_simp
    try (with_reducible rfl)
  try simp only [Act.put, List.setIfInBounds_toArray, List.set_cons_zero, List.set_cons_succ]
  -- operation 28
  refine wpAnyH_take (i := 28) (oi := ⟨_, _, _, _, _, _⟩) (v := ?_) rfl (by kernel_rfl) (by kernel_rfl) (by kernel_rfl) (fun _ _ _ h => h) (Or.inl ⟨by rfl, ?_⟩) (by assumption) ?_
  rotate_left
  · intro w hSw
    go_simp
    try (with_reducible rfl)
  try simp only [Act.put, List.setIfInBounds_toArray, List.set_cons_zero, List.set_cons_succ]
  -- operation 29
  refine wpAnyH_take (i := 29) (oi := ⟨_, _, _, _, _, _⟩) (v := ?_) rfl (by kernel_rfl) (by kernel_rfl) (by kernel_rfl) (fun _ _ _ h => h) (Or.inl ⟨by rfl, ?_⟩) (by assumption) ?_
  rotate_left
  · intro w hSw
    go_simp
    try (with_reducible rfl)
  try simp only [Act.put, List.setIfInBounds_toArray, List.set_cons_zero, List.set_cons_succ]
  -- operation 30
  refine wpAnyH_take (i := 30) (oi := ⟨_, _, _, _, _, _⟩) (v := ?_) rfl (by kernel_rfl) (by kernel_rfl) (by kernel_rfl) (fun _ _ _ h => h) (Or.inl ⟨by rfl, ?_⟩) (by assumption) ?_
  rotate_left
  · intro w hSw
    go_simp
    try (with_reducible rfl)
  try simp only [Act.put, List.setIfInBounds_toArray, List.set_cons_zero, List.set_cons_succ]
  refine wpAnyH_done (by kernel_rfl) ?_ _
  go_wp2
  go_ret
  exact ⟨rfl, hHeld.2.2.2⟩
end Go.Proofs.Ytfmjapopnomkkaa
