import Derived.Test.YtfmjapopnomkkaaTx
import Derived.Test.YtfmjapopnomkkaaTu
namespace Go.Proofs.Ytfmjapopnomkkaa
open Go.RowKit
set_option linter.unusedSimpArgs false

theorem eq30 (f : Nat → Int) (w : World) : (Op.equalIn 10000 30 (.agg (u64s 4 f)) (.agg (u64s 4 f))).run Try.prog w = .ok true w := by
  obtain ⟨i0, hi, -⟩ := info_parts info29
  have hc : Try.prog.cellsOf 29 = 1 := by kernel_rfl
  rw [run_equalIn_array w 9999 _ _ Try.underlying30 hi, hc, eqItems_same w 9998 Try.underlying29 Try.isAgg29 _ f (List.range 4) (fun i h => u64s_get (by simpa using h))]
theorem unhexV_form (s : ByteArray) : ∃ f e, unhexV s = .tuple #[.agg (u8s 32 f), .int .i64 e] := by
  unfold unhexV
  split
  · exact ⟨_, _, rfl⟩
  · exact ⟨_, _, rfl⟩
theorem keepT {H V f : Nat → Int} {g7 g9 : Nat} {w w1 w2 : World} (hb : Below w1.heap.size w1 w2) (h : Arr w1 w.heap.size 24 (u8s 32 H) ∧ Arr w1 (w.heap.size + 1) 30 (u64s 4 V) ∧ Arr w1 g7 24 (u8s 32 f) ∧ Arr w1 g9 24 (u8s 32 f) ∧ Below w.heap.size w w1) :
    Arr w2 w.heap.size 24 (u8s 32 H) ∧ Arr w2 (w.heap.size + 1) 30 (u64s 4 V) ∧ Arr w2 g7 24 (u8s 32 f) ∧ Arr w2 g9 24 (u8s 32 f) ∧ Below w.heap.size w w2 :=
  ⟨h.1.bel hb, h.2.1.bel hb, h.2.2.1.bel hb, h.2.2.2.1.bel hb, h.2.2.2.2.trans (hb.mono h.2.2.2.2.size)⟩

set_option maxHeartbeats 2000000 in
theorem texts_walk (H V : Nat → Int) (s : ByteArray) (w : World) (hH : ∀ t, t < 32 → 0 ≤ H t ∧ H t ≤ 255) (hs : s.size ≤ 140737488355328) :
    Calls Try.prog 4 #[.agg (u8s 32 H), .agg (u64s 4 V), .string s] w fun e w' => e = .returned (.bool true) ∧ Below w.heap.size w w' := by
  obtain ⟨f, er, hun⟩ := unhexV_form s
  have HUN := Hid.mk' hun
  have HH := Hid.mk' hH
  clear hun hH
  have hA0 : Arr ((w.alloc (.cells (u8s 32 H) 24)).alloc (.cells (u64s 4 V) 30)) w.heap.size 24 (u8s 32 H) := (Arr.new _ _ _).alloc _
  have hV0 : Arr ((w.alloc (.cells (u8s 32 H) 24)).alloc (.cells (u64s 4 V) 30)) (w.heap.size + 1) 30 (u64s 4 V) := by simpa using Arr.new (w.alloc (.cells (u8s 32 H) 24)) 30 (u64s 4 V)
  have hB0 : Below w.heap.size w ((w.alloc (.cells (u8s 32 H) 24)).alloc (.cells (u64s 4 V) 30)) := ((Below.refl _ _).alloc (Nat.le_refl _) _).alloc (by simp) _
  go_enter Try.func4, Try.ntmps4
  go_upto_region 3 with (first
    | (go_at_call 16; go_must (refine (unhex_any s _ hs).mono ?_; rw [HUN.out]; rintro e w1 ⟨rfl, hb1⟩))
    | (refine wpList_store_new w1 _ 24 (by rfl) 24 (.tmp 7) (.tmp 14) (by rfl) (u8s 32 f) (by rfl) (by rfl) (s24u8 _) (by rfl) (u8s_one _ _) ?_)
    | (go_at_call 17; go_must (refine (refUnhex_any s _ hs).mono ?_; rw [HUN.out]; rintro e w2 ⟨rfl, hb2⟩))
    | (refine wpList_store_new w2 _ 24 (by rfl) 24 (.tmp 9) (.tmp 19) (by rfl) (u8s 32 f) (by rfl) (by rfl) (s24u8 _) (by rfl) (u8s_one _ _) ?_))
  have hA2 : Arr (w2.alloc (.cells (u8s 32 f) 24)) w.heap.size 24 (u8s 32 H) := (((hA0.bel hb1).alloc _).bel hb2).alloc _
  have hV2 : Arr (w2.alloc (.cells (u8s 32 f) 24)) (w.heap.size + 1) 30 (u64s 4 V) := (((hV0.bel hb1).alloc _).bel hb2).alloc _
  have hx2 : Arr (w2.alloc (.cells (u8s 32 f) 24)) w1.heap.size 24 (u8s 32 f) := ((Arr.new w1 24 _).bel hb2).alloc _
  have hy2 : Arr (w2.alloc (.cells (u8s 32 f) 24)) w2.heap.size 24 (u8s 32 f) := Arr.new _ _ _
  have h1s := Nat.le_trans hB0.size hb1.size
  have h2s : w.heap.size ≤ w2.heap.size := by have := hb2.size; simp at this; omega
  have hB2 : Below w.heap.size w (w2.alloc (.cells (u8s 32 f) 24)) := ((((hB0.trans (hb1.mono hB0.size)).alloc h1s _).trans (hb2.mono (by simp; omega))).alloc h2s _)
  clear hb1 hb2 hA0 hV0 hB0 h1s h2s
  generalize w2.alloc (.cells (u8s 32 f) 24) = W at *
  generalize w2.heap.size = g9 at *
  generalize w1.heap.size = g7 at *
  have q24 := eq24
  have q30 := eq30
  have q30w : ∀ u : World, (Op.equalIn 10000 30 (.agg (wordsOf H)) (.agg (wordsOf H))).run Try.prog u = .ok true u := fun u => eq30 _ u
  refine wp_region_held_drew (S := (fun w' => Arr w' w.heap.size 24 (u8s 32 H) ∧ Arr w' (w.heap.size + 1) 30 (u64s 4 V) ∧ Arr w' g7 24 (u8s 32 f) ∧ Arr w' g9 24 (u8s 32 f) ∧ Below w.heap.size w w')) (by kernel_rfl) ⟨hA2, hV2, hx2, hy2, hB2.drew⟩ (fun hHeld => ?_)
  -- operation 0
  refine wpAnyH_take (i := 0) (oi := ⟨_, _, _, _, _, _⟩) rfl (by kernel_rfl) (by kernel_rfl) (by kernel_rfl) (fun _ _ _ h => h) (yields_arr (by rfl) 24 (.tmp 3) rfl w.heap.size rfl (u8s 32 H) (fun _ h => h.1) Try.underlying24 (s24u8 _)) (by assumption) ?_
  try simp only [Act.put, List.setIfInBounds_toArray, List.set_cons_zero, List.set_cons_succ]
  -- operation 2
  refine wpAnyH_take (i := 2) (oi := ⟨_, _, _, _, _, _⟩) rfl (by kernel_rfl) (by kernel_rfl) (by kernel_rfl) (fun _ _ _ h => h) (yields_arr (by rfl) 24 (.tmp 3) rfl w.heap.size rfl (u8s 32 H) (fun _ h => h.1) Try.underlying24 (s24u8 _)) (by assumption) ?_
  try simp only [Act.put, List.setIfInBounds_toArray, List.set_cons_zero, List.set_cons_succ]
  -- operation 1
  refine wpAnyH_ready (rs := [1]) (by kernel_rfl) (by simp) ?_
  refine AllReadyH.cons (o := ⟨_, _, _, _, _, _⟩) rfl (fun K hK => ?_) AllReadyH.nil
  go_simp
  refine (words_any (u8s 32 H) H _ (u8s_size _ _) (fun _ h => u8s_get h) HH.out).mono ?_; rintro e w5 ⟨rfl, hb5⟩
  go_wp2_with fail
  refine hK.out _ _ (keepT hb5 hHeld) (fun hHeld => ?_)
  clear hK K
  try simp only [Act.put, List.setIfInBounds_toArray, List.set_cons_zero, List.set_cons_succ]
  -- operation 3
  refine wpAnyH_ready (rs := [3]) (by kernel_rfl) (by simp) ?_
  refine AllReadyH.cons (o := ⟨_, _, _, _, _, _⟩) rfl (fun K hK => ?_) AllReadyH.nil
  go_simp
  refine (refWords_any (u8s 32 H) H _ (fun _ h => u8s_get h) HH.out).mono ?_; rintro e w5 ⟨rfl, hb5⟩
  go_wp2_with fail
  refine hK.out _ _ (keepT hb5 hHeld) (fun hHeld => ?_)
  clear hK K
  try simp only [Act.put, List.setIfInBounds_toArray, List.set_cons_zero, List.set_cons_succ]
  -- operation 4
  refine wpAnyH_take (i := 4) (oi := ⟨_, _, _, _, _, _⟩) (v := ?_) rfl (by kernel_rfl) (by kernel_rfl) (by kernel_rfl) (fun _ _ _ h => h) (Or.inl ⟨by rfl, ?_⟩) (by assumption) ?_
  rotate_left
  · intro w hSw
    go_simp
    try (with_reducible rfl)
  try simp only [Act.put, List.setIfInBounds_toArray, List.set_cons_zero, List.set_cons_succ]
  -- operation 5
  refine wpAnyH_take (i := 5) (oi := ⟨_, _, _, _, _, _⟩) (v := ?_) rfl (by kernel_rfl) (by kernel_rfl) (by kernel_rfl) (fun _ _ _ h => h) (Or.inl ⟨by rfl, ?_⟩) (by assumption) ?_
  rotate_left
  · intro w hSw
    go_simp
    try (with_reducible rfl)
  try simp only [Act.put, List.setIfInBounds_toArray, List.set_cons_zero, List.set_cons_succ]
  -- operation 6
  refine wpAnyH_take (i := 6) (oi := ⟨_, _, _, _, _, _⟩) rfl (by kernel_rfl) (by kernel_rfl) (by kernel_rfl) (fun _ _ _ h => h) (yields_arr (by rfl) 30 (.tmp 4) rfl (w.heap.size + 1) rfl (u64s 4 V) (fun _ h => h.2.1) Try.underlying30 (s30u _)) (by assumption) ?_
  try simp only [Act.put, List.setIfInBounds_toArray, List.set_cons_zero, List.set_cons_succ]
  -- operation 8
  refine wpAnyH_take (i := 8) (oi := ⟨_, _, _, _, _, _⟩) rfl (by kernel_rfl) (by kernel_rfl) (by kernel_rfl) (fun _ _ _ h => h) (yields_arr (by rfl) 30 (.tmp 4) rfl (w.heap.size + 1) rfl (u64s 4 V) (fun _ h => h.2.1) Try.underlying30 (s30u _)) (by assumption) ?_
  try simp only [Act.put, List.setIfInBounds_toArray, List.set_cons_zero, List.set_cons_succ]
  -- operation 7
  refine wpAnyH_ready (rs := [7]) (by kernel_rfl) (by simp) ?_
  refine AllReadyH.cons (o := ⟨_, _, _, _, _, _⟩) rfl (fun K hK => ?_) AllReadyH.nil
  go_simp
  refine (from_any (u64s 4 V) V _ (fun _ h => u64s_get h)).mono ?_; rintro e w5 ⟨rfl, hb5⟩
  go_wp2_with fail
  refine hK.out _ _ (keepT hb5 hHeld) (fun hHeld => ?_)
  clear hK K
  try simp only [Act.put, List.setIfInBounds_toArray, List.set_cons_zero, List.set_cons_succ]
  -- operation 9
  refine wpAnyH_ready (rs := [9]) (by kernel_rfl) (by simp) ?_
  refine AllReadyH.cons (o := ⟨_, _, _, _, _, _⟩) rfl (fun K hK => ?_) AllReadyH.nil
  go_simp
  refine (refFrom_any (u64s 4 V) V _ (fun _ h => u64s_get h)).mono ?_; rintro e w5 ⟨rfl, hb5⟩
  go_wp2_with fail
  refine hK.out _ _ (keepT hb5 hHeld) (fun hHeld => ?_)
  clear hK K
  try simp only [Act.put, List.setIfInBounds_toArray, List.set_cons_zero, List.set_cons_succ]
  -- operation 10
  refine wpAnyH_take (i := 10) (oi := ⟨_, _, _, _, _, _⟩) (v := ?_) rfl (by kernel_rfl) (by kernel_rfl) (by kernel_rfl) (fun _ _ _ h => h) (Or.inl ⟨by rfl, ?_⟩) (by assumption) ?_
  rotate_left
  · intro w hSw
    go_simp
    try (with_reducible rfl)
  try simp only [Act.put, List.setIfInBounds_toArray, List.set_cons_zero, List.set_cons_succ]
  -- operation 11
  refine wpAnyH_take (i := 11) (oi := ⟨_, _, _, _, _, _⟩) (v := ?_) rfl (by kernel_rfl) (by kernel_rfl) (by kernel_rfl) (fun _ _ _ h => h) (Or.inl ⟨by rfl, ?_⟩) (by assumption) ?_
  rotate_left
  · intro w hSw
    go_simp
    try (with_reducible rfl)
  try simp only [Act.put, List.setIfInBounds_toArray, List.set_cons_zero, List.set_cons_succ]
  -- operation 12
  refine wpAnyH_take (i := 12) (oi := ⟨_, _, _, _, _, _⟩) (v := ?_) rfl (by kernel_rfl) (by kernel_rfl) (by kernel_rfl) (fun _ _ _ h => h) (Or.inl ⟨by rfl, ?_⟩) (by assumption) ?_
  rotate_left
  · intro w hSw
    go_simp
    try (with_reducible rfl)
  try simp only [Act.put, List.setIfInBounds_toArray, List.set_cons_zero, List.set_cons_succ]
  -- operation 13
  refine wpAnyH_take (i := 13) (oi := ⟨_, _, _, _, _, _⟩) rfl (by kernel_rfl) (by kernel_rfl) (by kernel_rfl) (fun _ _ _ h => h) (yields_arr (by rfl) 24 (.tmp 3) rfl w.heap.size rfl (u8s 32 H) (fun _ h => h.1) Try.underlying24 (s24u8 _)) (by assumption) ?_
  try simp only [Act.put, List.setIfInBounds_toArray, List.set_cons_zero, List.set_cons_succ]
  -- operation 15
  refine wpAnyH_take (i := 15) (oi := ⟨_, _, _, _, _, _⟩) rfl (by kernel_rfl) (by kernel_rfl) (by kernel_rfl) (fun _ _ _ h => h) (yields_arr (by rfl) 24 (.tmp 3) rfl w.heap.size rfl (u8s 32 H) (fun _ h => h.1) Try.underlying24 (s24u8 _)) (by assumption) ?_
  try simp only [Act.put, List.setIfInBounds_toArray, List.set_cons_zero, List.set_cons_succ]
  -- operation 14
  refine wpAnyH_ready (rs := [14]) (by kernel_rfl) (by simp) ?_
  refine AllReadyH.cons (o := ⟨_, _, _, _, _, _⟩) rfl (fun K hK => ?_) AllReadyH.nil
  go_simp
  refine (hex_u8s H _ HH.out).mono ?_; rintro e w5 ⟨rfl, hb5⟩
  go_wp2_with fail
  refine hK.out _ _ (keepT hb5 hHeld) (fun hHeld => ?_)
  clear hK K
  try simp only [Act.put, List.setIfInBounds_toArray, List.set_cons_zero, List.set_cons_succ]
  -- operation 16
  refine wpAnyH_ready (rs := [16]) (by kernel_rfl) (by simp) ?_
  refine AllReadyH.cons (o := ⟨_, _, _, _, _, _⟩) rfl (fun K hK => ?_) AllReadyH.nil
  go_simp
  refine (refHex_any (u8s 32 H) H _ (fun _ h => u8s_get h) HH.out).mono ?_; rintro e w5 ⟨rfl, hb5⟩
  go_wp2_with fail
  refine hK.out _ _ (keepT hb5 hHeld) (fun hHeld => ?_)
  clear hK K
  try simp only [Act.put, List.setIfInBounds_toArray, List.set_cons_zero, List.set_cons_succ]
  -- operation 17
  refine wpAnyH_take (i := 17) (oi := ⟨_, _, _, _, _, _⟩) (v := ?_) rfl (by kernel_rfl) (by kernel_rfl) (by kernel_rfl) (fun _ _ _ h => h) (Or.inl ⟨by rfl, ?_⟩) (by assumption) ?_
  rotate_left
  · intro w hSw
    go_simp
    try (with_reducible rfl)
  try simp only [Act.put, List.setIfInBounds_toArray, List.set_cons_zero, List.set_cons_succ]
  -- operation 18
  refine wpAnyH_take (i := 18) (oi := ⟨_, _, _, _, _, _⟩) (v := ?_) rfl (by kernel_rfl) (by kernel_rfl) (by kernel_rfl) (fun _ _ _ h => h) (Or.inl ⟨by rfl, ?_⟩) (by assumption) ?_
  rotate_left
  · intro w hSw
    go_simp
    try (with_reducible rfl)
  try simp only [Act.put, List.setIfInBounds_toArray, List.set_cons_zero, List.set_cons_succ]
  -- operation 19
  refine wpAnyH_take (i := 19) (oi := ⟨_, _, _, _, _, _⟩) (v := ?_) rfl (by kernel_rfl) (by kernel_rfl) (by kernel_rfl) (fun _ _ _ h => h) (Or.inl ⟨by rfl, ?_⟩) (by assumption) ?_
  rotate_left
  · intro w hSw
    go_simp
    try (with_reducible rfl)
  try simp only [Act.put, List.setIfInBounds_toArray, List.set_cons_zero, List.set_cons_succ]
  -- operation 20
  refine wpAnyH_take (i := 20) (oi := ⟨_, _, _, _, _, _⟩) rfl (by kernel_rfl) (by kernel_rfl) (by kernel_rfl) (fun _ _ _ h => h) (yields_arr (by rfl) 24 (.tmp 7) rfl g7 rfl (u8s 32 f) (fun _ h => h.2.2.1) Try.underlying24 (s24u8 _)) (by assumption) ?_
  try simp only [Act.put, List.setIfInBounds_toArray, List.set_cons_zero, List.set_cons_succ]
  -- operation 21
  refine wpAnyH_take (i := 21) (oi := ⟨_, _, _, _, _, _⟩) rfl (by kernel_rfl) (by kernel_rfl) (by kernel_rfl) (fun _ _ _ h => h) (yields_arr (by rfl) 24 (.tmp 9) rfl g9 rfl (u8s 32 f) (fun _ h => h.2.2.2.1) Try.underlying24 (s24u8 _)) (by assumption) ?_
  try simp only [Act.put, List.setIfInBounds_toArray, List.set_cons_zero, List.set_cons_succ]
  -- operation 22
  refine wpAnyH_take (i := 22) (oi := ⟨_, _, _, _, _, _⟩) (v := ?_) rfl (by kernel_rfl) (by kernel_rfl) (by kernel_rfl) (fun _ _ _ h => h) (Or.inl ⟨by rfl, ?_⟩) (by assumption) ?_
  rotate_left
  · intro w hSw
    go_simp
    try (with_reducible rfl)
  try simp only [Act.put, List.setIfInBounds_toArray, List.set_cons_zero, List.set_cons_succ]
  -- operation 23
  refine wpAnyH_take (i := 23) (oi := ⟨_, _, _, _, _, _⟩) (v := ?_) rfl (by kernel_rfl) (by kernel_rfl) (by kernel_rfl) (fun _ _ _ h => h) (Or.inl ⟨by rfl, ?_⟩) (by assumption) ?_
  rotate_left
  · intro w hSw
    go_simp
    try (with_reducible rfl)
  try simp only [Act.put, List.setIfInBounds_toArray, List.set_cons_zero, List.set_cons_succ]
  -- operation 24
  refine wpAnyH_take (i := 24) (oi := ⟨_, _, _, _, _, _⟩) (v := ?_) rfl (by kernel_rfl) (by kernel_rfl) (by kernel_rfl) (fun _ _ _ h => h) (Or.inl ⟨by rfl, ?_⟩) (by assumption) ?_
  rotate_left
  · intro w hSw
    go_simp
    try (with_reducible rfl)
  try simp only [Act.put, List.setIfInBounds_toArray, List.set_cons_zero, List.set_cons_succ]
  -- operation 25
  refine wpAnyH_take (i := 25) (oi := ⟨_, _, _, _, _, _⟩) (v := ?_) rfl (by kernel_rfl) (by kernel_rfl) (by kernel_rfl) (fun _ _ _ h => h) (Or.inl ⟨by rfl, ?_⟩) (by assumption) ?_
  rotate_left
  · intro w hSw
    go_simp
    try (with_reducible rfl)
  try simp only [Act.put, List.setIfInBounds_toArray, List.set_cons_zero, List.set_cons_succ]
  -- operation 26
  refine wpAnyH_take (i := 26) (oi := ⟨_, _, _, _, _, _⟩) (v := ?_) rfl (by kernel_rfl) (by kernel_rfl) (by kernel_rfl) (fun _ _ _ h => h) (Or.inl ⟨by rfl, ?_⟩) (by assumption) ?_
  rotate_left
  · intro w hSw
    go_simp
    try (with_reducible rfl)
  try simp only [Act.put, List.setIfInBounds_toArray, List.set_cons_zero, List.set_cons_succ]
  -- operation 27
  refine wpAnyH_take (i := 27) (oi := ⟨_, _, _, _, _, _⟩) (v := ?_) rfl (by kernel_rfl) (by kernel_rfl) (by kernel_rfl) (fun _ _ _ h => h) (Or.inl ⟨by rfl, ?_⟩) (by assumption) ?_
  rotate_left
  · intro w hSw
    go_simp
    try (with_reducible rfl)
  try simp only [Act.put, List.setIfInBounds_toArray, List.set_cons_zero, List.set_cons_succ]
  -- operation 28
  refine wpAnyH_take (i := 28) (oi := ⟨_, _, _, _, _, _⟩) (v := ?_) rfl (by kernel_rfl) (by kernel_rfl) (by kernel_rfl) (fun _ _ _ h => h) (Or.inl ⟨by rfl, ?_⟩) (by assumption) ?_
  rotate_left
  · intro w hSw
    go_simp
    try (with_reducible rfl)
  try simp only [Act.put, List.setIfInBounds_toArray, List.set_cons_zero, List.set_cons_succ]
  -- operation 29
  refine wpAnyH_take (i := 29) (oi := ⟨_, _, _, _, _, _⟩) (v := ?_) rfl (by kernel_rfl) (by kernel_rfl) (by kernel_rfl) (fun _ _ _ h => h) (Or.inl ⟨by rfl, ?_⟩) (by assumption) ?_
  rotate_left
  · intro w hSw
    go_simp
    try (with_reducible rfl)
  try simp only [Act.put, List.setIfInBounds_toArray, List.set_cons_zero, List.set_cons_succ]
  -- operation 30
  refine wpAnyH_ready (rs := [30]) (by kernel_rfl) (by simp) ?_
  refine AllReadyH.cons (o := ⟨_, _, _, _, _, _⟩) rfl (fun K hK => ?_) AllReadyH.nil
  go_simp
  refine (anchored_any _).mono ?_; rintro e w5 ⟨rfl, hb5⟩
  go_wp2_with fail
  refine hK.out _ _ (keepT hb5 hHeld) (fun hHeld => ?_)
  clear hK K
  try simp only [Act.put, List.setIfInBounds_toArray, List.set_cons_zero, List.set_cons_succ]
  -- operation 31
  refine wpAnyH_take (i := 31) (oi := ⟨_, _, _, _, _, _⟩) (v := ?_) rfl (by kernel_rfl) (by kernel_rfl) (by kernel_rfl) (fun _ _ _ h => h) (Or.inl ⟨by rfl, ?_⟩) (by assumption) ?_
  rotate_left
  · intro w hSw
    go_simp
    try (with_reducible rfl)
  try simp only [Act.put, List.setIfInBounds_toArray, List.set_cons_zero, List.set_cons_succ]
  -- operation 32
  refine wpAnyH_take (i := 32) (oi := ⟨_, _, _, _, _, _⟩) (v := ?_) rfl (by kernel_rfl) (by kernel_rfl) (by kernel_rfl) (fun _ _ _ h => h) (Or.inl ⟨by rfl, ?_⟩) (by assumption) ?_
  rotate_left
  · intro w hSw
    go_simp
    try (with_reducible rfl)
  try simp only [Act.put, List.setIfInBounds_toArray, List.set_cons_zero, List.set_cons_succ]
  refine wpAnyH_done (by kernel_rfl) ?_ _
  go_wp2
  go_ret
  exact ⟨rfl, hHeld.2.2.2.2⟩
end Go.Proofs.Ytfmjapopnomkkaa
