/- Layer rlp, the document's answer: Decode. -/
import Derived.Test.YtbjlmekafnpllabTc
import Derived.Test.YtbjlmekafnpllabRs
namespace Go.Proofs.Ytbjlmekafnpllab
open Go.RowKit
set_option linter.unusedVariables false
set_option linter.unusedSimpArgs false

set_option maxRecDepth 100000 in
set_option maxHeartbeats 1000000 in
theorem refDecode_any (N : Nat) (sp : Option Addr) (n cap : Nat) (L : List Int) (w : World) (hS : BS N w sp n cap L) : Calls Try.prog 30 #[.slice sp n cap] w (DecPost L w) := by
  have hS := hS.here
  have hln := hS.len
  have Z := Arr.new w 59 #[.bool false, .slice none 0 0, .slice none 0 0]
  have hB0 := alloc_bel' w (.cells #[.bool false, .slice none 0 0, .slice none 0 0] 59)
  by_cases h : 65536 < n
  · have hI : (65536 : Int) < n := by omega
    have E := Hid.mk' (show whole L = 4 by rw [whole, if_pos (by rw [← hln.out]; exact h)])
    go_enter Try.func30, Try.ntmps30
    go_wp2_with (refine wpList_store_arr (by rfl) 59 (.tmp 2) (.tmp 10) (by rfl) w.heap.size #[.bool false, .slice none 0 0, .slice none 0 0] (by rfl) (by rfl) 59 _ Z size25 rfl (one3 _ _ _ _ _ _ _) ?_)
    exact bodyPost_ret (v := .tuple #[.agg #[.bool false, .slice none 0 0, .slice none 0 0], .int .i64 4]) (res_item2 Try.results30 rfl rfl (Z.setRow _)) rfl ⟨below_row hB0 (Nat.le_refl _) _, .inr ⟨by rw [E.out]; decide, by rw [E.out]⟩⟩
  · have hI : ¬ (65536 : Int) < n := by omega
    have hS1 := hS.below hB0
    have hn6 : n ≤ 65536 := by omega
    have hnl : n ≤ L.length + 1 := by rw [← hln.out]; omega
    have hR := rread_any 16 (Nat.le_refl _) (L.length + 1)
    rcases whole_cases (L := L) (by rw [← hln.out]; omega) with ⟨h0, s, hq, hs⟩ | ⟨h8, s, hq, hs⟩ | ⟨hc, hq⟩
    · rw [← hln.out] at hs
      replace hq := Hid.mk' hq
      replace h0 := Hid.mk' h0
      go_enter Try.func30, Try.ntmps30
      go_wp2_with (first
        | (go_at_call 51; go_must (refine (rat_ok hR _ sp n cap _ s L _ rfl hS1 (by simp) hnl hn6 hq.out).mono ?_; rintro e w2 ⟨l, s1, n1, c1, s2, n2, c2, rfl, hD2, hsm', hb2⟩; obtain rfl : s = n := (by omega); have hs2 := hb2.size; simp at hs2; have Z2 := Arr.new w2 59 #[.bool false, .slice none 0 0, .slice none 0 0]; have Y2 := ((Z.below hb2 (by simp)).alloc (.cells #[.bool false, .slice none 0 0, .slice none 0 0] 59)).setRowOther #[.bool l, .slice s1 n1 c1, .slice s2 n2 c2] (show w.heap.size ≠ w2.heap.size by omega)))
        | (refine wpList_store_arr (by rfl) 59 (.tmp 4) (.tmp 14) (by rfl) w2.heap.size #[.bool l, .slice s1 n1 c1, .slice s2 n2 c2] (by rfl) (by rfl) 59 _ Z2 size25 rfl (one3 _ _ _ _ _ _ _) ?_; have X2 := Z2.setRow #[.bool l, .slice s1 n1 c1, .slice s2 n2 c2]; have y0 := X2.cell 0; have y1 := X2.cell 1; have y2 := X2.cell 2; simp at y0 y1 y2)
        | (refine wpList_store_arr (by rfl) 59 (.tmp 2) (.tmp 29) (by rfl) w.heap.size #[.bool l, .slice s1 n1 c1, .slice s2 n2 c2] (by rfl) (by rfl) 59 _ Y2 size25 rfl (one3 _ _ _ _ _ _ _) ?_))
      refine bodyPost_ret (v := .tuple #[.agg #[.bool l, .slice s1 n1 c1, .slice s2 n2 c2], .int .i64 0]) (res_item2 Try.results30 rfl rfl (Y2.setRow _)) rfl ⟨below_row (below_row ((hB0.trans (hb2.mono (by simp))).alloc (by omega) _) (by omega) _) (Nat.le_refl _) _, .inl ⟨h0.out, _, rfl, ?_⟩⟩
      have h1 := hD2.out.mono (T := fun b => w.heap.size < b ∧ b < w2.heap.size) (fun b hb h => ⟨by simp at h; omega, hb⟩)
      rw [List.take_of_length_le (by rw [← hln.out]; exact Nat.le_refl _)] at h1
      have h2 := h1.agree (w' := ((w2.alloc (.cells #[.bool false, .slice none 0 0, .slice none 0 0] 59)).setRow w2.heap.size #[.bool l, .slice s1 n1 c1, .slice s2 n2 c2]).setRow w.heap.size #[.bool l, .slice s1 n1 c1, .slice s2 n2 c2]) ⟨by simp, fun b hb h => by rw [setRow_other _ _ _ _ (by omega), setRow_other _ _ _ _ (by omega), Below.heap_alloc _ _ _ hb]⟩
      exact h2.mono fun b _ h => by omega
    · rw [← hln.out] at hs
      replace hq := Hid.mk' hq
      replace h8 := Hid.mk' h8
      have hsI : (s : Int) < n := by omega
      go_enter Try.func30, Try.ntmps30
      go_wp2_with (first
        | (go_at_call 51; go_must (refine (rat_ok hR _ sp n cap _ s L _ rfl hS1 (by simp) hnl hn6 hq.out).mono ?_; rintro e w2 ⟨l, s1, n1, c1, s2, n2, c2, rfl, hD2, hsm', hb2⟩; have hs2 := hb2.size; simp at hs2; have Z2 := Arr.new w2 59 #[.bool false, .slice none 0 0, .slice none 0 0]; have Y2 := ((Z.below hb2 (by simp)).alloc (.cells #[.bool false, .slice none 0 0, .slice none 0 0] 59)).setRowOther #[.bool l, .slice s1 n1 c1, .slice s2 n2 c2] (show w.heap.size ≠ w2.heap.size by omega)))
        | (refine wpList_store_arr (by rfl) 59 (.tmp 4) (.tmp 14) (by rfl) w2.heap.size #[.bool l, .slice s1 n1 c1, .slice s2 n2 c2] (by rfl) (by rfl) 59 _ Z2 size25 rfl (one3 _ _ _ _ _ _ _) ?_)
        | (refine wpList_store_arr (by rfl) 59 (.tmp 2) (.tmp 27) (by rfl) w.heap.size #[.bool false, .slice none 0 0, .slice none 0 0] (by rfl) (by rfl) 59 _ Y2 size25 rfl (one3 _ _ _ _ _ _ _) ?_))
      exact bodyPost_ret (v := .tuple #[.agg #[.bool false, .slice none 0 0, .slice none 0 0], .int .i64 8]) (res_item2 Try.results30 rfl rfl (Y2.setRow _)) rfl ⟨below_row (below_row ((hB0.trans (hb2.mono (by simp))).alloc (by omega) _) (by omega) _) (Nat.le_refl _) _, .inr ⟨by rw [h8.out]; decide, by rw [h8.out]⟩⟩
    · obtain ⟨c, hce⟩ : ∃ c, whole L = c := ⟨_, rfl⟩
      rw [hce] at hq hc
      replace hce := Hid.mk' hce
      have hne : ¬ c = 0 := by omega
      have hne1 : (c == 0) = false := by simpa using hne
      have hne2 : (c != 0) = true := by simpa using hne
      replace hq := Hid.mk' hq
      replace hc := Hid.mk' hc
      go_enter Try.func30, Try.ntmps30
      go_wp2_with (first
        | (go_at_call 51; go_must (refine (rat_err hR _ sp n cap _ c L _ rfl hS1 (by simp) hnl hn6 hq.out).mono ?_; rintro e w2 ⟨rfl, hb2⟩; have hs2 := hb2.size; simp at hs2; have Z2 := Arr.new w2 59 #[.bool false, .slice none 0 0, .slice none 0 0]; have Y2 := ((Z.below hb2 (by simp)).alloc (.cells #[.bool false, .slice none 0 0, .slice none 0 0] 59)).setRowOther #[.bool false, .slice none 0 0, .slice none 0 0] (show w.heap.size ≠ w2.heap.size by omega)))
        | (refine wpList_store_arr (by rfl) 59 (.tmp 4) (.tmp 14) (by rfl) w2.heap.size #[.bool false, .slice none 0 0, .slice none 0 0] (by rfl) (by rfl) 59 _ Z2 size25 rfl (one3 _ _ _ _ _ _ _) ?_)
        | (refine wpList_store_arr (by rfl) 59 (.tmp 2) (.tmp 27) (by rfl) w.heap.size #[.bool false, .slice none 0 0, .slice none 0 0] (by rfl) (by rfl) 59 _ Y2 size25 rfl (one3 _ _ _ _ _ _ _) ?_))
      exact bodyPost_ret (v := .tuple #[.agg #[.bool false, .slice none 0 0, .slice none 0 0], .int .i64 c]) (res_item2 Try.results30 rfl rfl (Y2.setRow _)) rfl ⟨below_row (below_row ((hB0.trans (hb2.mono (by simp))).alloc (by omega) _) (by omega) _) (Nat.le_refl _) _, .inr ⟨by rw [hce.out]; exact hne, by rw [hce.out]⟩⟩

end Go.Proofs.Ytbjlmekafnpllab
