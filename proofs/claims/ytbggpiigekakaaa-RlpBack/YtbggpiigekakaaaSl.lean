/- Layer rlp: the walk of RlpBack, on. -/
import Derived.Test.YtbggpiigekakaaaSj
namespace Go.Proofs.Ytbggpiigekakaaa
open Go.RowKit
set_option linter.unusedVariables false
set_option linter.unusedSimpArgs false

set_option maxHeartbeats 1000000 in
theorem back_yes_none (l l' : Bool) (sp : Option Addr) (n cap : Nat) (sq : Option Addr) (k cq : Nat) (sp' : Option Addr) (n' cap' : Nat) (sq' : Option Addr) (k' cq' : Nat) (F : List Int) (p : Option (List Int)) (w : World)
    (hI : Is w.heap.size w 16 (.agg #[.bool l, .slice sp n cap, .slice sq k cq]) (some F)) (hJ : Is w.heap.size w 16 (.agg #[.bool l', .slice sp' n' cap', .slice sq' k' cq']) p) (hl6 : F.length ≤ 65536) (hno6' : ∀ G, p = some G → 65536 < G.length) :
    Calls Try.prog 6 #[.agg #[.bool l, .slice sp n cap, .slice sq k cq], .agg #[.bool l', .slice sp' n' cap', .slice sq' k' cq']] w fun e w' => e = .returned (.bool true) ∧ Below w.heap.size w w' := by
  have T1 := Two.mk' hI hJ
  have hmy := Hid.mk' (may_yes hl6)
  have hsm : Hid (same (some F) (some F) = true) := by rw [same_both hl6 hl6]; simp [Hid]
  have hwh := Hid.mk' (whole_form hI.fm hl6)
  have hFb := hI.bts
  replace hno6' := Hid.mk' hno6'
  go_enter Try.func6, Try.ntmps6
  go_upto_region 8 with (first
    | (go_at_call 9; go_must (first
      | (refine (encode_any _ _ p w5 T5.is2).mono ?_; rintro e w6 ⟨hb6, hres⟩; have T6 := T5.step hb6; have A6 := (A5.below hb6).here; obtain ⟨⟨u0, u1, u2⟩, ⟨v0, v1, v2⟩⟩ := T6.cells; rcases hres with ⟨G, v6, hpG, hle6, -⟩ | ⟨-, rfl⟩; (have := hno6'.out G hpG; omega))
      | (refine (encode_any _ _ (some F) _ T1.is1).mono ?_; rintro e w2 ⟨hb2, ⟨F', v2, hoF, hle, rfl, hown2⟩ | ⟨hno, -⟩⟩; rotate_left; (have := hno F rfl; omega); cases hoF; have T2 := T1.step hb2; obtain ⟨⟨x0, x1, x2⟩, -⟩ := T2.cells; obtain ⟨s2, c2, rfl, A2, -⟩ := own_bs hown2 hFb (by omega))))
    | (go_at_call 12; go_must (refine (refMay_any _ _ (some F) _ T2.is1).mono ?_; rw [hmy.out]; rintro e w3 ⟨rfl, hb3⟩; have T3 := T2.step hb3; have A3 := (A2.below hb3).here))
    | (go_at_call 17; go_must (refine (decode_any _ s2 _ c2 F _ A3).mono ?_; rintro e w4 ⟨hb4, ⟨-, v4, rfl, hD4⟩ | ⟨h4, -⟩⟩; rotate_left; (exact absurd hwh.out h4); obtain ⟨zl, z1, zn1, zc1, z2, zn2, zc2, e4⟩ := hD4.sh; subst e4; have hD4 := Hid.mk' hD4; have I4 := hD4.out.is.below (alloc_bel w4 (.cells #[.bool zl, .slice z1 zn1 zc1, .slice z2 zn2 zc2] 25)); have T4 := (T3.step hb4).step (alloc_bel w4 (.cells #[.bool zl, .slice z1 zn1 zc1, .slice z2 zn2 zc2] 25)); have A4 := (A3.below hb4).here.below (alloc_bel w4 (.cells #[.bool zl, .slice z1 zn1 zc1, .slice z2 zn2 zc2] 25)); obtain ⟨⟨r0, r1, r2⟩, -⟩ := T4.cells))
    | (go_at_call 13; go_must (refine (same_any _ _ _ (some F) (some F) _ T4.is1.here I4.here).mono ?_; rw [hsm.out]; rintro e w5 ⟨rfl, hb5⟩; have T5 := T4.step hb5; have A5 := (A4.here.below hb5).here; obtain ⟨-, ⟨t0, t1, t2⟩⟩ := T5.cells)))
  refine wp_region_held_drew (S := (fun u => Two w.heap.size w u w.heap.size #[.bool l, .slice sp n cap, .slice sq k cq] #[.bool l', .slice sp' n' cap', .slice sq' k' cq'] (some F) p)) (by kernel_rfl) (T6.step ((Below.refl _ _).drew)) (fun hHeld => ?_)
  refine wpAnyH_ready (rs := [0]) (by kernel_rfl) (by simp) ?_
  refine AllReadyH.cons (o := ⟨_, _, _, _, _, _⟩) rfl (fun K hK => ?_) AllReadyH.nil
  go_simp
  refine (anchored_any _).mono ?_; rintro e w7 ⟨rfl, hb7⟩
  go_wp2_with fail
  refine hK.out _ _ (hHeld.step hb7) (fun hHeld => ?_)
  clear hK K
  try simp only [Act.put, List.setIfInBounds_toArray, List.set_cons_zero, List.set_cons_succ]
  refine wpAnyH_take (i := 1) (oi := ⟨_, _, _, _, _, _⟩) (v := ?_) rfl (by kernel_rfl) (by kernel_rfl) (by kernel_rfl) (fun _ _ _ h => h) (Or.inl ⟨by rfl, ?_⟩) (by assumption) ?_
  rotate_left
  · intro w hSw
    go_simp
    try (with_reducible rfl)
  try simp only [Act.put, List.setIfInBounds_toArray, List.set_cons_zero, List.set_cons_succ]
  refine wpAnyH_take (i := 2) (oi := ⟨_, _, _, _, _, _⟩) (v := ?_) rfl (by kernel_rfl) (by kernel_rfl) (by kernel_rfl) (fun _ _ _ h => h) (Or.inl ⟨by rfl, ?_⟩) (by assumption) ?_
  rotate_left
  · intro w hSw
    go_simp
    try (with_reducible rfl)
  try simp only [Act.put, List.setIfInBounds_toArray, List.set_cons_zero, List.set_cons_succ]
  refine wpAnyH_take (i := 3) (oi := ⟨_, _, _, _, _, _⟩) (v := ?_) rfl (by kernel_rfl) (by kernel_rfl) (by kernel_rfl) (fun _ _ _ h => h) (Or.inl ⟨by rfl, ?_⟩) (by assumption) ?_
  rotate_left
  · intro w hSw
    go_simp
    try (with_reducible rfl)
  try simp only [Act.put, List.setIfInBounds_toArray, List.set_cons_zero, List.set_cons_succ]
  refine wpAnyH_take (i := 4) (oi := ⟨_, _, _, _, _, _⟩) (v := ?_) rfl (by kernel_rfl) (by kernel_rfl) (by kernel_rfl) (fun _ _ _ h => h) (Or.inl ⟨by rfl, ?_⟩) (by assumption) ?_
  rotate_left
  · intro w hSw
    go_simp
    try (with_reducible rfl)
  try simp only [Act.put, List.setIfInBounds_toArray, List.set_cons_zero, List.set_cons_succ]
  refine wpAnyH_take (i := 5) (oi := ⟨_, _, _, _, _, _⟩) rfl (by kernel_rfl) (by kernel_rfl) (by kernel_rfl) (fun _ _ _ h => h) (Or.inr ⟨by rfl, rfl⟩) (by assumption) ?_
  try simp only [Act.put, List.setIfInBounds_toArray, List.set_cons_zero, List.set_cons_succ]
  refine wpAnyH_take (i := 6) (oi := ⟨_, _, _, _, _, _⟩) rfl (by kernel_rfl) (by kernel_rfl) (by kernel_rfl) (fun _ _ _ h => h) (Or.inr ⟨by rfl, rfl⟩) (by assumption) ?_
  try simp only [Act.put, List.setIfInBounds_toArray, List.set_cons_zero, List.set_cons_succ]
  refine wpAnyH_take (i := 8) (oi := ⟨_, _, _, _, _, _⟩) rfl (by kernel_rfl) (by kernel_rfl) (by kernel_rfl) (fun _ _ _ h => h) (Or.inr ⟨by rfl, rfl⟩) (by assumption) ?_
  try simp only [Act.put, List.setIfInBounds_toArray, List.set_cons_zero, List.set_cons_succ]
  refine wpAnyH_take (i := 9) (oi := ⟨_, _, _, _, _, _⟩) rfl (by kernel_rfl) (by kernel_rfl) (by kernel_rfl) (fun _ _ _ h => h) (Or.inr ⟨by rfl, rfl⟩) (by assumption) ?_
  try simp only [Act.put, List.setIfInBounds_toArray, List.set_cons_zero, List.set_cons_succ]
  refine wpAnyH_take (i := 7) (oi := ⟨_, _, _, _, _, _⟩) rfl (by kernel_rfl) (by kernel_rfl) (by kernel_rfl) (fun _ _ _ h => h) (Or.inr ⟨by rfl, rfl⟩) (by assumption) ?_
  try simp only [Act.put, List.setIfInBounds_toArray, List.set_cons_zero, List.set_cons_succ]
  refine wpAnyH_take (i := 10) (oi := ⟨_, _, _, _, _, _⟩) rfl (by kernel_rfl) (by kernel_rfl) (by kernel_rfl) (fun _ _ _ h => h) (Or.inr ⟨by rfl, rfl⟩) (by assumption) ?_
  try simp only [Act.put, List.setIfInBounds_toArray, List.set_cons_zero, List.set_cons_succ]
  refine wpAnyH_take (i := 11) (oi := ⟨_, _, _, _, _, _⟩) rfl (by kernel_rfl) (by kernel_rfl) (by kernel_rfl) (fun _ _ _ h => h) (Or.inr ⟨by rfl, rfl⟩) (by assumption) ?_
  try simp only [Act.put, List.setIfInBounds_toArray, List.set_cons_zero, List.set_cons_succ]
  refine wpAnyH_take (i := 12) (oi := ⟨_, _, _, _, _, _⟩) (v := ?_) rfl (by kernel_rfl) (by kernel_rfl) (by kernel_rfl) (fun _ _ _ h => h) (Or.inl ⟨by rfl, ?_⟩) (by assumption) ?_
  rotate_left
  · intro w hSw
    go_simp
    try (with_reducible rfl)
  try simp only [Act.put, List.setIfInBounds_toArray, List.set_cons_zero, List.set_cons_succ]
  refine wpAnyH_take (i := 13) (oi := ⟨_, _, _, _, _, _⟩) (v := ?_) rfl (by kernel_rfl) (by kernel_rfl) (by kernel_rfl) (fun _ _ _ h => h) (Or.inl ⟨by rfl, ?_⟩) (by assumption) ?_
  rotate_left
  · intro w hSw
    go_simp
    try (with_reducible rfl)
  try simp only [Act.put, List.setIfInBounds_toArray, List.set_cons_zero, List.set_cons_succ]
  refine wpAnyH_take (i := 14) (oi := ⟨_, _, _, _, _, _⟩) (v := ?_) rfl (by kernel_rfl) (by kernel_rfl) (by kernel_rfl) (fun _ _ _ h => h) (Or.inl ⟨by rfl, ?_⟩) (by assumption) ?_
  rotate_left
  · intro w hSw
    go_simp
    try (with_reducible rfl)
  try simp only [Act.put, List.setIfInBounds_toArray, List.set_cons_zero, List.set_cons_succ]
  refine wpAnyH_done (by kernel_rfl) ?_ _
  go_wp2
  go_ret
  exact ⟨rfl, hHeld.bel⟩

theorem back_walk (x y : Value) (o p : Option (List Int)) (N : Nat) (w : World) (hI : Is N w 16 x o) (hJ : Is N w 16 y p) :
    Calls Try.prog 6 #[x, y] w fun e w' => e = .returned (.bool true) ∧ Below w.heap.size w w' := by
  have hI := hI.here
  have hJ := hJ.here
  obtain ⟨l, sp, n, cap, bs, sq, k, cq, vs, hs⟩ := hI.sh
  obtain ⟨l', sp', n', cap', bs', sq', k', cq', vs', hs'⟩ := hJ.sh
  rw [hs.eq] at hI ⊢
  rw [hs'.eq] at hJ ⊢
  cases hm : may o with
  | false => exact back_no l l' sp n cap sq k cq sp' n' cap' sq' k' cq' o p w hI hJ hm
  | true =>
    obtain ⟨F, rfl, hF⟩ := may_some hm
    cases hm' : may p with
    | true =>
      obtain ⟨G, rfl, hG⟩ := may_some hm'
      exact back_yes_some l l' sp n cap sq k cq sp' n' cap' sq' k' cq' F G w _ hI hJ hF hG rfl
    | false => exact back_yes_none l l' sp n cap sq k cq sp' n' cap' sq' k' cq' F p w hI hJ hF (fun G e => by subst e; simp [may] at hm'; omega)
end Go.Proofs.Ytbggpiigekakaaa
