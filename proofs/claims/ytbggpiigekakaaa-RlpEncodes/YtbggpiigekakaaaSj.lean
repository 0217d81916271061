/- Layer rlp: the walk of RlpBack. -/
import Derived.Test.YtbggpiigekakaaaSi
import Derived.Test.YtbggpiigekakaaaRv
namespace Go.Proofs.Ytbggpiigekakaaa
open Go.RowKit
set_option linter.unusedVariables false
set_option linter.unusedSimpArgs false

/-- Two items and the variables that hold them, while others are made. -/
structure Two (N : Nat) (W w' : World) (g : Nat) (X Y : Array Value) (o p : Option (List Int)) : Prop where
  bel : Below N W w'
  is1 : Is N w' 16 (.agg X) o
  is2 : Is N w' 16 (.agg Y) p
  arr1 : Arr w' g 25 X
  arr2 : Arr w' (g + 1) 25 Y
  lo : N ≤ g
  hi : g + 2 ≤ w'.heap.size
theorem Two.step {N : Nat} {W w' w'' : World} {g : Nat} {X Y : Array Value} {o p : Option (List Int)} (h : Two N W w' g X Y o p) (hb : Below w'.heap.size w' w'') : Two N W w'' g X Y o p := by
  have h1 := h.hi
  have h2 := h.lo
  have h3 := hb.size
  exact ⟨h.bel.trans (hb.mono (by omega)), h.is1.below (hb.mono (by omega)), h.is2.below (hb.mono (by omega)), h.arr1.below hb (by omega), h.arr2.below hb (by omega), h2, by omega⟩
theorem Two.cells {N : Nat} {W w' : World} {g : Nat} {a b c a' b' c' : Value} {o p : Option (List Int)} (h : Two N W w' g #[a, b, c] #[a', b', c'] o p) :
    (w'.cell? ⟨g, 0, none⟩ = some a ∧ w'.cell? ⟨g, 1, none⟩ = some b ∧ w'.cell? ⟨g, 2, none⟩ = some c) ∧ (w'.cell? ⟨g + 1, 0, none⟩ = some a' ∧ w'.cell? ⟨g + 1, 1, none⟩ = some b' ∧ w'.cell? ⟨g + 1, 2, none⟩ = some c') :=
  ⟨⟨h.arr1.cell 0, h.arr1.cell 1, h.arr1.cell 2⟩, h.arr2.cell 0, h.arr2.cell 1, h.arr2.cell 2⟩
theorem Two.mk' {w : World} {X Y : Array Value} {o p : Option (List Int)} (hI : Is w.heap.size w 16 (.agg X) o) (hJ : Is w.heap.size w 16 (.agg Y) p) : Two w.heap.size w ((w.alloc (.cells X 25)).alloc (.cells Y 25)) w.heap.size X Y o p := by
  have hb0 : Below w.heap.size w ((w.alloc (.cells X 25)).alloc (.cells Y 25)) := ((Below.refl _ _).alloc (Nat.le_refl _) _).alloc (by simp) _
  refine ⟨hb0, hI.below hb0, hJ.below hb0, (Arr.new w 25 X).alloc _, ?_, Nat.le_refl _, by simp⟩
  have := Arr.new (w.alloc (.cells X 25)) 25 Y
  simpa using this
theorem alloc_bel (w : World) (o : Obj) : Below w.heap.size w (w.alloc o) := (Below.refl _ _).alloc (Nat.le_refl _) _

set_option maxHeartbeats 1000000 in
theorem back_no (l l' : Bool) (sp : Option Addr) (n cap : Nat) (sq : Option Addr) (k cq : Nat) (sp' : Option Addr) (n' cap' : Nat) (sq' : Option Addr) (k' cq' : Nat) (o p : Option (List Int)) (w : World)
    (hI : Is w.heap.size w 16 (.agg #[.bool l, .slice sp n cap, .slice sq k cq]) o) (hJ : Is w.heap.size w 16 (.agg #[.bool l', .slice sp' n' cap', .slice sq' k' cq']) p) (hm : may o = false) :
    Calls Try.prog 6 #[.agg #[.bool l, .slice sp n cap, .slice sq k cq], .agg #[.bool l', .slice sp' n' cap', .slice sq' k' cq']] w fun e w' => e = .returned (.bool true) ∧ Below w.heap.size w w' := by
  have T1 := Two.mk' hI hJ
  have hsm := Hid.mk' (same_left (p := o) hm)
  have hno : Hid (∀ F, o = some F → F.length ≤ 65536 → False) := fun F e hl => by subst e; rw [may_yes hl] at hm; cases hm
  go_enter Try.func6, Try.ntmps6
  go_wp2_with (first
    | (go_at_call 9; go_must (refine (encode_any _ _ o _ T1.is1).mono ?_; rintro e w2 ⟨hb2, ⟨F, v2, hoF, hle, -⟩ | ⟨-, rfl⟩⟩; (exact (hno.out F hoF hle).elim); have T2 := T1.step hb2; obtain ⟨⟨x0, x1, x2⟩, -⟩ := T2.cells))
    | (go_at_call 12; go_must (refine (refMay_any _ _ o _ T2.is1).mono ?_; rw [hm]; rintro e w3 ⟨rfl, hb3⟩; have T3 := T2.step hb3))
    | (go_at_call 16; go_must (refine (anchored_any _).mono ?_; rintro e w4 ⟨rfl, hb4⟩; have T4 := T3.step hb4; obtain ⟨⟨z0, z1, z2⟩, -⟩ := T4.cells))
    | (go_at_call 13; go_must (refine (same_any _ _ _ o o _ T4.is1 T4.is1).mono ?_; rw [hsm.out]; rintro e w5 ⟨rfl, hb5⟩; have T5 := T4.step hb5)))
  go_ret
  exact ⟨rfl, T5.bel⟩

theorem keepTwo {N g : Nat} {W w1 w2 : World} {X Y : Array Value} {o p : Option (List Int)} {s t : Option Addr} {n m c d : Nat} {F G : List Int} (hb : Below w1.heap.size w1 w2)
    (h : Two N W w1 g X Y o p ∧ BS w1.heap.size w1 s n c F ∧ BS w1.heap.size w1 t m d G) : Two N W w2 g X Y o p ∧ BS w2.heap.size w2 s n c F ∧ BS w2.heap.size w2 t m d G :=
  ⟨h.1.step hb, (h.2.1.below hb).here, (h.2.2.below hb).here⟩

set_option maxHeartbeats 1000000 in
theorem back_yes_some (l l' : Bool) (sp : Option Addr) (n cap : Nat) (sq : Option Addr) (k cq : Nat) (sp' : Option Addr) (n' cap' : Nat) (sq' : Option Addr) (k' cq' : Nat) (F G : List Int) (w : World) (t : Bool)
    (hI : Is w.heap.size w 16 (.agg #[.bool l, .slice sp n cap, .slice sq k cq]) (some F)) (hJ : Is w.heap.size w 16 (.agg #[.bool l', .slice sp' n' cap', .slice sq' k' cq']) (some G)) (hl6 : F.length ≤ 65536) (hle6 : G.length ≤ 65536) (ht : decide (F = G) = t) :
    Calls Try.prog 6 #[.agg #[.bool l, .slice sp n cap, .slice sq k cq], .agg #[.bool l', .slice sp' n' cap', .slice sq' k' cq']] w fun e w' => e = .returned (.bool true) ∧ Below w.heap.size w w' := by
  have T1 := Two.mk' hI hJ
  have hmy := Hid.mk' (may_yes hl6)
  have hsm : Hid (same (some F) (some F) = true) := by rw [same_both hl6 hl6]; simp [Hid]
  have hwh := Hid.mk' (whole_form hI.fm hl6)
  have hFb := hI.bts
  have hGb := hJ.bts
  go_enter Try.func6, Try.ntmps6
  go_upto_region 8 with (first
    | (go_at_call 9; go_must (first
      | (refine (encode_any _ _ (some G) w5 T5.is2).mono ?_; rintro e w6 ⟨hb6, hres⟩; have T6 := T5.step hb6; have A6 := (A5.below hb6).here; obtain ⟨⟨u0, u1, u2⟩, ⟨v0, v1, v2⟩⟩ := T6.cells; rcases hres with ⟨G', v6, hpG, -, rfl, hown6⟩ | ⟨hno6, -⟩; rotate_left; (have := hno6 G rfl; omega); cases hpG; obtain ⟨s6, c6, rfl, hbs6, -⟩ := own_bs hown6 hGb (by omega))
      | (refine (encode_any _ _ (some F) _ T1.is1).mono ?_; rintro e w2 ⟨hb2, ⟨F', v2, hoF, hle, rfl, hown2⟩ | ⟨hno, -⟩⟩; rotate_left; (have := hno F rfl; omega); cases hoF; have T2 := T1.step hb2; obtain ⟨⟨x0, x1, x2⟩, -⟩ := T2.cells; obtain ⟨s2, c2, rfl, A2, -⟩ := own_bs hown2 hFb (by omega))))
    | (go_at_call 12; go_must (refine (refMay_any _ _ (some F) _ T2.is1).mono ?_; rw [hmy.out]; rintro e w3 ⟨rfl, hb3⟩; have T3 := T2.step hb3; have A3 := (A2.below hb3).here))
    | (go_at_call 17; go_must (refine (decode_any _ s2 _ c2 F _ A3).mono ?_; rintro e w4 ⟨hb4, ⟨-, v4, rfl, hD4⟩ | ⟨h4, -⟩⟩; rotate_left; (exact absurd hwh.out h4); obtain ⟨zl, z1, zn1, zc1, z2, zn2, zc2, e4⟩ := hD4.sh; subst e4; have hD4 := Hid.mk' hD4; have I4 := hD4.out.is.below (alloc_bel w4 (.cells #[.bool zl, .slice z1 zn1 zc1, .slice z2 zn2 zc2] 25)); have T4 := (T3.step hb4).step (alloc_bel w4 (.cells #[.bool zl, .slice z1 zn1 zc1, .slice z2 zn2 zc2] 25)); have A4 := (A3.below hb4).here.below (alloc_bel w4 (.cells #[.bool zl, .slice z1 zn1 zc1, .slice z2 zn2 zc2] 25)); obtain ⟨⟨r0, r1, r2⟩, -⟩ := T4.cells))
    | (go_at_call 13; go_must (refine (same_any _ _ _ (some F) (some F) _ T4.is1.here I4.here).mono ?_; rw [hsm.out]; rintro e w5 ⟨rfl, hb5⟩; have T5 := T4.step hb5; have A5 := (A4.here.below hb5).here; obtain ⟨-, ⟨t0, t1, t2⟩⟩ := T5.cells)))
  have hs2' : same (some F) (some G) = t := (same_both hl6 hle6).trans ht
  replace hs2' := Hid.mk' hs2'
  replace ht := Hid.mk' ht
  replace hle6 := Hid.mk' hle6
  replace hl6 := Hid.mk' hl6
  refine wp_region_held_drew (S := (fun u => Two w.heap.size w u w.heap.size #[.bool l, .slice sp n cap, .slice sq k cq] #[.bool l', .slice sp' n' cap', .slice sq' k' cq'] (some F) (some G) ∧ BS u.heap.size u s2 F.length c2 F ∧ BS u.heap.size u s6 G.length c6 G)) (by kernel_rfl) (keepTwo ((Below.refl _ _).drew) ⟨T6, A6, hbs6⟩) (fun hHeld => ?_)
  refine wpAnyH_ready (rs := [0]) (by kernel_rfl) (by simp) ?_
  refine AllReadyH.cons (o := ⟨_, _, _, _, _, _⟩) rfl (fun K hK => ?_) AllReadyH.nil
  go_simp
  refine (anchored_any _).mono ?_; rintro e w7 ⟨rfl, hb7⟩
  go_wp2_with fail
  refine hK.out _ _ (keepTwo hb7 hHeld) (fun hHeld => ?_)
  clear hK K
  try simp only [Act.put, List.setIfInBounds_toArray, List.set_cons_zero, List.set_cons_succ]
  refine wpAnyH_take (i := 1) (oi := ⟨_, _, _, _, _, _⟩) (v := ?_) rfl (by kernel_rfl) (by kernel_rfl) (by kernel_rfl) (fun _ _ _ h => h) (Or.inl ⟨by rfl, ?_⟩) (by assumption) ?_
  rotate_left
  · intro w hSw
    go_simp
    try (with_reducible rfl)
  try simp only [Act.put, List.setIfInBounds_toArray, List.set_cons_zero, List.set_cons_succ]
  refine wpAnyH_take (i := 2) (oi := ⟨_, _, _, _, _, _⟩) (v := ?_) rfl (by kernel_rfl) (by kernel_rfl) (by kernel_rfl) (fun _ _ _ h => h) (Or.inl ⟨by rfl, ?_⟩) (by assumption) ?_
  rotate_left
  · intro w hSw
    go_simp
    try (with_reducible rfl)
  try simp only [Act.put, List.setIfInBounds_toArray, List.set_cons_zero, List.set_cons_succ]
  refine wpAnyH_take (i := 3) (oi := ⟨_, _, _, _, _, _⟩) (v := ?_) rfl (by kernel_rfl) (by kernel_rfl) (by kernel_rfl) (fun _ _ _ h => h) (Or.inl ⟨by rfl, ?_⟩) (by assumption) ?_
  rotate_left
  · intro w hSw
    go_simp
    try (with_reducible rfl)
  try simp only [Act.put, List.setIfInBounds_toArray, List.set_cons_zero, List.set_cons_succ]
  refine wpAnyH_take (i := 4) (oi := ⟨_, _, _, _, _, _⟩) (v := ?_) rfl (by kernel_rfl) (by kernel_rfl) (by kernel_rfl) (fun _ _ _ h => h) (Or.inl ⟨by rfl, ?_⟩) (by assumption) ?_
  rotate_left
  · intro w hSw
    go_simp
    try (with_reducible rfl)
  try simp only [Act.put, List.setIfInBounds_toArray, List.set_cons_zero, List.set_cons_succ]
  refine wpAnyH_take (i := 5) (oi := ⟨_, _, _, _, _, _⟩) (v := ?_) rfl (by kernel_rfl) (by kernel_rfl) (by kernel_rfl) (fun _ _ _ h => h) (Or.inl ⟨by rfl, ?_⟩) (by assumption) ?_
  rotate_left
  · intro w hSw
    go_simp
    try (with_reducible rfl)
  try simp only [Act.put, List.setIfInBounds_toArray, List.set_cons_zero, List.set_cons_succ]
  refine wpAnyH_take (i := 6) (oi := ⟨_, _, _, _, _, _⟩) (v := ?_) rfl (by kernel_rfl) (by kernel_rfl) (by kernel_rfl) (fun _ _ _ h => h) (Or.inl ⟨by rfl, ?_⟩) (by assumption) ?_
  rotate_left
  · intro w hSw
    go_simp
    try (with_reducible rfl)
  try simp only [Act.put, List.setIfInBounds_toArray, List.set_cons_zero, List.set_cons_succ]
  refine wpAnyH_take (i := 8) (oi := ⟨_, _, _, _, _, _⟩) (v := ?_) rfl (by kernel_rfl) (by kernel_rfl) (by kernel_rfl) (fun _ _ _ h => h) (Or.inl ⟨by rfl, ?_⟩) (by assumption) ?_
  rotate_left
  · intro w hSw
    obtain ⟨⟨u0, u1, u2⟩, ⟨v0, v1, v2⟩⟩ := hSw.1.cells
    go_simp
    try (with_reducible rfl)
  try simp only [Act.put, List.setIfInBounds_toArray, List.set_cons_zero, List.set_cons_succ]
  refine wpAnyH_take (i := 9) (oi := ⟨_, _, _, _, _, _⟩) (v := ?_) rfl (by kernel_rfl) (by kernel_rfl) (by kernel_rfl) (fun _ _ _ h => h) (Or.inl ⟨by rfl, ?_⟩) (by assumption) ?_
  rotate_left
  · intro w hSw
    obtain ⟨⟨u0, u1, u2⟩, ⟨v0, v1, v2⟩⟩ := hSw.1.cells
    go_simp
    try (with_reducible rfl)
  try simp only [Act.put, List.setIfInBounds_toArray, List.set_cons_zero, List.set_cons_succ]
  refine wpAnyH_ready (rs := [7]) (by kernel_rfl) (by simp) ?_
  refine AllReadyH.cons (o := ⟨_, _, _, _, _, _⟩) rfl (fun K hK => ?_) AllReadyH.nil
  go_simp
  refine (same01_any s2 s6 _ _ c2 c6 F G _ _ _ hHeld.2.1 hHeld.2.2).mono ?_; rw [ht.out]; rintro e w7 ⟨rfl, rfl⟩
  go_wp2_with fail
  refine hK.out _ _ hHeld (fun hHeld => ?_)
  clear hK K
  try simp only [Act.put, List.setIfInBounds_toArray, List.set_cons_zero, List.set_cons_succ]
  refine wpAnyH_ready (rs := [10]) (by kernel_rfl) (by simp) ?_
  refine AllReadyH.cons (o := ⟨_, _, _, _, _, _⟩) rfl (fun K hK => ?_) AllReadyH.nil
  go_simp
  refine (same_any _ _ _ (some F) (some G) _ hHeld.1.is1 hHeld.1.is2).mono ?_; rw [hs2'.out]; rintro e w7 ⟨rfl, hb7⟩
  go_wp2_with fail
  refine hK.out _ _ (keepTwo hb7 hHeld) (fun hHeld => ?_)
  clear hK K
  try simp only [Act.put, List.setIfInBounds_toArray, List.set_cons_zero, List.set_cons_succ]
  refine wpAnyH_take (i := 11) (oi := ⟨_, _, _, _, _, _⟩) (v := ?_) rfl (by kernel_rfl) (by kernel_rfl) (by kernel_rfl) (fun _ _ _ h => h) (Or.inl ⟨by rfl, ?_⟩) (by assumption) ?_
  rotate_left
  · intro w hSw
    go_simp
    try (with_reducible rfl)
  try simp only [Act.put, List.setIfInBounds_toArray, List.set_cons_zero, List.set_cons_succ]
  refine wpAnyH_take (i := 12) (oi := ⟨_, _, _, _, _, _⟩) (v := ?_) rfl (by kernel_rfl) (by kernel_rfl) (by kernel_rfl) (fun _ _ _ h => h) (Or.inl ⟨by rfl, ?_⟩) (by assumption) ?_
  rotate_left
  · intro w hSw
    go_simp
    try (with_reducible rfl)
  try simp only [Act.put, List.setIfInBounds_toArray, List.set_cons_zero, List.set_cons_succ]
  refine wpAnyH_take (i := 13) (oi := ⟨_, _, _, _, _, _⟩) (v := ?_) rfl (by kernel_rfl) (by kernel_rfl) (by kernel_rfl) (fun _ _ _ h => h) (Or.inl ⟨by rfl, ?_⟩) (by assumption) ?_
  rotate_left
  · intro w hSw
    go_simp
    try (with_reducible rfl)
  try simp only [Act.put, List.setIfInBounds_toArray, List.set_cons_zero, List.set_cons_succ]
  refine wpAnyH_take (i := 14) (oi := ⟨_, _, _, _, _, _⟩) (v := ?_) rfl (by kernel_rfl) (by kernel_rfl) (by kernel_rfl) (fun _ _ _ h => h) (Or.inl ⟨by rfl, ?_⟩) (by assumption) ?_
  rotate_left
  · intro w hSw
    go_simp
    try (with_reducible rfl)
  try simp only [Act.put, List.setIfInBounds_toArray, List.set_cons_zero, List.set_cons_succ]
  refine wpAnyH_done (by kernel_rfl) ?_ _
  go_wp2
  go_ret
  exact ⟨rfl, hHeld.1.bel⟩

end Go.Proofs.Ytbggpiigekakaaa
