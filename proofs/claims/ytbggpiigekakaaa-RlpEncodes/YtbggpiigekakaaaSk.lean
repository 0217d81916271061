/- Layer rlp: the walk of RlpEncodes. -/
import Derived.Test.YtbggpiigekakaaaSj
namespace Go.Proofs.Ytbggpiigekakaaa
open Go.RowKit
set_option linter.unusedVariables false
set_option linter.unusedSimpArgs false

theorem BS.none (w : World) : BS w.heap.size w none 0 0 [] :=
  ⟨show _ = _ from rfl, fun _ => ⟨rfl, rfl⟩, by omega, by omega, by omega, fun h0 => by omega, fun _ h => by cases h⟩

/-- What Encode answers: bytes and an error that hang on the form alone. -/
theorem enc_some (o : Option (List Int)) (hb : ∀ F, o = some F → Bts F) : ∃ (L : List Int) (E : Int), ∀ w e w', Enc w o e w' →
    Below w.heap.size w w' ∧ ∃ sp cap, e = .returned (.tuple #[.slice sp L.length cap, .int .i64 E]) ∧ BS w'.heap.size w' sp L.length cap L := by
  by_cases h : ∃ F, o = some F ∧ F.length ≤ 65536
  · obtain ⟨F, rfl, hl⟩ := h
    refine ⟨F, 0, fun w e w' ⟨hbel, h⟩ => ⟨hbel, ?_⟩⟩
    rcases h with ⟨F', v, e1, -, rfl, hown⟩ | ⟨hno, -⟩
    · cases e1
      obtain ⟨sp, cap, rfl, hB, -⟩ := own_bs hown (hb F rfl) (by omega)
      exact ⟨sp, cap, rfl, hB⟩
    · have := hno F rfl
      omega
  · refine ⟨[], 2, fun w e w' ⟨hbel, h'⟩ => ⟨hbel, ?_⟩⟩
    rcases h' with ⟨F', v, e1, hl, -, -⟩ | ⟨-, rfl⟩
    · exact absurd ⟨F', e1, hl⟩ h
    · exact ⟨none, 0, rfl, BS.none w'⟩

theorem keepTwo' {N g : Nat} {W w1 w2 : World} {X Y : Array Value} {o p : Option (List Int)} {s t : Option Addr} {n m c d : Nat} {F G : List Int} (hb : Below w1.heap.size w1 w2)
    (h : Two N W w1 g X Y o p ∧ BS w1.heap.size w1 s n c F ∧ BS w1.heap.size w1 t m d G) : Two N W w2 g X Y o p ∧ BS w2.heap.size w2 s n c F ∧ BS w2.heap.size w2 t m d G := keepTwo hb h

set_option maxHeartbeats 1000000 in
theorem encodes_at (l l' : Bool) (sp : Option Addr) (n cap : Nat) (sq : Option Addr) (k cq : Nat) (sp' : Option Addr) (n' cap' : Nat) (sq' : Option Addr) (k' cq' : Nat) (o p : Option (List Int)) (w : World)
    (hI : Is w.heap.size w 16 (.agg #[.bool l, .slice sp n cap, .slice sq k cq]) o) (hJ : Is w.heap.size w 16 (.agg #[.bool l', .slice sp' n' cap', .slice sq' k' cq']) p) :
    Calls Try.prog 3 #[.agg #[.bool l, .slice sp n cap, .slice sq k cq], .agg #[.bool l', .slice sp' n' cap', .slice sq' k' cq']] w fun e w' => e = .returned (.bool true) ∧ Below w.heap.size w w' := by
  have T1 := Two.mk' hI hJ
  obtain ⟨L, E, henc⟩ := enc_some o (fun F e => by subst e; exact hI.bts)
  have c9 : ∀ (N : Nat) (u : World), Is N u 16 (.agg #[.bool l, .slice sp n cap, .slice sq k cq]) o → Calls Try.prog 9 #[.agg #[.bool l, .slice sp n cap, .slice sq k cq]] u fun e w' => Below u.heap.size u w' ∧ ∃ sp cap, e = .returned (.tuple #[.slice sp L.length cap, .int .i64 E]) ∧ BS w'.heap.size w' sp L.length cap L :=
    fun N u h => (encode_any N _ o u h).mono fun e w' he => henc u e w' he
  have c10 : ∀ (N : Nat) (u : World), Is N u 16 (.agg #[.bool l, .slice sp n cap, .slice sq k cq]) o → Calls Try.prog 10 #[.agg #[.bool l, .slice sp n cap, .slice sq k cq]] u fun e w' => Below u.heap.size u w' ∧ ∃ sp cap, e = .returned (.tuple #[.slice sp L.length cap, .int .i64 E]) ∧ BS w'.heap.size w' sp L.length cap L :=
    fun N u h => (refEncode_any N _ o u h).mono fun e w' he => henc u e w' he
  obtain ⟨mo, hmo⟩ : ∃ b, b = may o := ⟨_, rfl⟩
  obtain ⟨so, hso⟩ : ∃ b, b = same o p := ⟨_, rfl⟩

  clear henc
  replace hmo := Hid.mk' hmo
  replace hso := Hid.mk' hso

  replace c9 := Hid.mk' c9
  replace c10 := Hid.mk' c10
  go_enter Try.func3, Try.ntmps3
  go_upto_region 3 with (first
    | (go_at_call 9; go_must (refine (c9.out _ _ T1.is1).mono ?_; rintro e w2 ⟨hb2, s2, k2, rfl, A2⟩; have T2 := T1.step hb2; obtain ⟨⟨x0, x1, x2⟩, -⟩ := T2.cells))
    | (go_at_call 10; go_must (refine (c10.out _ _ T2.is1).mono ?_; rintro e w3 ⟨hb3, s3, k3, rfl, A3⟩; have T3 := T2.step hb3; have B3 := (A2.below hb3).here)))
  refine wp_region_held_drew (S := (fun u => Two w.heap.size w u w.heap.size #[.bool l, .slice sp n cap, .slice sq k cq] #[.bool l', .slice sp' n' cap', .slice sq' k' cq'] o p ∧ BS u.heap.size u s2 L.length k2 L ∧ BS u.heap.size u s3 L.length k3 L)) (by kernel_rfl) (keepTwo ((Below.refl _ _).drew) ⟨T3, B3, A3⟩) (fun hHeld => ?_)
  refine wpAnyH_take (i := 0) (oi := ⟨_, _, _, _, _, _⟩) (v := ?_) rfl (by kernel_rfl) (by kernel_rfl) (by kernel_rfl) (fun _ _ _ h => h) (Or.inl ⟨by rfl, ?_⟩) (by assumption) ?_
  rotate_left
  · intro w hSw
    obtain ⟨⟨u0, u1, u2⟩, ⟨v0, v1, v2⟩⟩ := hSw.1.cells
    go_simp
    try (with_reducible rfl)
  try simp only [Act.put, List.setIfInBounds_toArray, List.set_cons_zero, List.set_cons_succ]
  refine wpAnyH_take (i := 2) (oi := ⟨_, _, _, _, _, _⟩) (v := ?_) rfl (by kernel_rfl) (by kernel_rfl) (by kernel_rfl) (fun _ _ _ h => h) (Or.inl ⟨by rfl, ?_⟩) (by assumption) ?_
  rotate_left
  · intro w hSw
    obtain ⟨⟨u0, u1, u2⟩, ⟨v0, v1, v2⟩⟩ := hSw.1.cells
    go_simp
    try (with_reducible rfl)
  try simp only [Act.put, List.setIfInBounds_toArray, List.set_cons_zero, List.set_cons_succ]
  refine wpAnyH_ready (rs := [1]) (by kernel_rfl) (by simp) ?_
  refine AllReadyH.cons (o := ⟨_, _, _, _, _, _⟩) rfl (fun K hK => ?_) AllReadyH.nil
  go_simp
  refine (may_any _ _ o _ hHeld.1.is1).mono ?_; rw [← hmo.out]; rintro e w7 ⟨rfl, hb7⟩
  go_wp2_with fail
  refine hK.out _ _ (keepTwo hb7 hHeld) (fun hHeld => ?_)
  clear hK K
  try simp only [Act.put, List.setIfInBounds_toArray, List.set_cons_zero, List.set_cons_succ]
  refine wpAnyH_ready (rs := [3]) (by kernel_rfl) (by simp) ?_
  refine AllReadyH.cons (o := ⟨_, _, _, _, _, _⟩) rfl (fun K hK => ?_) AllReadyH.nil
  go_simp
  refine (refMay_any _ _ o _ hHeld.1.is1).mono ?_; rw [← hmo.out]; rintro e w7 ⟨rfl, hb7⟩
  go_wp2_with fail
  refine hK.out _ _ (keepTwo hb7 hHeld) (fun hHeld => ?_)
  clear hK K
  try simp only [Act.put, List.setIfInBounds_toArray, List.set_cons_zero, List.set_cons_succ]
  refine wpAnyH_take (i := 4) (oi := ⟨_, _, _, _, _, _⟩) (v := ?_) rfl (by kernel_rfl) (by kernel_rfl) (by kernel_rfl) (fun _ _ _ h => h) (Or.inl ⟨by rfl, ?_⟩) (by assumption) ?_
  rotate_left
  · intro w hSw
    go_simp
    try (with_reducible rfl)
  try simp only [Act.put, List.setIfInBounds_toArray, List.set_cons_zero, List.set_cons_succ]
  refine wpAnyH_take (i := 5) (oi := ⟨_, _, _, _, _, _⟩) (v := ?_) rfl (by kernel_rfl) (by kernel_rfl) (by kernel_rfl) (fun _ _ _ h => h) (Or.inl ⟨by rfl, ?_⟩) (by assumption) ?_
  rotate_left
  · intro w hSw
    go_simp
    try (with_reducible rfl)
  try simp only [Act.put, List.setIfInBounds_toArray, List.set_cons_zero, List.set_cons_succ]
  refine wpAnyH_take (i := 6) (oi := ⟨_, _, _, _, _, _⟩) (v := ?_) rfl (by kernel_rfl) (by kernel_rfl) (by kernel_rfl) (fun _ _ _ h => h) (Or.inl ⟨by rfl, ?_⟩) (by assumption) ?_
  rotate_left
  · intro w hSw
    obtain ⟨⟨u0, u1, u2⟩, ⟨v0, v1, v2⟩⟩ := hSw.1.cells
    go_simp
    try (with_reducible rfl)
  try simp only [Act.put, List.setIfInBounds_toArray, List.set_cons_zero, List.set_cons_succ]
  refine wpAnyH_take (i := 7) (oi := ⟨_, _, _, _, _, _⟩) (v := ?_) rfl (by kernel_rfl) (by kernel_rfl) (by kernel_rfl) (fun _ _ _ h => h) (Or.inl ⟨by rfl, ?_⟩) (by assumption) ?_
  rotate_left
  · intro w hSw
    obtain ⟨⟨u0, u1, u2⟩, ⟨v0, v1, v2⟩⟩ := hSw.1.cells
    go_simp
    try (with_reducible rfl)
  try simp only [Act.put, List.setIfInBounds_toArray, List.set_cons_zero, List.set_cons_succ]
  refine wpAnyH_take (i := 9) (oi := ⟨_, _, _, _, _, _⟩) (v := ?_) rfl (by kernel_rfl) (by kernel_rfl) (by kernel_rfl) (fun _ _ _ h => h) (Or.inl ⟨by rfl, ?_⟩) (by assumption) ?_
  rotate_left
  · intro w hSw
    obtain ⟨⟨u0, u1, u2⟩, ⟨v0, v1, v2⟩⟩ := hSw.1.cells
    go_simp
    try (with_reducible rfl)
  try simp only [Act.put, List.setIfInBounds_toArray, List.set_cons_zero, List.set_cons_succ]
  refine wpAnyH_take (i := 10) (oi := ⟨_, _, _, _, _, _⟩) (v := ?_) rfl (by kernel_rfl) (by kernel_rfl) (by kernel_rfl) (fun _ _ _ h => h) (Or.inl ⟨by rfl, ?_⟩) (by assumption) ?_
  rotate_left
  · intro w hSw
    obtain ⟨⟨u0, u1, u2⟩, ⟨v0, v1, v2⟩⟩ := hSw.1.cells
    go_simp
    try (with_reducible rfl)
  try simp only [Act.put, List.setIfInBounds_toArray, List.set_cons_zero, List.set_cons_succ]
  refine wpAnyH_ready (rs := [8]) (by kernel_rfl) (by simp) ?_
  refine AllReadyH.cons (o := ⟨_, _, _, _, _, _⟩) rfl (fun K hK => ?_) AllReadyH.nil
  go_simp
  refine (same_any _ _ _ o p _ hHeld.1.is1 hHeld.1.is2).mono ?_; rw [← hso.out]; rintro e w7 ⟨rfl, hb7⟩
  go_wp2_with fail
  refine hK.out _ _ (keepTwo hb7 hHeld) (fun hHeld => ?_)
  clear hK K
  try simp only [Act.put, List.setIfInBounds_toArray, List.set_cons_zero, List.set_cons_succ]
  refine wpAnyH_ready (rs := [11]) (by kernel_rfl) (by simp) ?_
  refine AllReadyH.cons (o := ⟨_, _, _, _, _, _⟩) rfl (fun K hK => ?_) AllReadyH.nil
  go_simp
  refine (refSame_any _ _ _ o p _ hHeld.1.is1 hHeld.1.is2).mono ?_; rw [← hso.out]; rintro e w7 ⟨rfl, hb7⟩
  go_wp2_with fail
  refine hK.out _ _ (keepTwo hb7 hHeld) (fun hHeld => ?_)
  clear hK K
  try simp only [Act.put, List.setIfInBounds_toArray, List.set_cons_zero, List.set_cons_succ]
  refine wpAnyH_take (i := 12) (oi := ⟨_, _, _, _, _, _⟩) (v := ?_) rfl (by kernel_rfl) (by kernel_rfl) (by kernel_rfl) (fun _ _ _ h => h) (Or.inl ⟨by rfl, ?_⟩) (by assumption) ?_
  rotate_left
  · intro w hSw
    go_simp
    try (with_reducible rfl)
  try simp only [Act.put, List.setIfInBounds_toArray, List.set_cons_zero, List.set_cons_succ]
  refine wpAnyH_take (i := 13) (oi := ⟨_, _, _, _, _, _⟩) (v := ?_) rfl (by kernel_rfl) (by kernel_rfl) (by kernel_rfl) (fun _ _ _ h => h) (Or.inl ⟨by rfl, ?_⟩) (by assumption) ?_
  rotate_left
  · intro w hSw
    go_simp
    try (with_reducible rfl)
  try simp only [Act.put, List.setIfInBounds_toArray, List.set_cons_zero, List.set_cons_succ]
  refine wpAnyH_take (i := 14) (oi := ⟨_, _, _, _, _, _⟩) (v := ?_) rfl (by kernel_rfl) (by kernel_rfl) (by kernel_rfl) (fun _ _ _ h => h) (Or.inl ⟨by rfl, ?_⟩) (by assumption) ?_
  rotate_left
  · intro w hSw
    go_simp
    try (with_reducible rfl)
  try simp only [Act.put, List.setIfInBounds_toArray, List.set_cons_zero, List.set_cons_succ]
  refine wpAnyH_take (i := 15) (oi := ⟨_, _, _, _, _, _⟩) (v := ?_) rfl (by kernel_rfl) (by kernel_rfl) (by kernel_rfl) (fun _ _ _ h => h) (Or.inl ⟨by rfl, ?_⟩) (by assumption) ?_
  rotate_left
  · intro w hSw
    go_simp
    try (with_reducible rfl)
  try simp only [Act.put, List.setIfInBounds_toArray, List.set_cons_zero, List.set_cons_succ]
  refine wpAnyH_take (i := 16) (oi := ⟨_, _, _, _, _, _⟩) (v := ?_) rfl (by kernel_rfl) (by kernel_rfl) (by kernel_rfl) (fun _ _ _ h => h) (Or.inl ⟨by rfl, ?_⟩) (by assumption) ?_
  rotate_left
  · intro w hSw
    go_simp
    try (with_reducible rfl)
  try simp only [Act.put, List.setIfInBounds_toArray, List.set_cons_zero, List.set_cons_succ]
  refine wpAnyH_ready (rs := [17]) (by kernel_rfl) (by simp) ?_
  refine AllReadyH.cons (o := ⟨_, _, _, _, _, _⟩) rfl (fun K hK => ?_) AllReadyH.nil
  go_simp
  refine (same01_any s2 s3 _ _ k2 k3 L L _ _ _ hHeld.2.1 hHeld.2.2).mono ?_; simp only [decide_true]; rintro e w7 ⟨rfl, rfl⟩
  go_wp2_with fail
  refine hK.out _ _ hHeld (fun hHeld => ?_)
  clear hK K
  try simp only [Act.put, List.setIfInBounds_toArray, List.set_cons_zero, List.set_cons_succ]
  refine wpAnyH_take (i := 18) (oi := ⟨_, _, _, _, _, _⟩) (v := ?_) rfl (by kernel_rfl) (by kernel_rfl) (by kernel_rfl) (fun _ _ _ h => h) (Or.inl ⟨by rfl, ?_⟩) (by assumption) ?_
  rotate_left
  · intro w hSw
    go_simp
    try (with_reducible rfl)
  try simp only [Act.put, List.setIfInBounds_toArray, List.set_cons_zero, List.set_cons_succ]
  refine wpAnyH_take (i := 19) (oi := ⟨_, _, _, _, _, _⟩) (v := ?_) rfl (by kernel_rfl) (by kernel_rfl) (by kernel_rfl) (fun _ _ _ h => h) (Or.inl ⟨by rfl, ?_⟩) (by assumption) ?_
  rotate_left
  · intro w hSw
    go_simp
    try (with_reducible rfl)
  try simp only [Act.put, List.setIfInBounds_toArray, List.set_cons_zero, List.set_cons_succ]
  refine wpAnyH_take (i := 20) (oi := ⟨_, _, _, _, _, _⟩) (v := ?_) rfl (by kernel_rfl) (by kernel_rfl) (by kernel_rfl) (fun _ _ _ h => h) (Or.inl ⟨by rfl, ?_⟩) (by assumption) ?_
  rotate_left
  · intro w hSw
    go_simp
    try (with_reducible rfl)
  try simp only [Act.put, List.setIfInBounds_toArray, List.set_cons_zero, List.set_cons_succ]
  refine wpAnyH_take (i := 21) (oi := ⟨_, _, _, _, _, _⟩) (v := ?_) rfl (by kernel_rfl) (by kernel_rfl) (by kernel_rfl) (fun _ _ _ h => h) (Or.inl ⟨by rfl, ?_⟩) (by assumption) ?_
  rotate_left
  · intro w hSw
    go_simp
    try (with_reducible rfl)
  try simp only [Act.put, List.setIfInBounds_toArray, List.set_cons_zero, List.set_cons_succ]
  refine wpAnyH_take (i := 22) (oi := ⟨_, _, _, _, _, _⟩) (v := ?_) rfl (by kernel_rfl) (by kernel_rfl) (by kernel_rfl) (fun _ _ _ h => h) (Or.inl ⟨by rfl, ?_⟩) (by assumption) ?_
  rotate_left
  · intro w hSw
    go_simp
    try (with_reducible rfl)
  try simp only [Act.put, List.setIfInBounds_toArray, List.set_cons_zero, List.set_cons_succ]
  refine wpAnyH_take (i := 23) (oi := ⟨_, _, _, _, _, _⟩) (v := ?_) rfl (by kernel_rfl) (by kernel_rfl) (by kernel_rfl) (fun _ _ _ h => h) (Or.inl ⟨by rfl, ?_⟩) (by assumption) ?_
  rotate_left
  · intro w hSw
    go_simp
    try (with_reducible rfl)
  try simp only [Act.put, List.setIfInBounds_toArray, List.set_cons_zero, List.set_cons_succ]
  refine wpAnyH_take (i := 24) (oi := ⟨_, _, _, _, _, _⟩) (v := ?_) rfl (by kernel_rfl) (by kernel_rfl) (by kernel_rfl) (fun _ _ _ h => h) (Or.inl ⟨by rfl, ?_⟩) (by assumption) ?_
  rotate_left
  · intro w hSw
    go_simp
    try (with_reducible rfl)
  try simp only [Act.put, List.setIfInBounds_toArray, List.set_cons_zero, List.set_cons_succ]
  refine wpAnyH_ready (rs := [25]) (by kernel_rfl) (by simp) ?_
  refine AllReadyH.cons (o := ⟨_, _, _, _, _, _⟩) rfl (fun K hK => ?_) AllReadyH.nil
  go_simp
  refine (anchored_any _).mono ?_; rintro e w7 ⟨rfl, hb7⟩
  go_wp2_with fail
  refine hK.out _ _ (keepTwo hb7 hHeld) (fun hHeld => ?_)
  clear hK K
  try simp only [Act.put, List.setIfInBounds_toArray, List.set_cons_zero, List.set_cons_succ]
  refine wpAnyH_take (i := 26) (oi := ⟨_, _, _, _, _, _⟩) (v := ?_) rfl (by kernel_rfl) (by kernel_rfl) (by kernel_rfl) (fun _ _ _ h => h) (Or.inl ⟨by rfl, ?_⟩) (by assumption) ?_
  rotate_left
  · intro w hSw
    go_simp
    try (with_reducible rfl)
  try simp only [Act.put, List.setIfInBounds_toArray, List.set_cons_zero, List.set_cons_succ]
  refine wpAnyH_take (i := 27) (oi := ⟨_, _, _, _, _, _⟩) (v := ?_) rfl (by kernel_rfl) (by kernel_rfl) (by kernel_rfl) (fun _ _ _ h => h) (Or.inl ⟨by rfl, ?_⟩) (by assumption) ?_
  rotate_left
  · intro w hSw
    go_simp
    try (with_reducible rfl)
  try simp only [Act.put, List.setIfInBounds_toArray, List.set_cons_zero, List.set_cons_succ]
  refine wpAnyH_done (by kernel_rfl) ?_ _
  go_wp2
  go_ret
  exact ⟨rfl, hHeld.1.bel⟩

theorem encodes_walk (x y : Value) (o p : Option (List Int)) (N : Nat) (w : World) (hI : Is N w 16 x o) (hJ : Is N w 16 y p) :
    Calls Try.prog 3 #[x, y] w fun e w' => e = .returned (.bool true) ∧ Below w.heap.size w w' := by
  have hI := hI.here
  have hJ := hJ.here
  obtain ⟨l, sp, n, cap, bs, sq, k, cq, vs, hs⟩ := hI.sh
  obtain ⟨l', sp', n', cap', bs', sq', k', cq', vs', hs'⟩ := hJ.sh
  rw [hs.eq] at hI ⊢
  rw [hs'.eq] at hJ ⊢
  exact encodes_at l l' sp n cap sq k cq sp' n' cap' sq' k' cq' o p w hI hJ
end Go.Proofs.Ytbggpiigekakaaa
