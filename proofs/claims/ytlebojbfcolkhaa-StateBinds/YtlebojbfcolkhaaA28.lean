/- Sa, Sb, Sj. -/
import Derived.Test.YtlebojbfcolkhaaA14
import Derived.Test.YtlebojbfcolkhaaA21
import Derived.Test.YtlebojbfcolkhaaPk
import Derived.Test.YtlebojbfcolkhaaMf
import Derived.Test.YtlebojbfcolkhaaPi
import Derived.Test.YtlebojbfcolkhaaA30
/- Layer state, the document's answer: bytes. -/
namespace Go.Proofs.Ytlebojbfcolkhaa
set_option linter.unusedSectionVars false
set_option maxHeartbeats 1000000
open Go.RowKit
set_option maxRecDepth 100000
set_option linter.unusedVariables false
set_option linter.unusedSimpArgs false

set_option maxHeartbeats 1000000 in
theorem eight_any (n : Int) (w : World) :
    Calls Try.prog 60 #[.int .u64 n] w fun e w' => ∃ v', e = .returned v' ∧ w'.ownsRow w.heap.size 5 1 v' 8 (by8 (e8 n)) ∧ Below w.heap.size w w' := by
  go_enter Try.func60, Try.ntmps60
  go_wp2_with fail
  go_loopw [3, 4] (fun u q wr => ∃ j : Nat, q = .int .i64 (7 - (j : Int)) ∧ j ≤ 8 ∧ wr.ownsRow w.heap.size 5 1 u j (by8 ((e8 n).take j)) ∧ Below w.heap.size w wr) (fun _ q _ => (intOf q + 1).toNat)
  case atStart => exact ⟨0, rfl, by omega, World.ownsRow_nil _ _ _ _, Below.refl _ _⟩
  case round =>
    obtain ⟨j, rfl, hj, hou, hbl⟩ := hrel
    have hsz := hbl.size
    by_cases hlt : j < 8
    · obtain ⟨i, hi⟩ : ∃ i, i = 7 - j := ⟨_, rfl⟩
      rw [show (7 - (j : Int)) = (i : Int) by omega]
      have hs0 : (0 : Int) ≤ (i : Int) := by omega
      have hs1 : (i : Int) ≤ 7 := by omega
      have hw1 : IntKind.i64.wrap (8 * (i : Int)) = 8 * i := by rw [IntKind.wrap_i64]; omega
      have hw2 : (8 * (i : Int)) % 18446744073709551616 = 8 * i := by omega
      have hw3 : (8 * (i : Int)).toNat = 8 * i := by omega
      have het : Hid ((e8 n).take (j + 1) = (e8 n).take j ++ [n / 2 ^ (8 * i) % 256]) := Hid.mk' (by rw [e8_take hlt, show 56 - 8 * j = 8 * i by omega])
      have hij : Hid ((i : Int) - 1 = 7 - ((j + 1 : Nat) : Int)) := Hid.mk' (by omega)
      clear hi
      go_wp2_with (at_builtin; go_must (refine append_bytes (by rfl) (.tmp 9) (.tmp 16) (by rfl) w.heap.size _ j ((e8 n).take j) (by rfl) (hou.alloc _) (some ⟨wr.heap.size, 0, none⟩) 1 1 [n / 2 ^ (8 * i) % 256] (by rfl) (by rfl) (fun h => by cases h) (Arr.sl (Arr.new wr 5 _)) (by omega) (by simp; omega) ?_; intro v2 w2 hown2 hg2; have hB2 := (hbl.alloc hsz _).grown hg2 (by simp; omega) (fun k e => own_ge hou k e)))
      go_roundw
      case rel => exact ⟨j + 1, congrArg (Value.int .i64) hij.out, by omega, by rw [het.out]; exact hown2, hB2⟩
      case measure => first | (simp [intOf]; omega) | simp [intOf]
    · obtain rfl : j = 8 := by omega
      have e8' : Hid ((e8 n).take 8 = e8 n) := Hid.mk' (List.take_of_length_le (by rw [e8_len]; exact Nat.le_refl _))
      go_wp2_with fail
      go_ret
      exact ⟨_, rfl, by rw [← e8'.out]; exact hou, hbl⟩
set_option maxHeartbeats 1000000 in
theorem refAcBytes_any (a : Ac) (w : World) (ha : AcOK a) :
    Calls Try.prog 29 #[.agg a.arr] w fun e w' => ∃ v, e = .returned v ∧ w'.ownsRow w.heap.size 5 1 v 48 (by8 (acb a)) ∧ Below w.heap.size w w' := by
  have A0 := (Arr.new w 26 a.arr).drew
  have B0 := (alloc_bel' w (.cells a.arr 26)).drew
  have hs0 : w.heap.size + 1 ≤ (w.alloc (.cells a.arr 26)).drew.heap.size := by simp
  have H32 := Hid.mk' ha.l32
  go_enter Try.func29, Try.ntmps29
  go_upto_region 1 with fail
  refine wp_region_held_drew (S := fun u => Below w.heap.size w u ∧ Arr u w.heap.size 26 a.arr) (by kernel_rfl) (⟨B0, A0⟩) (fun hHeld => ?_)
  refine wpAnyH_take (i := 0) (oi := ⟨_, _, _, _, _, _⟩) (v := ?_) rfl (by kernel_rfl) (by kernel_rfl) (by kernel_rfl) (fun _ _ _ h => h) (Or.inl ⟨by rfl, ?_⟩) (by assumption) ?_
  rotate_left
  · intro u hSw
    go_simp
    try (with_reducible rfl)
  try simp only [Act.put, List.setIfInBounds_toArray, List.set_cons_zero, List.set_cons_succ]
  refine wpAnyH_take (i := 1) (oi := ⟨_, _, _, _, _, _⟩) (v := ?_) rfl (by kernel_rfl) (by kernel_rfl) (by kernel_rfl) (fun _ _ _ h => h) (Or.inl ⟨by rfl, ?_⟩) (by assumption) ?_
  rotate_left
  · intro u hSw
    have cc := ac_c0 hSw.2.ac
    go_simp
    try (with_reducible rfl)
  try simp only [Act.put, List.setIfInBounds_toArray, List.set_cons_zero, List.set_cons_succ]
  refine wpAnyH_take (i := 3) (oi := ⟨_, _, _, _, _, _⟩) (v := ?_) rfl (by kernel_rfl) (by kernel_rfl) (by kernel_rfl) (fun _ _ _ h => h) (Or.inl ⟨by rfl, ?_⟩) (by assumption) ?_
  rotate_left
  · intro u hSw
    go_simp
    try (with_reducible rfl)
  try simp only [Act.put, List.setIfInBounds_toArray, List.set_cons_zero, List.set_cons_succ]
  refine wpAnyH_take (i := 4) (oi := ⟨_, _, _, _, _, _⟩) (v := ?_) rfl (by kernel_rfl) (by kernel_rfl) (by kernel_rfl) (fun _ _ _ h => h) (Or.inl ⟨by rfl, ?_⟩) (by assumption) ?_
  rotate_left
  · intro u hSw
    have cc := ac_c1 hSw.2.ac; simp only [Nat.zero_add] at cc
    go_simp
    try (with_reducible rfl)
  try simp only [Act.put, List.setIfInBounds_toArray, List.set_cons_zero, List.set_cons_succ]
  refine wpAnyH_take (i := 7) (oi := ⟨_, _, _, _, _, _⟩) (v := ?_) rfl (by kernel_rfl) (by kernel_rfl) (by kernel_rfl) (fun _ _ _ h => h) (Or.inl ⟨by rfl, ?_⟩) (by assumption) ?_
  rotate_left
  · intro u hSw
    go_simp
    try (with_reducible rfl)
  try simp only [Act.put, List.setIfInBounds_toArray, List.set_cons_zero, List.set_cons_succ]
  refine wpAnyH_take (i := 8) (oi := ⟨_, _, _, _, _, _⟩) (v := ?_) rfl (by kernel_rfl) (by kernel_rfl) (by kernel_rfl) (fun _ _ _ h => h) (Or.inl ⟨by rfl, ?_⟩) (by assumption) ?_
  rotate_left
  · intro u hSw
    go_simp
    try (with_reducible rfl)
  try simp only [Act.put, List.setIfInBounds_toArray, List.set_cons_zero, List.set_cons_succ]
  refine wpAnyH_ready (rs := [2]) (by kernel_rfl) (by simp) ?_
  refine AllReadyH.cons (o := ⟨_, _, _, _, _, _⟩) rfl (fun K hK => ?_) AllReadyH.nil
  go_simp
  refine (eight_any a.bal _).mono ?_; rintro e u1 ⟨v1, rfl, hown1, hb1⟩; have B1 := B0.trans (hb1.mono B0.size); have A1 := A0.below hb1 A0.lt
  go_wp2_with fail
  refine hK.out _ _ ⟨B1, A1⟩ (fun hHeld => ?_)
  clear hK K
  try simp only [Act.put, List.setIfInBounds_toArray, List.set_cons_zero, List.set_cons_succ]
  refine wpAnyH_ready (rs := [5]) (by kernel_rfl) (by simp) ?_
  refine AllReadyH.cons (o := ⟨_, _, _, _, _, _⟩) rfl (fun K hK => ?_) AllReadyH.nil
  go_simp
  refine (eight_any a.non _).mono ?_; rintro e u2 ⟨v2, rfl, hown2, hb2⟩; have B2 := B1.trans (hb2.mono B1.size); have A2 := A1.below hb2 A1.lt; obtain ⟨s2, k2, rfl, hS2, hsp2⟩ := own_bs hown2 (e8_bts _) (by omega); have hown1' := own_mono (own_same hown1 (fun k hk => hb2.block k (own_lt hown1 hk))) (show w.heap.size + 1 ≤ _ by omega); have hn2 := hS2.nil; have hl2 := hS2.len
  go_wp2_with fail
  refine hK.out _ _ ⟨B2, A2⟩ (fun hHeld => ?_)
  clear hK K
  try simp only [Act.put, List.setIfInBounds_toArray, List.set_cons_zero, List.set_cons_succ]
  refine wpAnyH_ready (rs := [6]) (by kernel_rfl) (by simp) ?_
  refine AllReadyH.cons (o := ⟨_, _, _, _, _, _⟩) rfl (fun K hK => ?_) AllReadyH.nil
  refine step_append_bytes rfl (.tmp 5) (.tmp 8) rfl (w.heap.size + 1) _ 8 (e8 a.bal) rfl hown1' s2 8 k2 (e8 a.non) rfl hl2.out hn2 hS2.sl (by omega) (by have := hb1.size; have := hb2.size; omega) ?_; intro v3 u3 hown3 hg3; have B3 := B2.grown hg3 B2.size (fun k e => by have := own_ge hown1' k e; omega); have A3 := A2.grown hg3 (ne_own hown1' (by omega))
  refine hK.out _ _ ⟨B3, A3⟩ (fun hHeld => ?_)
  clear hK K
  try simp only [Act.put, List.setIfInBounds_toArray, List.set_cons_zero, List.set_cons_succ]
  have hl3 := range_sl (ac_lk A3.ac)
  refine wpAnyH_ready (rs := [9]) (by kernel_rfl) (by simp) ?_
  refine AllReadyH.cons (o := ⟨_, _, _, _, _, _⟩) rfl (fun K hK => ?_) AllReadyH.nil
  refine step_append_bytes rfl (.tmp 9) (.tmp 11) rfl (w.heap.size + 1) _ (8 + 8) (e8 a.bal ++ e8 a.non) rfl hown3 (some ⟨w.heap.size, 0 + 2, none⟩) 32 32 a.lk rfl H32.out.symm (fun h => by cases h) hl3 (by omega) (by have := B3.size; have := A3.lt; omega) ?_; intro v4 u4 hown4 hg4; have B4 := B3.grown hg4 B3.size (fun k e => by have := own_ge hown3 k e; omega); have A4 := A3.grown hg4 (ne_own hown3 (by omega))
  refine hK.out _ _ ⟨B4, A4⟩ (fun hHeld => ?_)
  clear hK K
  try simp only [Act.put, List.setIfInBounds_toArray, List.set_cons_zero, List.set_cons_succ]
  refine wpAnyH_take (i := 10) (oi := ⟨_, _, _, _, _, _⟩) (v := ?_) rfl (by kernel_rfl) (by kernel_rfl) (by kernel_rfl) (fun _ _ _ h => h) (Or.inl ⟨by rfl, ?_⟩) (by assumption) ?_
  rotate_left
  · intro u hSw
    go_simp
    try (with_reducible rfl)
  try simp only [Act.put, List.setIfInBounds_toArray, List.set_cons_zero, List.set_cons_succ]
  refine wpAnyH_done (by kernel_rfl) ?_ _

  go_wp2_with fail
  go_ret
  exact ⟨v4, rfl, own_mono hown4 (by omega), B4⟩
set_option maxHeartbeats 1000000 in
theorem refOuBytes_any (a : Ou) (w : World) :
    Calls Try.prog 31 #[.agg a.arr] w fun e w' => ∃ v, e = .returned v ∧ w'.ownsRow w.heap.size 5 1 v 16 (by8 (oub a)) ∧ Below w.heap.size w w' := by
  have A0 := (Arr.new w 53 a.arr).drew
  have B0 := (alloc_bel' w (.cells a.arr 53)).drew
  have hs0 : w.heap.size + 1 ≤ (w.alloc (.cells a.arr 53)).drew.heap.size := by simp

  go_enter Try.func31, Try.ntmps31
  go_upto_region 1 with fail
  refine wp_region_held_drew (S := fun u => Below w.heap.size w u ∧ Arr u w.heap.size 53 a.arr) (by kernel_rfl) (⟨B0, A0⟩) (fun hHeld => ?_)
  refine wpAnyH_take (i := 0) (oi := ⟨_, _, _, _, _, _⟩) (v := ?_) rfl (by kernel_rfl) (by kernel_rfl) (by kernel_rfl) (fun _ _ _ h => h) (Or.inl ⟨by rfl, ?_⟩) (by assumption) ?_
  rotate_left
  · intro u hSw
    go_simp
    try (with_reducible rfl)
  try simp only [Act.put, List.setIfInBounds_toArray, List.set_cons_zero, List.set_cons_succ]
  refine wpAnyH_take (i := 1) (oi := ⟨_, _, _, _, _, _⟩) (v := ?_) rfl (by kernel_rfl) (by kernel_rfl) (by kernel_rfl) (fun _ _ _ h => h) (Or.inl ⟨by rfl, ?_⟩) (by assumption) ?_
  rotate_left
  · intro u hSw
    have cc := ou_c0 hSw.2.ou
    go_simp
    try (with_reducible rfl)
  try simp only [Act.put, List.setIfInBounds_toArray, List.set_cons_zero, List.set_cons_succ]
  refine wpAnyH_take (i := 3) (oi := ⟨_, _, _, _, _, _⟩) (v := ?_) rfl (by kernel_rfl) (by kernel_rfl) (by kernel_rfl) (fun _ _ _ h => h) (Or.inl ⟨by rfl, ?_⟩) (by assumption) ?_
  rotate_left
  · intro u hSw
    go_simp
    try (with_reducible rfl)
  try simp only [Act.put, List.setIfInBounds_toArray, List.set_cons_zero, List.set_cons_succ]
  refine wpAnyH_take (i := 4) (oi := ⟨_, _, _, _, _, _⟩) (v := ?_) rfl (by kernel_rfl) (by kernel_rfl) (by kernel_rfl) (fun _ _ _ h => h) (Or.inl ⟨by rfl, ?_⟩) (by assumption) ?_
  rotate_left
  · intro u hSw
    have cc := ou_c1 hSw.2.ou; simp only [Nat.zero_add] at cc
    go_simp
    try (with_reducible rfl)
  try simp only [Act.put, List.setIfInBounds_toArray, List.set_cons_zero, List.set_cons_succ]
  refine wpAnyH_ready (rs := [2]) (by kernel_rfl) (by simp) ?_
  refine AllReadyH.cons (o := ⟨_, _, _, _, _, _⟩) rfl (fun K hK => ?_) AllReadyH.nil
  go_simp
  refine (eight_any a.tw _).mono ?_; rintro e u1 ⟨v1, rfl, hown1, hb1⟩; have B1 := B0.trans (hb1.mono B0.size); have A1 := A0.below hb1 A0.lt
  go_wp2_with fail
  refine hK.out _ _ ⟨B1, A1⟩ (fun hHeld => ?_)
  clear hK K
  try simp only [Act.put, List.setIfInBounds_toArray, List.set_cons_zero, List.set_cons_succ]
  refine wpAnyH_ready (rs := [5]) (by kernel_rfl) (by simp) ?_
  refine AllReadyH.cons (o := ⟨_, _, _, _, _, _⟩) rfl (fun K hK => ?_) AllReadyH.nil
  go_simp
  refine (eight_any a.am _).mono ?_; rintro e u2 ⟨v2, rfl, hown2, hb2⟩; have B2 := B1.trans (hb2.mono B1.size); have A2 := A1.below hb2 A1.lt; obtain ⟨s2, k2, rfl, hS2, hsp2⟩ := own_bs hown2 (e8_bts _) (by omega); have hown1' := own_mono (own_same hown1 (fun k hk => hb2.block k (own_lt hown1 hk))) (show w.heap.size + 1 ≤ _ by omega); have hn2 := hS2.nil; have hl2 := hS2.len
  go_wp2_with fail
  refine hK.out _ _ ⟨B2, A2⟩ (fun hHeld => ?_)
  clear hK K
  try simp only [Act.put, List.setIfInBounds_toArray, List.set_cons_zero, List.set_cons_succ]
  refine wpAnyH_ready (rs := [6]) (by kernel_rfl) (by simp) ?_
  refine AllReadyH.cons (o := ⟨_, _, _, _, _, _⟩) rfl (fun K hK => ?_) AllReadyH.nil
  refine step_append_bytes rfl (.tmp 5) (.tmp 8) rfl (w.heap.size + 1) _ 8 (e8 a.tw) rfl hown1' s2 8 k2 (e8 a.am) rfl hl2.out hn2 hS2.sl (by omega) (by have := hb1.size; have := hb2.size; omega) ?_; intro v3 u3 hown3 hg3; have B3 := B2.grown hg3 B2.size (fun k e => by have := own_ge hown1' k e; omega); have A3 := A2.grown hg3 (ne_own hown1' (by omega))
  refine hK.out _ _ ⟨B3, A3⟩ (fun hHeld => ?_)
  clear hK K
  try simp only [Act.put, List.setIfInBounds_toArray, List.set_cons_zero, List.set_cons_succ]
  refine wpAnyH_take (i := 7) (oi := ⟨_, _, _, _, _, _⟩) (v := ?_) rfl (by kernel_rfl) (by kernel_rfl) (by kernel_rfl) (fun _ _ _ h => h) (Or.inl ⟨by rfl, ?_⟩) (by assumption) ?_
  rotate_left
  · intro u hSw
    go_simp
    try (with_reducible rfl)
  try simp only [Act.put, List.setIfInBounds_toArray, List.set_cons_zero, List.set_cons_succ]
  refine wpAnyH_done (by kernel_rfl) ?_ _

  go_wp2_with fail
  go_ret
  exact ⟨v3, rfl, own_mono hown3 (by omega), B3⟩
theorem refLeaf_bs (sp : Option Addr) (n cap N : Nat) (L : List Int) (w : World) (hS : BS N w sp n cap L) (hn : n ≤ 1000) :
    Calls Try.prog 36 #[.slice sp n cap] w fun e w' => e = .returned (.agg (h8 (lf L))) ∧ Below w.heap.size w w' := by
  have h := refLeaf_any sp n cap L w hS.len.out hS.nil hS.sl (by omega)
  rw [sha_h8] at h
  exact h
theorem built112f (n : Int) : Try.prog.built 112 [(0, .int .u64 0), (1, .int .u64 0), (2, .int .u64 0), (3, .int .u64 n)] = some #[.int .u64 0, .int .u64 0, .int .u64 0, .int .u64 n] := by kernel_rfl
set_option maxHeartbeats 1000000 in
theorem counted_any (n : Int) (w : World) :
    Calls Try.prog 39 #[.int .u64 n] w fun e w' => e = .returned (.agg (h8 (cnt n))) ∧ Below w.heap.size w w' := by
  have A0 := Arr.new w 24 (h8 Z32)
  have hb0 := alloc_bel' w (.cells (h8 Z32) 24)
  have hc := cnt_len n
  have hF := fun w => refFrom_any _ (w4 n) w (w4_cells n)
  rw [from_cnt] at hF
  replace hF := Hid.mk' hF
  go_enter Try.func39, Try.ntmps39
  go_wp2_with (first
    | (refine bdT (by rfl) 112 _ (by rfl) (by rfl) (built112f n) ?_)
    | (go_at_call 65; go_must (refine (hF.out _).mono ?_; rintro e w2 ⟨rfl, hb2⟩; have A2 := A0.below hb2 (by simp)))
    | (refine st24 (by rfl) _ _ (by rfl) w.heap.size _ Z32 (by rfl) (by rfl) hc Z32_len A2 ?_))
  have hB2 := hb0.trans (hb2.mono (by simp))
  exact bodyPost_ret (v := .agg (h8 (cnt n))) (res24 Try.results39 rfl hc (A2.setRow _)) rfl ⟨rfl, below_setRow hB2 (Nat.le_refl _) _⟩
end Go.Proofs.Ytlebojbfcolkhaa
/- Layer state, the document's answer: Check, CheckOut. -/
namespace Go.Proofs.Ytlebojbfcolkhaa
set_option linter.unusedSectionVars false
set_option maxHeartbeats 1000000
open Go.RowKit
set_option maxRecDepth 100000
set_option linter.unusedVariables false
set_option linter.unusedSimpArgs false

theorem run_eq24d {X Y : List Int} (hX : X.length = 32) (hY : Y.length = 32) (w : World) : (binOp .eql 24 (.agg (h8 X)) (.agg (h8 Y))).run Try.prog w = .ok (.bool (decide (X = Y))) w := run_eq24 hX hY w
set_option maxHeartbeats 1000000 in
theorem joined_any (X Y : List Int) (c : Int) (w : World) (hX : X.length = 32) (hY : Y.length = 32) :
    Calls Try.prog 40 #[.agg (h8 X), .agg (h8 Y), .int .u64 c] w fun e w' => e = .returned (.agg (h8 (jn X Y c))) ∧ Below w.heap.size w w' := by
  have X0 := ((Arr.new w 24 (h8 X)).alloc (.cells (h8 Y) 24)).alloc (.cells (h8 Z32) 24)
  have Y0 := (show Arr ((w.alloc (.cells (h8 X) 24)).alloc (.cells (h8 Y) 24)) (w.heap.size + 1) 24 (h8 Y) from (by simpa using Arr.new (w.alloc (.cells (h8 X) 24)) 24 (h8 Y))).alloc (.cells (h8 Z32) 24)
  have Z0 := Arr.new3 w (.cells (h8 X) 24) (.cells (h8 Y) 24) 24 (h8 Z32)
  have B0 := ((alloc_bel' w (.cells (h8 X) 24)).alloc (by simp) (.cells (h8 Y) 24)).alloc (by simp; omega) (.cells (h8 Z32) 24)
  have h1 := pr_len X Y
  have h2 := cnt_len c
  have h3 := jn_len X Y c
  have hj : Hid (pr (pr X Y) (cnt c) = jn X Y c) := Hid.mk' rfl
  have hP1 := Hid.mk' (fun u => refPair_h X Y u hX hY)
  have hP2 := Hid.mk' (fun u => refPair_h (pr X Y) (cnt c) u h1 h2)
  go_enter Try.func40, Try.ntmps40
  go_wp2_with (first
    | (refine ld24 (by rfl) _ (by rfl) w.heap.size 0 (by rfl) X hX X0.range ?_)
    | (refine ld24 (by rfl) _ (by rfl) (w.heap.size + 1) 0 (by rfl) Y hY Y0.range ?_)
    | (go_at_call 39; go_must (refine (counted_any c _).mono ?_; rintro e w2 ⟨rfl, hb2⟩))
    | (go_at_call 38; have hz := hP1; clear hP1; go_must (refine (hz.out _).mono ?_; rintro e w1 ⟨rfl, hb1⟩))
    | (go_at_call 38; have hz := hP2; clear hP2; go_must (refine (hz.out _).mono ?_; rintro e w3 ⟨rfl, hb3⟩; rw [hj.out]; have hb13 := (hb1.trans (hb2.mono hb1.size)).trans (hb3.mono (Nat.le_trans hb1.size hb2.size)); have Z3 := Z0.below hb13 Z0.lt; have B3 := B0.trans (hb13.mono B0.size)))
    | (refine st24 (by rfl) _ _ (by rfl) (w.heap.size + 2) _ Z32 (by rfl) (by rfl) h3 Z32_len Z3 ?_))
  exact bodyPost_ret (v := .agg (h8 (jn X Y c))) (res24 Try.results40 rfl h3 (Z3.setRow _)) rfl ⟨rfl, below_setRow B3 (by omega) _⟩
end Go.Proofs.Ytlebojbfcolkhaa
/- Layer state: like accounts, like withdrawals. -/
namespace Go.Proofs.Ytlebojbfcolkhaa
set_option linter.unusedSectionVars false
set_option maxHeartbeats 1000000
open Go.RowKit
set_option maxRecDepth 100000
set_option linter.unusedVariables false
set_option linter.unusedSimpArgs false

def decAc : DecidableEq Ac := fun a b => decidable_of_iff (a.bal = b.bal ∧ a.non = b.non ∧ a.lk = b.lk) (by
  constructor
  · intro ⟨h1, h2, h3⟩; cases a; cases b; simp_all
  · rintro rfl; exact ⟨rfl, rfl, rfl⟩)
variable [DecidableEq Ac]
def decOu : DecidableEq Ou := fun a b => decidable_of_iff (a.tw = b.tw ∧ a.am = b.am) (by
  constructor
  · intro ⟨h1, h2⟩; cases a; cases b; simp_all
  · rintro rfl; exact ⟨rfl, rfl⟩)
variable [DecidableEq Ou]
theorem run_sz {t n : Nat} (h : (Try.prog.info? t).map (·.size) = some n) (w : World) : (sizeOf t).run Try.prog w = .ok n w := by
  cases hq : Try.prog.info? t with
  | none => rw [hq] at h; cases h
  | some i =>
    rw [hq] at h
    have hz : i.size = n := by simpa using h
    simp [sizeOf, typeInfo, hq, hz]
theorem isAgg26 (w : World) : (isAgg 26).run Try.prog w = .ok true w := by
  unfold isAgg
  rw [Sem.run_bind, run_underlying Try.underlying26 w]
  rfl
theorem isAgg24' (w : World) : (isAgg 24).run Try.prog w = .ok true w := by
  unfold isAgg
  rw [Sem.run_bind, run_underlying Try.underlying24 w]
  rfl
theorem isAgg22' (w : World) : (isAgg 22).run Try.prog w = .ok false w := by
  unfold isAgg
  rw [Sem.run_bind, run_underlying Try.underlying22 w]
  rfl
theorem part26 {ps : List Ac} (h2 : ∀ a ∈ ps, a.lk.length = 32) {k : Nat} {a : Ac} (ha : ps[k]? = some a) (w : World) : (part 26 (acA ps) (k * 34)).run Try.prog w = .ok (.agg a.arr) w := by
  simp only [part, Sem.run_bind, isAgg26, Result.andThen_ok, if_true, run_sz size26, Sem.run_pure, acA_part h2 ha]
theorem part22 {C : Array Value} {k : Nat} {v : Value} (h : C[k]? = some v) (w : World) : (part 22 C k).run Try.prog w = .ok v w := by
  simp only [part, Sem.run_bind, isAgg22', Result.andThen_ok, h]
  rfl
theorem lk_part {a : Ac} (h : a.lk.length = 32) : a.arr.extract 2 (2 + 32) = h8 a.lk := by
  have hl := by8_len a.lk
  apply Array.ext'
  unfold Ac.arr h8 Ac.cells
  simp
  exact List.take_of_length_le (by omega)
theorem part24 {a : Ac} (h : a.lk.length = 32) (w : World) : (part 24 a.arr 2).run Try.prog w = .ok (.agg (h8 a.lk)) w := by
  simp only [part, Sem.run_bind, isAgg24', Result.andThen_ok, if_true, run_sz size24, Sem.run_pure, lk_part h]
/-- The fields, one after the other. -/
theorem run_eqInD24 {X Y : List Int} (d : Nat) (hX : X.length = 32) (hY : Y.length = 32) (w : World) : (Op.equalIn (d + 3) 24 (.agg (h8 X)) (.agg (h8 Y))).run Try.prog w = .ok (decide (X = Y)) w := by
  obtain ⟨i0, hi, -⟩ := info_parts info5
  have hc : Try.prog.cellsOf 5 = 1 := by kernel_rfl
  rw [run_equalIn_array w (d + 2) _ _ Try.underlying24 hi, hc, eqItems_two w (d + 1) _ _ (bat X) (bat Y) (List.range 32) (fun i h => h8_get (by rw [hX]; simpa using h)) (fun i h => h8_get (by rw [hY]; simpa using h)), bat_ext hX hY]
theorem fields26 : (Try.prog.fieldsOf 26).toList.map (fun f => (f.name != "_", f.type, f.offset)) = [(true, 22, 0), (true, 22, 1), (true, 24, 2)] := by kernel_rfl
theorem fields53 : (Try.prog.fieldsOf 53).toList.map (fun f => (f.name != "_", f.type, f.offset)) = [(true, 22, 0), (true, 22, 1)] := by kernel_rfl
theorem eqf_step {d : Nat} {xs ys : Array Value} {f : Field} {fs : List Field} {u v : Value} {r s : Bool} {w : World} (hn : ¬ f.name = "_") (h1 : (part f.type xs f.offset).run Try.prog w = .ok u w) (h2 : (part f.type ys f.offset).run Try.prog w = .ok v w) (h3 : (Op.equalIn d f.type u v).run Try.prog w = .ok r w)
    (h4 : (Op.eqFields d xs ys fs).run Try.prog w = .ok s w) : (Op.eqFields d xs ys (f :: fs)).run Try.prog w = .ok (r && s) w := by
  simp only [Op.eqFields, hn, ne_eq, not_false_eq_true, if_true, Sem.run_bind, h1, h2, h3, Result.andThen_ok]
  cases r
  · simp
  · simpa using h4
theorem eqf_nil {d : Nat} {xs ys : Array Value} {w : World} : (Op.eqFields d xs ys []).run Try.prog w = .ok true w := by simp [Op.eqFields]
theorem run_eqIn26 {a b : Ac} (d : Nat) (ha : a.lk.length = 32) (hb : b.lk.length = 32) (w : World) : (Op.equalIn (d + 5) 26 (.agg a.arr) (.agg b.arr)).run Try.prog w = .ok (decide (a = b)) w := by
  rw [run_equalIn_struct w (d + 4) 26 _ _ (by kernel_rfl) (by kernel_rfl)]
  have hf := fields26
  generalize (Try.prog.fieldsOf 26).toList = fs at hf
  have hl3 : fs.length = 3 := by simpa using congrArg List.length hf
  match fs, hl3 with
  | [f0, f1, f2], _ =>
  simp only [List.map_cons, List.map_nil, List.cons.injEq, Prod.mk.injEq, and_true, bne_iff_ne, ne_eq, and_assoc] at hf
  obtain ⟨n0, t0, o0, n1, t1, o1, n2, t2, o2⟩ := hf
  have a0 : a.arr[0]? = some (.int .u64 a.bal) := by simp [Ac.arr, Ac.cells]
  have a1 : a.arr[1]? = some (.int .u64 a.non) := by simp [Ac.arr, Ac.cells]
  have b0 : b.arr[0]? = some (.int .u64 b.bal) := by simp [Ac.arr, Ac.cells]
  have b1 : b.arr[1]? = some (.int .u64 b.non) := by simp [Ac.arr, Ac.cells]
  have hd : decide (a = b) = ((a.bal == b.bal) && ((a.non == b.non) && decide (a.lk = b.lk))) := by
    rw [Bool.eq_iff_iff]
    simp only [decide_eq_true_eq, Bool.and_eq_true, beq_iff_eq]
    constructor
    · rintro rfl; exact ⟨rfl, rfl, rfl⟩
    · intro ⟨h1, h2, h3⟩; cases a; cases b; simp_all
  rw [hd]
  have e := eqf_step (d := d + 4) (f := f0) n0 (by rw [t0, o0]; exact part22 a0 w) (by rw [t0, o0]; exact part22 b0 w) (by rw [t0]; exact run_equalIn_int w (d + 3) 22 .u64 .u64 _ _ Try.underlying22)
    (eqf_step (f := f1) n1 (by rw [t1, o1]; exact part22 a1 w) (by rw [t1, o1]; exact part22 b1 w) (by rw [t1]; exact run_equalIn_int w (d + 3) 22 .u64 .u64 _ _ Try.underlying22)
    (eqf_step (f := f2) n2 (by rw [t2, o2]; exact part24 ha w) (by rw [t2, o2]; exact part24 hb w) (by rw [t2]; exact run_eqInD24 (d + 1) ha hb w) eqf_nil))
  rw [e, Bool.and_true]
theorem run_eqIn53 {a b : Ou} (d : Nat) (w : World) : (Op.equalIn (d + 5) 53 (.agg a.arr) (.agg b.arr)).run Try.prog w = .ok (decide (a = b)) w := by
  rw [run_equalIn_struct w (d + 4) 53 _ _ (by kernel_rfl) (by kernel_rfl)]
  have hf := fields53
  generalize (Try.prog.fieldsOf 53).toList = fs at hf
  have hl2 : fs.length = 2 := by simpa using congrArg List.length hf
  match fs, hl2 with
  | [f0, f1], _ =>
  simp only [List.map_cons, List.map_nil, List.cons.injEq, Prod.mk.injEq, and_true, bne_iff_ne, ne_eq, and_assoc] at hf
  obtain ⟨n0, t0, o0, n1, t1, o1⟩ := hf
  have a0 : a.arr[0]? = some (.int .u64 a.tw) := by simp [Ou.arr, Ou.cells]
  have a1 : a.arr[1]? = some (.int .u64 a.am) := by simp [Ou.arr, Ou.cells]
  have b0 : b.arr[0]? = some (.int .u64 b.tw) := by simp [Ou.arr, Ou.cells]
  have b1 : b.arr[1]? = some (.int .u64 b.am) := by simp [Ou.arr, Ou.cells]
  have hd : decide (a = b) = ((a.tw == b.tw) && (a.am == b.am)) := by
    rw [Bool.eq_iff_iff]
    simp only [decide_eq_true_eq, Bool.and_eq_true, beq_iff_eq]
    constructor
    · rintro rfl; exact ⟨rfl, rfl⟩
    · intro ⟨h1, h2⟩; cases a; cases b; simp_all
  rw [hd]
  have e := eqf_step (d := d + 4) (f := f0) n0 (by rw [t0, o0]; exact part22 a0 w) (by rw [t0, o0]; exact part22 b0 w) (by rw [t0]; exact run_equalIn_int w (d + 3) 22 .u64 .u64 _ _ Try.underlying22)
    (eqf_step (f := f1) n1 (by rw [t1, o1]; exact part22 a1 w) (by rw [t1, o1]; exact part22 b1 w) (by rw [t1]; exact run_equalIn_int w (d + 3) 22 .u64 .u64 _ _ Try.underlying22) eqf_nil)
  rw [e, Bool.and_true]
theorem eqItems26 (w : World) (d : Nat) (ps qs : List Ac) (hp : ∀ a ∈ ps, a.lk.length = 32) (hq : ∀ a ∈ qs, a.lk.length = 32) : ∀ is : List Nat, (∀ i ∈ is, i < ps.length) → (∀ i ∈ is, i < qs.length) →
    (Op.eqItems (d + 5) 26 34 (acA ps) (acA qs) is).run Try.prog w = .ok (is.all fun i => decide (ps[i]? = qs[i]?)) w
  | [], _, _ => by simp [Op.eqItems]
  | i :: is, h, h' => by
    have hi := List.getElem?_eq_getElem (h i (by simp))
    have hi' := List.getElem?_eq_getElem (h' i (by simp))
    have ih := eqItems26 w d ps qs hp hq is (fun j hj => h j (by simp [hj])) (fun j hj => h' j (by simp [hj]))
    have m1 := hp _ (List.mem_of_getElem? hi)
    have m2 := hq _ (List.mem_of_getElem? hi')
    simp only [Op.eqItems, Sem.run_bind, part26 hp hi, part26 hq hi', Result.andThen_ok, run_eqIn26 d m1 m2, List.all_cons, hi, hi', Option.some.injEq]
    by_cases he : ps[i]'(h i (by simp)) = qs[i]'(h' i (by simp))
    · simp [he, ih]
    · simp [he]
/-- The arrays of accounts. -/
theorem run_eqIn27 {ps qs : List Ac} (hp1 : ps.length = 32) (hq1 : qs.length = 32) (hp : ∀ a ∈ ps, a.lk.length = 32) (hq : ∀ a ∈ qs, a.lk.length = 32) (w : World) : (Op.equalIn 10000 27 (.agg (acA ps)) (.agg (acA qs))).run Try.prog w = .ok (decide (ps = qs)) w := by
  have hc : Try.prog.cellsOf 26 = 34 := by kernel_rfl
  cases hq' : Try.prog.info? 26 with
  | none => have h := size26; rw [hq'] at h; cases h
  | some i0 =>
  rw [run_equalIn_array w 9999 _ _ Try.underlying27 hq', hc, eqItems26 w 9994 ps qs hp hq (List.range 32) (fun i h => by rw [hp1]; simpa using h) (fun i h => by rw [hq1]; simpa using h)]
  congr 1
  rw [Bool.eq_iff_iff]
  simp only [List.all_eq_true, List.mem_range, decide_eq_true_eq]
  constructor
  · intro h
    apply List.ext_getElem?
    intro i
    by_cases hi : i < 32
    · exact h i hi
    · rw [List.getElem?_eq_none (by omega), List.getElem?_eq_none (by omega)]
  · rintro rfl i _; rfl
theorem run_eq27 {ps qs : List Ac} (hp1 : ps.length = 32) (hq1 : qs.length = 32) (hp : ∀ a ∈ ps, a.lk.length = 32) (hq : ∀ a ∈ qs, a.lk.length = 32) (w : World) : (binOp .eql 27 (.agg (acA ps)) (.agg (acA qs))).run Try.prog w = .ok (.bool (decide (ps = qs))) w := by
  rw [run_eql_struct, run_eqIn27 hp1 hq1 hp hq]; rfl
theorem run_neq27 {ps qs : List Ac} (hp1 : ps.length = 32) (hq1 : qs.length = 32) (hp : ∀ a ∈ ps, a.lk.length = 32) (hq : ∀ a ∈ qs, a.lk.length = 32) (w : World) : (binOp .neq 27 (.agg (acA ps)) (.agg (acA qs))).run Try.prog w = .ok (.bool (!decide (ps = qs))) w := by
  rw [run_neq_struct, run_eqIn27 hp1 hq1 hp hq]; rfl
theorem run_eq26 {a b : Ac} (ha : a.lk.length = 32) (hb : b.lk.length = 32) (w : World) : (binOp .eql 26 (.agg a.arr) (.agg b.arr)).run Try.prog w = .ok (.bool (decide (a = b))) w := by
  rw [run_eql_struct, run_eqIn26 9995 ha hb]; rfl
theorem run_neq53 (a b : Ou) (w : World) : (binOp .neq 53 (.agg a.arr) (.agg b.arr)).run Try.prog w = .ok (.bool (!decide (a = b))) w := by
  rw [run_neq_struct, run_eqIn53 9995]; rfl
end Go.Proofs.Ytlebojbfcolkhaa
