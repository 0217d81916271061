/- Sa, ZPo, ZSa, ZSb, ZSp, ZSq. -/
import Derived.Test.YtbhhbkoikocjgaaX01
import Derived.Test.YtbhhbkoikocjgaaX02
import Derived.Test.YtbhhbkoikocjgaaX03
import Derived.Test.YtbhhbkoikocjgaaX04
import Derived.Test.YtbhhbkoikocjgaaX05
import Derived.Test.YtbhhbkoikocjgaaX06
import Derived.Test.YtbhhbkoikocjgaaX07
import Derived.Test.YtbhhbkoikocjgaaX30
import Derived.BigQuiet
import Derived.BigRegion
import Derived.ChangeKeysEq
import Derived.ChangeOld
import Derived.Deep.DeepCutAuto
import Derived.Deep.DrawnRows
import Derived.Deep.MidRow
import Derived.Deep.QuietTactic
import Derived.Deep.RegionHeld3
import Derived.Deep.RegionLaw
import Derived.Deep.RegionWith
import Derived.Deep.WholeRow
import Derived.Great.BuildSlice
import Derived.Great.FillDense
import Derived.JoinedTies
import Derived.KernelRfl
import Derived.Laws.AppendOwnNone
import Derived.Laws.BitsLemmas
import Derived.Laws.BytesArg
import Derived.Laws.CopyOwn
import Derived.Laws.CopyRow
import Derived.Laws.MakeOwn
import Derived.Laws.OwnMore
import Derived.Laws.Tables
import Derived.Lib.SlBytesConst
import Derived.LoopIn
import Derived.LoopNIn
import Derived.Maps.AppendAt
import Derived.OpenShut
import Derived.OwnWalkIn
import Derived.ProofKit
import Derived.RangeFuncBound
import Derived.RangeFuncCalls
import Derived.RangeFuncLeaves
import Derived.RangeFuncNested
import Derived.RangeFuncRecord
import Derived.Shelf.Abstract
import Derived.Shelf.RegionOpen
import Derived.ShutString
import Derived.SizedLaws
import Derived.TacticsInMore
import Derived.WalkKit
import Derived.WalkLawsBesides
import Derived.WalkSpells
import GoSem.Claim
import GoSem.ClaimJoined
import GoSem.ClaimMapViews
import Derived.Test.YtbhhbkoikocjgaaX32
import Derived.Test.YtbhhbkoikocjgaaX38
import Derived.Test.YtbhhbkoikocjgaaX08
import Derived.Test.YtbhhbkoikocjgaaX26
import Derived.Test.YtbhhbkoikocjgaaX11
import Derived.Test.YtbhhbkoikocjgaaX12
import Derived.Test.YtbhhbkoikocjgaaX31
import Derived.Test.YtbhhbkoikocjgaaX27
import Derived.Lib.AppendZeros
import Derived.Test.YtbhhbkoikocjgaaX20
import Derived.Test.YtbhhbkoikocjgaaX17
import Derived.Test.YtbhhbkoikocjgaaX25
import Derived.Test.YtbhhbkoikocjgaaX34
/- Layer spec: what the layers below give. -/
namespace Go.Proofs.Ytbhhbkoikocjgaa
set_option linter.unusedSectionVars false
set_option maxHeartbeats 1000000
open Go.RowKit
set_option maxRecDepth 100000
set_option linter.unusedVariables false
set_option linter.unusedSimpArgs false

variable [DecidableEq Ac] [DecidableEq Ou] [DecidableEq Mg]
set_option maxHeartbeats 1000000 in
theorem eight_any (n : Int) (w : World) :
    Calls Try.prog 53 #[.int .u64 n] w fun e w' => ∃ v', e = .returned v' ∧ w'.ownsRow w.heap.size 5 1 v' 8 (by8 (e8 n)) ∧ Below w.heap.size w w' := by
  go_enter Try.func53, Try.ntmps53
  go_wp2_with fail
  go_loopw [3, 4] (fun u q wr => ∃ j : Nat, q = .int .i64 (7 - (j : Int)) ∧ j ≤ 8 ∧ wr.ownsRow w.heap.size 5 1 u j (by8 ((e8 n).take j)) ∧ Below w.heap.size w wr) (fun _ q _ => (intOf q + 1).toNat)
  case atStart => exact ⟨0, rfl, by omega, World.ownsRow_nil _ _ _ _, Below.refl _ _⟩
  case round =>
    obtain ⟨j, rfl, hj, hou, hbl⟩ := hrel
    have hsz := hbl.size
    by_cases hlt : j < 8
    · obtain ⟨i, hi⟩ : ∃ i, i = 7 - j := ⟨_, rfl⟩
      rw [show (7 - (j : Int)) = (i : Int) by omega]
      have hs0 : (0 : Int) ≤ (i : Int) := by omega
      have hs1 : (i : Int) ≤ 7 := by omega
      have hw1 : IntKind.i64.wrap (8 * (i : Int)) = 8 * i := by rw [IntKind.wrap_i64]; omega
      have hw2 : (8 * (i : Int)) % 18446744073709551616 = 8 * i := by omega
      have hw3 : (8 * (i : Int)).toNat = 8 * i := by omega
      have het : Hid ((e8 n).take (j + 1) = (e8 n).take j ++ [n / 2 ^ (8 * i) % 256]) := Hid.mk' (by rw [e8_take hlt, show 56 - 8 * j = 8 * i by omega])
      have hij : Hid ((i : Int) - 1 = 7 - ((j + 1 : Nat) : Int)) := Hid.mk' (by omega)
      clear hi
      go_wp2_with (at_builtin; go_must (refine append_bytes (by rfl) (.tmp 9) (.tmp 16) (by rfl) w.heap.size _ j ((e8 n).take j) (by rfl) (hou.alloc _) (some ⟨wr.heap.size, 0, none⟩) 1 1 [n / 2 ^ (8 * i) % 256] (by rfl) (by rfl) (fun h => by cases h) (Arr.sl (Arr.new wr 5 _)) (by omega) (by simp; omega) ?_; intro v2 w2 hown2 hg2; have hB2 := (hbl.alloc hsz _).grown hg2 (by simp; omega) (fun k e => own_ge hou k e)))
      go_roundw
      case rel => exact ⟨j + 1, congrArg (Value.int .i64) hij.out, by omega, by rw [het.out]; exact hown2, hB2⟩
      case measure => first | (simp [intOf]; omega) | simp [intOf]
    · obtain rfl : j = 8 := by omega
      have e8' : Hid ((e8 n).take 8 = e8 n) := Hid.mk' (List.take_of_length_le (by rw [e8_len]; exact Nat.le_refl _))
      go_wp2_with fail
      go_ret
      exact ⟨_, rfl, by rw [← e8'.out]; exact hou, hbl⟩
end Go.Proofs.Ytbhhbkoikocjgaa
/- Layer spec: what the layers below give. -/
namespace Go.Proofs.Ytbhhbkoikocjgaa
set_option linter.unusedSectionVars false
set_option maxHeartbeats 1000000
open Go.RowKit Go.Shelf
set_option maxRecDepth 100000
set_option linter.unusedVariables false
set_option linter.unusedSimpArgs false
variable [DecidableEq Ac] [DecidableEq Ou] [DecidableEq Mg]
attribute [local go_sem] Oper.semAt_some

theorem cell_loop {W : World} {b o : Nat} {r : Loop} (h : W.heap[b]? = some (.loop r)) : W.cell? ⟨b, o, none⟩ = none := by simp [World.cell?, h]
/-- An entry is as it was where one block that holds no cells has changed. -/
theorem EnOK.put {W W1 w2 : World} {l : Nat} {r : Loop} {e : En} (h : EnOK W.heap.size W e) (hl : W.heap[l]? = some (.loop r)) (hb : ∀ b, b < W.heap.size → b ≠ l → w2.heap[b]? = W.heap[b]?) (hs : W.heap.size ≤ w2.heap.size) : EnOK w2.heap.size w2 e := by
  refine ⟨⟨h.body.len, h.body.nil, h.body.le, h.body.big, h.body.small, fun h0 => ?_, h.body.bts⟩, h.s32⟩
  obtain ⟨b, off, q, hbN, hB⟩ := h.body.at0 h0
  have hne : b ≠ l := fun e' => by
    subst e'
    have := hB 0 h0
    rw [cell_loop hl] at this
    cases this
  exact ⟨b, off, q, by omega, fun u hu => (World.cell?_of_block (w := W) (a := ⟨b, off + u, none⟩) (hb b hbN hne)).trans (hB u hu)⟩
end Go.Proofs.Ytbhhbkoikocjgaa
/- Layer spec: what the layers below give. -/
namespace Go.Proofs.Ytbhhbkoikocjgaa
set_option linter.unusedSectionVars false
set_option maxHeartbeats 1000000
open Go.RowKit
set_option maxRecDepth 100000
set_option linter.unusedVariables false
set_option linter.unusedSimpArgs false

variable [DecidableEq Ac] [DecidableEq Ou] [DecidableEq Mg]
set_option maxHeartbeats 1000000 in
theorem refAcBytes_any (a : Ac) (w : World) (ha : AcOK a) :
    Calls Try.prog 81 #[.agg a.arr] w fun e w' => ∃ v, e = .returned v ∧ w'.ownsRow w.heap.size 5 1 v 48 (by8 (acb a)) ∧ Below w.heap.size w w' := by
  have A0 := (Arr.new w 26 a.arr).drew
  have B0 := (alloc_bel' w (.cells a.arr 26)).drew
  have hs0 : w.heap.size + 1 ≤ (w.alloc (.cells a.arr 26)).drew.heap.size := by simp
  have H32 := Hid.mk' ha.l32
  go_enter Try.func81, Try.ntmps81
  go_upto_region 1 with fail
  refine wp_region_held_drew (S := fun u => Below w.heap.size w u ∧ Arr u w.heap.size 26 a.arr) (by kernel_rfl) (⟨B0, A0⟩) (fun hHeld => ?_)
  refine wpAnyH_take (i := 0) (oi := ⟨_, _, _, _, _, _⟩) (v := ?_) rfl (by kernel_rfl) (by kernel_rfl) (by kernel_rfl) (fun _ _ _ h => h) (Or.inl ⟨by rfl, ?_⟩) (by assumption) ?_
  rotate_left
  · intro u hSw
    go_simp
    try (with_reducible rfl)
  try simp only [Act.put, List.setIfInBounds_toArray, List.set_cons_zero, List.set_cons_succ]
  refine wpAnyH_take (i := 1) (oi := ⟨_, _, _, _, _, _⟩) (v := ?_) rfl (by kernel_rfl) (by kernel_rfl) (by kernel_rfl) (fun _ _ _ h => h) (Or.inl ⟨by rfl, ?_⟩) (by assumption) ?_
  rotate_left
  · intro u hSw
    have cc := ac_c0 hSw.2.ac
    go_simp
    try (with_reducible rfl)
  try simp only [Act.put, List.setIfInBounds_toArray, List.set_cons_zero, List.set_cons_succ]
  refine wpAnyH_take (i := 3) (oi := ⟨_, _, _, _, _, _⟩) (v := ?_) rfl (by kernel_rfl) (by kernel_rfl) (by kernel_rfl) (fun _ _ _ h => h) (Or.inl ⟨by rfl, ?_⟩) (by assumption) ?_
  rotate_left
  · intro u hSw
    go_simp
    try (with_reducible rfl)
  try simp only [Act.put, List.setIfInBounds_toArray, List.set_cons_zero, List.set_cons_succ]
  refine wpAnyH_take (i := 4) (oi := ⟨_, _, _, _, _, _⟩) (v := ?_) rfl (by kernel_rfl) (by kernel_rfl) (by kernel_rfl) (fun _ _ _ h => h) (Or.inl ⟨by rfl, ?_⟩) (by assumption) ?_
  rotate_left
  · intro u hSw
    have cc := ac_c1 hSw.2.ac; simp only [Nat.zero_add] at cc
    go_simp
    try (with_reducible rfl)
  try simp only [Act.put, List.setIfInBounds_toArray, List.set_cons_zero, List.set_cons_succ]
  refine wpAnyH_take (i := 7) (oi := ⟨_, _, _, _, _, _⟩) (v := ?_) rfl (by kernel_rfl) (by kernel_rfl) (by kernel_rfl) (fun _ _ _ h => h) (Or.inl ⟨by rfl, ?_⟩) (by assumption) ?_
  rotate_left
  · intro u hSw
    go_simp
    try (with_reducible rfl)
  try simp only [Act.put, List.setIfInBounds_toArray, List.set_cons_zero, List.set_cons_succ]
  refine wpAnyH_take (i := 8) (oi := ⟨_, _, _, _, _, _⟩) (v := ?_) rfl (by kernel_rfl) (by kernel_rfl) (by kernel_rfl) (fun _ _ _ h => h) (Or.inl ⟨by rfl, ?_⟩) (by assumption) ?_
  rotate_left
  · intro u hSw
    go_simp
    try (with_reducible rfl)
  try simp only [Act.put, List.setIfInBounds_toArray, List.set_cons_zero, List.set_cons_succ]
  refine wpAnyH_ready (rs := [2]) (by kernel_rfl) (by simp) ?_
  refine AllReadyH.cons (o := ⟨_, _, _, _, _, _⟩) rfl (fun K hK => ?_) AllReadyH.nil
  go_simp
  refine (eight_any a.bal _).mono ?_; rintro e u1 ⟨v1, rfl, hown1, hb1⟩; have B1 := B0.trans (hb1.mono B0.size); have A1 := A0.below hb1 A0.lt
  go_wp2_with fail
  refine hK.out _ _ ⟨B1, A1⟩ (fun hHeld => ?_)
  clear hK K
  try simp only [Act.put, List.setIfInBounds_toArray, List.set_cons_zero, List.set_cons_succ]
  refine wpAnyH_ready (rs := [5]) (by kernel_rfl) (by simp) ?_
  refine AllReadyH.cons (o := ⟨_, _, _, _, _, _⟩) rfl (fun K hK => ?_) AllReadyH.nil
  go_simp
  refine (eight_any a.non _).mono ?_; rintro e u2 ⟨v2, rfl, hown2, hb2⟩; have B2 := B1.trans (hb2.mono B1.size); have A2 := A1.below hb2 A1.lt; obtain ⟨s2, k2, rfl, hS2, hsp2⟩ := own_bs hown2 (e8_bts _) (by omega); have hown1' := own_monoS (own_same hown1 (fun k hk => hb2.block k (own_lt hown1 hk))) (show w.heap.size + 1 ≤ _ by omega); have hn2 := hS2.nil; have hl2 := hS2.len
  go_wp2_with fail
  refine hK.out _ _ ⟨B2, A2⟩ (fun hHeld => ?_)
  clear hK K
  try simp only [Act.put, List.setIfInBounds_toArray, List.set_cons_zero, List.set_cons_succ]
  refine wpAnyH_ready (rs := [6]) (by kernel_rfl) (by simp) ?_
  refine AllReadyH.cons (o := ⟨_, _, _, _, _, _⟩) rfl (fun K hK => ?_) AllReadyH.nil
  refine step_append_bytes rfl (.tmp 5) (.tmp 8) rfl (w.heap.size + 1) _ 8 (e8 a.bal) rfl hown1' s2 8 k2 (e8 a.non) rfl hl2.out hn2 hS2.sl (by omega) (by have := hb1.size; have := hb2.size; omega) ?_; intro v3 u3 hown3 hg3; have B3 := B2.grown hg3 B2.size (fun k e => by have := own_ge hown1' k e; omega); have A3 := A2.grown hg3 (ne_own hown1' (by omega))
  refine hK.out _ _ ⟨B3, A3⟩ (fun hHeld => ?_)
  clear hK K
  try simp only [Act.put, List.setIfInBounds_toArray, List.set_cons_zero, List.set_cons_succ]
  have hl3 := range_sl (ac_lk A3.ac)
  refine wpAnyH_ready (rs := [9]) (by kernel_rfl) (by simp) ?_
  refine AllReadyH.cons (o := ⟨_, _, _, _, _, _⟩) rfl (fun K hK => ?_) AllReadyH.nil
  refine step_append_bytes rfl (.tmp 9) (.tmp 11) rfl (w.heap.size + 1) _ (8 + 8) (e8 a.bal ++ e8 a.non) rfl hown3 (some ⟨w.heap.size, 0 + 2, none⟩) 32 32 a.lk rfl H32.out.symm (fun h => by cases h) hl3 (by omega) (by have := B3.size; have := A3.lt; omega) ?_; intro v4 u4 hown4 hg4; have B4 := B3.grown hg4 B3.size (fun k e => by have := own_ge hown3 k e; omega); have A4 := A3.grown hg4 (ne_own hown3 (by omega))
  refine hK.out _ _ ⟨B4, A4⟩ (fun hHeld => ?_)
  clear hK K
  try simp only [Act.put, List.setIfInBounds_toArray, List.set_cons_zero, List.set_cons_succ]
  refine wpAnyH_take (i := 10) (oi := ⟨_, _, _, _, _, _⟩) (v := ?_) rfl (by kernel_rfl) (by kernel_rfl) (by kernel_rfl) (fun _ _ _ h => h) (Or.inl ⟨by rfl, ?_⟩) (by assumption) ?_
  rotate_left
  · intro u hSw
    go_simp
    try (with_reducible rfl)
  try simp only [Act.put, List.setIfInBounds_toArray, List.set_cons_zero, List.set_cons_succ]
  refine wpAnyH_done (by kernel_rfl) ?_ _

  go_wp2_with fail
  go_ret
  exact ⟨v4, rfl, own_monoS hown4 (by omega), B4⟩
set_option maxHeartbeats 1000000 in
theorem refOuBytes_any (a : Ou) (w : World) :
    Calls Try.prog 82 #[.agg a.arr] w fun e w' => ∃ v, e = .returned v ∧ w'.ownsRow w.heap.size 5 1 v 16 (by8 (oub a)) ∧ Below w.heap.size w w' := by
  have A0 := (Arr.new w 66 a.arr).drew
  have B0 := (alloc_bel' w (.cells a.arr 66)).drew
  have hs0 : w.heap.size + 1 ≤ (w.alloc (.cells a.arr 66)).drew.heap.size := by simp

  go_enter Try.func82, Try.ntmps82
  go_upto_region 1 with fail
  refine wp_region_held_drew (S := fun u => Below w.heap.size w u ∧ Arr u w.heap.size 66 a.arr) (by kernel_rfl) (⟨B0, A0⟩) (fun hHeld => ?_)
  refine wpAnyH_take (i := 0) (oi := ⟨_, _, _, _, _, _⟩) (v := ?_) rfl (by kernel_rfl) (by kernel_rfl) (by kernel_rfl) (fun _ _ _ h => h) (Or.inl ⟨by rfl, ?_⟩) (by assumption) ?_
  rotate_left
  · intro u hSw
    go_simp
    try (with_reducible rfl)
  try simp only [Act.put, List.setIfInBounds_toArray, List.set_cons_zero, List.set_cons_succ]
  refine wpAnyH_take (i := 1) (oi := ⟨_, _, _, _, _, _⟩) (v := ?_) rfl (by kernel_rfl) (by kernel_rfl) (by kernel_rfl) (fun _ _ _ h => h) (Or.inl ⟨by rfl, ?_⟩) (by assumption) ?_
  rotate_left
  · intro u hSw
    have cc := ou_c0 hSw.2.ou
    go_simp
    try (with_reducible rfl)
  try simp only [Act.put, List.setIfInBounds_toArray, List.set_cons_zero, List.set_cons_succ]
  refine wpAnyH_take (i := 3) (oi := ⟨_, _, _, _, _, _⟩) (v := ?_) rfl (by kernel_rfl) (by kernel_rfl) (by kernel_rfl) (fun _ _ _ h => h) (Or.inl ⟨by rfl, ?_⟩) (by assumption) ?_
  rotate_left
  · intro u hSw
    go_simp
    try (with_reducible rfl)
  try simp only [Act.put, List.setIfInBounds_toArray, List.set_cons_zero, List.set_cons_succ]
  refine wpAnyH_take (i := 4) (oi := ⟨_, _, _, _, _, _⟩) (v := ?_) rfl (by kernel_rfl) (by kernel_rfl) (by kernel_rfl) (fun _ _ _ h => h) (Or.inl ⟨by rfl, ?_⟩) (by assumption) ?_
  rotate_left
  · intro u hSw
    have cc := ou_c1 hSw.2.ou; simp only [Nat.zero_add] at cc
    go_simp
    try (with_reducible rfl)
  try simp only [Act.put, List.setIfInBounds_toArray, List.set_cons_zero, List.set_cons_succ]
  refine wpAnyH_ready (rs := [2]) (by kernel_rfl) (by simp) ?_
  refine AllReadyH.cons (o := ⟨_, _, _, _, _, _⟩) rfl (fun K hK => ?_) AllReadyH.nil
  go_simp
  refine (eight_any a.tw _).mono ?_; rintro e u1 ⟨v1, rfl, hown1, hb1⟩; have B1 := B0.trans (hb1.mono B0.size); have A1 := A0.below hb1 A0.lt
  go_wp2_with fail
  refine hK.out _ _ ⟨B1, A1⟩ (fun hHeld => ?_)
  clear hK K
  try simp only [Act.put, List.setIfInBounds_toArray, List.set_cons_zero, List.set_cons_succ]
  refine wpAnyH_ready (rs := [5]) (by kernel_rfl) (by simp) ?_
  refine AllReadyH.cons (o := ⟨_, _, _, _, _, _⟩) rfl (fun K hK => ?_) AllReadyH.nil
  go_simp
  refine (eight_any a.am _).mono ?_; rintro e u2 ⟨v2, rfl, hown2, hb2⟩; have B2 := B1.trans (hb2.mono B1.size); have A2 := A1.below hb2 A1.lt; obtain ⟨s2, k2, rfl, hS2, hsp2⟩ := own_bs hown2 (e8_bts _) (by omega); have hown1' := own_monoS (own_same hown1 (fun k hk => hb2.block k (own_lt hown1 hk))) (show w.heap.size + 1 ≤ _ by omega); have hn2 := hS2.nil; have hl2 := hS2.len
  go_wp2_with fail
  refine hK.out _ _ ⟨B2, A2⟩ (fun hHeld => ?_)
  clear hK K
  try simp only [Act.put, List.setIfInBounds_toArray, List.set_cons_zero, List.set_cons_succ]
  refine wpAnyH_ready (rs := [6]) (by kernel_rfl) (by simp) ?_
  refine AllReadyH.cons (o := ⟨_, _, _, _, _, _⟩) rfl (fun K hK => ?_) AllReadyH.nil
  refine step_append_bytes rfl (.tmp 5) (.tmp 8) rfl (w.heap.size + 1) _ 8 (e8 a.tw) rfl hown1' s2 8 k2 (e8 a.am) rfl hl2.out hn2 hS2.sl (by omega) (by have := hb1.size; have := hb2.size; omega) ?_; intro v3 u3 hown3 hg3; have B3 := B2.grown hg3 B2.size (fun k e => by have := own_ge hown1' k e; omega); have A3 := A2.grown hg3 (ne_own hown1' (by omega))
  refine hK.out _ _ ⟨B3, A3⟩ (fun hHeld => ?_)
  clear hK K
  try simp only [Act.put, List.setIfInBounds_toArray, List.set_cons_zero, List.set_cons_succ]
  refine wpAnyH_take (i := 7) (oi := ⟨_, _, _, _, _, _⟩) (v := ?_) rfl (by kernel_rfl) (by kernel_rfl) (by kernel_rfl) (fun _ _ _ h => h) (Or.inl ⟨by rfl, ?_⟩) (by assumption) ?_
  rotate_left
  · intro u hSw
    go_simp
    try (with_reducible rfl)
  try simp only [Act.put, List.setIfInBounds_toArray, List.set_cons_zero, List.set_cons_succ]
  refine wpAnyH_done (by kernel_rfl) ?_ _

  go_wp2_with fail
  go_ret
  exact ⟨v3, rfl, own_monoS hown3 (by omega), B3⟩
theorem refLeaf_bs (sp : Option Addr) (n cap N : Nat) (L : List Int) (w : World) (hS : BS N w sp n cap L) (hn : n ≤ 1000) :
    Calls Try.prog 80 #[.slice sp n cap] w fun e w' => e = .returned (.agg (h8 (lf L))) ∧ Below w.heap.size w w' := by
  have h := refLeaf_any sp n cap L w hS.len.out hS.nil hS.sl (by omega)
  rw [sha_h8] at h
  exact h
theorem built112f (n : Int) : Try.prog.built 135 [(0, .int .u64 0), (1, .int .u64 0), (2, .int .u64 0), (3, .int .u64 n)] = some #[.int .u64 0, .int .u64 0, .int .u64 0, .int .u64 n] := by kernel_rfl
set_option maxHeartbeats 1000000 in
theorem counted_any (n : Int) (w : World) :
    Calls Try.prog 86 #[.int .u64 n] w fun e w' => e = .returned (.agg (h8 (cnt n))) ∧ Below w.heap.size w w' := by
  have A0 := Arr.new w 24 (h8 Z32)
  have hb0 := alloc_bel' w (.cells (h8 Z32) 24)
  have hc := cnt_len n
  have hF := fun w => refFrom_any _ (w4 n) w (w4_cells n)
  rw [from_cnt] at hF
  replace hF := Hid.mk' hF
  go_enter Try.func86, Try.ntmps86
  go_wp2_with (first
    | (refine bdTS (by rfl) 135 _ (by rfl) (by rfl) (built112f n) ?_)
    | (go_at_call 67; go_must (refine (hF.out _).mono ?_; rintro e w2 ⟨rfl, hb2⟩; have A2 := A0.below hb2 (by simp)))
    | (refine st24 (by rfl) _ _ (by rfl) w.heap.size _ Z32 (by rfl) (by rfl) hc Z32_len A2 ?_))
  have hB2 := hb0.trans (hb2.mono (by simp))
  exact bodyPost_ret (v := .agg (h8 (cnt n))) (res24 Try.results86 rfl hc (A2.setRow _)) rfl ⟨rfl, below_setRow hB2 (Nat.le_refl _) _⟩
end Go.Proofs.Ytbhhbkoikocjgaa
/- Layer spec: what the layers below give. -/
namespace Go.Proofs.Ytbhhbkoikocjgaa
set_option linter.unusedSectionVars false
set_option maxHeartbeats 1000000
open Go.RowKit
set_option maxRecDepth 100000
set_option linter.unusedVariables false
set_option linter.unusedSimpArgs false

variable [DecidableEq Ac] [DecidableEq Ou] [DecidableEq Mg]
set_option maxHeartbeats 1000000 in
theorem joined_any (X Y : List Int) (c : Int) (w : World) (hX : X.length = 32) (hY : Y.length = 32) :
    Calls Try.prog 62 #[.agg (h8 X), .agg (h8 Y), .int .u64 c] w fun e w' => e = .returned (.agg (h8 (jn X Y c))) ∧ Below w.heap.size w w' := by
  have X0 := ((Arr.new w 24 (h8 X)).alloc (.cells (h8 Y) 24)).alloc (.cells (h8 Z32) 24)
  have Y0 := (show Arr ((w.alloc (.cells (h8 X) 24)).alloc (.cells (h8 Y) 24)) (w.heap.size + 1) 24 (h8 Y) from (by simpa using Arr.new (w.alloc (.cells (h8 X) 24)) 24 (h8 Y))).alloc (.cells (h8 Z32) 24)
  have Z0 := Arr.new3 w (.cells (h8 X) 24) (.cells (h8 Y) 24) 24 (h8 Z32)
  have B0 := ((alloc_bel' w (.cells (h8 X) 24)).alloc (by simp) (.cells (h8 Y) 24)).alloc (by simp; omega) (.cells (h8 Z32) 24)
  have h1 := pr_len X Y
  have h2 := cnt_len c
  have h3 := jn_len X Y c
  have hj : Hid (pr (pr X Y) (cnt c) = jn X Y c) := Hid.mk' rfl
  have hP1 := Hid.mk' (fun u => refPair_h X Y u hX hY)
  have hP2 := Hid.mk' (fun u => refPair_h (pr X Y) (cnt c) u h1 h2)
  go_enter Try.func62, Try.ntmps62
  go_wp2_with (first
    | (refine ld24 (by rfl) _ (by rfl) w.heap.size 0 (by rfl) X hX X0.range ?_)
    | (refine ld24 (by rfl) _ (by rfl) (w.heap.size + 1) 0 (by rfl) Y hY Y0.range ?_)
    | (go_at_call 86; go_must (refine (counted_any c _).mono ?_; rintro e w2 ⟨rfl, hb2⟩))
    | (go_at_call 85; have hz := hP1; clear hP1; go_must (refine (hz.out _).mono ?_; rintro e w1 ⟨rfl, hb1⟩))
    | (go_at_call 85; have hz := hP2; clear hP2; go_must (refine (hz.out _).mono ?_; rintro e w3 ⟨rfl, hb3⟩; rw [hj.out]; have hb13 := (hb1.trans (hb2.mono hb1.size)).trans (hb3.mono (Nat.le_trans hb1.size hb2.size)); have Z3 := Z0.below hb13 Z0.lt; have B3 := B0.trans (hb13.mono B0.size)))
    | (refine st24 (by rfl) _ _ (by rfl) (w.heap.size + 2) _ Z32 (by rfl) (by rfl) h3 Z32_len Z3 ?_))
  exact bodyPost_ret (v := .agg (h8 (jn X Y c))) (res24 Try.results62 rfl h3 (Z3.setRow _)) rfl ⟨rfl, below_setRow B3 (by omega) _⟩
end Go.Proofs.Ytbhhbkoikocjgaa
/- Layer spec: what the layers below give. -/
namespace Go.Proofs.Ytbhhbkoikocjgaa
set_option linter.unusedSectionVars false
set_option maxHeartbeats 1000000
open Go.RowKit
set_option maxRecDepth 100000
set_option linter.unusedVariables false
set_option linter.unusedSimpArgs false

variable [DecidableEq Ac] [DecidableEq Ou] [DecidableEq Mg]
theorem EnOK.far {N : Nat} {w w' : World} {r : Option Nat} {e : En} (h : EnOK N w e) (hg : w.grownBy w' r) (hN : N ≤ w.heap.size) (hne : ∀ b off, e.sp = some ⟨b, off, none⟩ → some b ≠ r) : EnOK N w' e :=
  ⟨⟨h.body.len, h.body.nil, h.body.le, h.body.big, h.body.small, fun h0 => by
    obtain ⟨b, off, q, hb, hB⟩ := h.body.at0 h0
    refine ⟨b, off, q, hb, fun u hu => ?_⟩
    rw [World.cell?_of_block (w := w) (a := ⟨b, off + u, none⟩) (hg.block b (by omega) (hne b off q))]
    exact hB u hu, h.body.bts⟩, h.s32⟩
theorem HS.far {N : Nat} {w w' : World} {r : Option Nat} {sp : Option Addr} {n cap : Nat} {ls : List (List Int)} (h : HS N w sp n cap ls) (hg : w.grownBy w' r) (hN : N ≤ w.heap.size) (hne : ∀ b off, sp = some ⟨b, off, none⟩ → some b ≠ r) : HS N w' sp n cap ls :=
  ⟨h.len, h.nil, h.le, h.big, h.small, fun h0 => by
    obtain ⟨b, off, q, hb, hB⟩ := h.at0 h0
    refine ⟨b, off, q, hb, fun i X hX j v hv => ?_⟩
    rw [World.cell?_of_block (w := w) (a := ⟨b, off + i * 32 + j, none⟩) (hg.block b (by omega) (hne b off q))]
    exact hB i X hX j v hv, h.l32⟩
theorem EOS.up {base ax : Nat} {w w' : World} {v u : Value} {es : List En} (h : EOS base ax w v es) (hg : w.grownBy w' u.ownBlock) (hu : ∀ k, u.ownBlock = some k → k = ax) (hv : v.ownBlock ≠ some ax) : EOS base ax w' v es ∧ EOS base w.heap.size w' v es := by
  have hz := hg.size
  have h1 : w'.ownsRow base 160 33 v es.length (flatE es) := own_same h.own (fun k hk => hg.block k (own_lt h.own hk) (fun e => hv (by rw [← hu k e.symm]; exact hk)))
  have h2 : ∀ e ∈ es, EnOK w'.heap.size w' e := fun e he => ((h.ok e he).far hg (Nat.le_refl _) (fun b off q hb => (h.ap e he b off q).2.2.2 (hu b hb.symm))).mono hz
  refine ⟨⟨h1, h2, fun e he b off q => ?_⟩, ⟨h1, h2, fun e he b off q => ?_⟩⟩
  · obtain ⟨a1, a2, a3, a4⟩ := h.ap e he b off q
    exact ⟨a1, by omega, a3, a4⟩
  · obtain ⟨a1, a2, a3, a4⟩ := h.ap e he b off q
    exact ⟨a1, by omega, a3, by omega⟩
/-- .. of the inner one: k pairs of the level are laid. -/
structure II (w : World) (F : List (List Int)) (K : Nat) (bs0 : List (List Int)) (spF : Option Addr) (nF cF : Nat) (k : Nat) (es : List En) (vo vu : Value) (ub : Nat) (W : World) : Prop where
  hs : HS W.heap.size W spF nF cF F
  eo : EOS (w.heap.size + 1) ub W vo es
  up : W.ownsRow (w.heap.size + 1) 24 32 vu k (flat32 (((lvl F).map shl).take k))
  hu : ∀ j, vu.ownBlock = some j → j = ub
  ne : vo.ownBlock ≠ some ub
  lt : ub < W.heap.size
  fo : ∀ b off, spF = some ⟨b, off, none⟩ → vo.ownBlock ≠ some b
  fu : ∀ b off, spF = some ⟨b, off, none⟩ → vu.ownBlock ≠ some b
  bs : Hid (es.map En.bs = bs0 ++ (lvl F).take k)
  sm : Hid (∀ e ∈ es, e.sm = shl e.bs)
  res : Arr W w.heap.size 24 (h8 Z32)
  bel : Below w.heap.size w W
section
variable {w : World} {F : List (List Int)} {K : Nat} {bs0 : List (List Int)} {spF : Option Addr} {nF cF k : Nat} {es : List En} {vo vu : Value} {ub : Nat} {W W1 W2 W3 W4 : World}
theorem II.below (h : II w F K bs0 spF nF cF k es vo vu ub W) (hb : Below W.heap.size W W1) : II w F K bs0 spF nF cF k es vo vu ub W1 :=
  ⟨(h.hs.below hb).mono hb.size, h.eo.below hb, own_same h.up (fun j hj => hb.block j (own_lt h.up hj)), h.hu, h.ne, Nat.lt_of_lt_of_le h.lt hb.size, h.fo, h.fu, h.bs, h.sm, h.res.bel hb, h.bel.trans (hb.mono h.bel.size)⟩
end
end Go.Proofs.Ytbhhbkoikocjgaa
/- Layer spec: what the layers below give. -/
namespace Go.Proofs.Ytbhhbkoikocjgaa
set_option linter.unusedSectionVars false
set_option maxHeartbeats 1000000
open Go.RowKit
set_option maxRecDepth 100000
set_option linter.unusedVariables false
set_option linter.unusedSimpArgs false

variable [DecidableEq Ac] [DecidableEq Ou] [DecidableEq Mg]
theorem En.range {w : World} {g ty : Nat} {e : En} (h : Arr w g ty e.arr) : w.rangeAt g 0 e.cells := fun j v hv => by
  rw [Nat.zero_add, h.cell]; simpa [En.arr] using hv
end Go.Proofs.Ytbhhbkoikocjgaa
