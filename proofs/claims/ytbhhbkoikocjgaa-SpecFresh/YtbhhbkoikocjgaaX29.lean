/- ZMh, NhF, NfS. -/
import Derived.Test.YtbhhbkoikocjgaaX01
import Derived.Test.YtbhhbkoikocjgaaX02
import Derived.Test.YtbhhbkoikocjgaaX03
import Derived.Test.YtbhhbkoikocjgaaX04
import Derived.Test.YtbhhbkoikocjgaaX05
import Derived.Test.YtbhhbkoikocjgaaX06
import Derived.Test.YtbhhbkoikocjgaaX07
import Derived.Test.YtbhhbkoikocjgaaX28
import Derived.Test.YtbhhbkoikocjgaaX12
import Derived.BigQuiet
import Derived.BigRegion
import Derived.ChangeKeysEq
import Derived.Deep.DeepCutAuto
import Derived.Deep.DrawnRows
import Derived.Deep.MidRow
import Derived.Deep.QuietTactic
import Derived.Deep.RegionHeld3
import Derived.Deep.RegionLaw
import Derived.Deep.RegionWith
import Derived.Deep.WholeRow
import Derived.Laws.AppendOwnNone
import Derived.Laws.BitsLemmas
import Derived.Laws.BytesArg
import Derived.Laws.CopyOwn
import Derived.Lib.SlBytesConst
import Derived.WalkKit
import Derived.WalkLawsBesides
import Derived.WalkSpells
import Derived.Test.YtbhhbkoikocjgaaX27
import Derived.Test.YtbhhbkoikocjgaaX26
import Derived.Test.YtbhhbkoikocjgaaX18
/- Layer spec: what the layers below give. -/
namespace Go.Proofs.Ytbhhbkoikocjgaa
set_option linter.unusedSectionVars false
set_option maxHeartbeats 1000000
open Go.RowKit
set_option maxRecDepth 100000
set_option linter.unusedVariables false
set_option linter.unusedSimpArgs false

variable [DecidableEq Ac] [DecidableEq Ou] [DecidableEq Mg]
theorem heap_setCells_other {k g : Nat} (hk : k ≠ g) : ∀ (vs : List Value) (o : Nat) (w : World), (w.setCells g o vs).heap[k]? = w.heap[k]?
  | [], _, _ => rfl
  | v :: r, o, w => by
    rw [World.setCells, heap_setCells_other hk r (o + 1)]
    exact Below.heap_setCell _ _ _ _ hk
theorem size_setCells (g : Nat) : ∀ (vs : List Value) (o : Nat) (w : World), (w.setCells g o vs).heap.size = w.heap.size
  | [], _, _ => rfl
  | v :: r, o, w => by rw [World.setCells, size_setCells g r (o + 1)]; simp [World.setCell]
theorem below_setCells {B : Nat} {a w : World} (h : Below B a w) {g : Nat} (hg : B ≤ g) : ∀ (vs : List Value) (o : Nat), Below B a (w.setCells g o vs) := by
  intro vs
  induction vs generalizing w with
  | nil => intro o; exact h
  | cons v r ih => intro o; rw [World.setCells]; exact ih (h.setCell (p := ⟨g, o, none⟩) hg v) (o + 1)
theorem Arr.setCellsOther {w : World} {g ty k : Nat} {C : Array Value} (h : Arr w g ty C) (hk : g ≠ k) (o : Nat) (vs : List Value) : Arr (w.setCells k o vs) g ty C := (heap_setCells_other hk vs o w).trans h
/-- What put does. -/
def PutPost (l : List (List Int)) (n : Nat) (W : Nat → List Int) (g : Nat) (w : World) (e : Ending) (w' : World) : Prop :=
  (∃ v, e = .returned v) ∧ ∃ w1 k r, Below w.heap.size w w1 ∧ k < 17 ∧ r.length = 32 ∧ w' = w1.setCells g (k * 32) (by8 r) ∧ Wt l (n + 1) (fun j => if j = k then r else W j)
theorem low_succ {n k : Nat} (h : n % 2 ^ k + 1 = 2 ^ k) (hb : (n / 2 ^ k) % 2 = 1) : n % 2 ^ (k + 1) + 1 = 2 ^ (k + 1) := by
  rw [Nat.mod_pow_succ, hb, Nat.mul_one, Nat.pow_succ]; omega
/-- A leaf of the first 2^16 comes up 16 levels at most. -/
theorem low_lt {n k : Nat} (h : n % 2 ^ k + 1 = 2 ^ k) (hn : n < 65536) : k ≤ 16 := by
  by_cases hk : k ≤ 16
  · exact hk
  · exfalso
    have h1 : n % 2 ^ k ≤ n := Nat.mod_le _ _
    have h2 : 2 ^ 17 ≤ 2 ^ k := Nat.pow_le_pow_right (by omega) (by omega)
    have h3 : (2 : Nat) ^ 17 = 131072 := by rfl
    omega
set_option maxRecDepth 100000 in
set_option maxHeartbeats 1000000 in
theorem put_any (l : List (List Int)) (n : Nat) (X : List Int) (W : Nat → List Int) (g : Nat) (w : World) (hX : X.length = 32) (hl : l[n]? = some X) (hn : n < 65536) (hL : LV w g W) (hW : Wt l n W) :
    Calls Try.prog 110 #[.pointer (some ⟨g, 0, none⟩), .int .i64 n, .agg (h8 X)] w (PutPost l n W g w) := by
  have A0 := Arr.new w 24 (h8 X)
  have hst := Hid.mk' (put_start hl)
  replace hW := Hid.mk' hW
  replace hl := Hid.mk' hl
  have hgl := hL.lt
  have hb1 := (alloc_bel' w (.cells (h8 X) 24)).alloc (by simp) (.cells (h8 X) 24)
  have A1 := Arr.new (w.alloc (.cells (h8 X) 24)) 24 (h8 X)
  rw [World.size_alloc] at A1
  go_enter Try.func110, Try.ntmps110
  go_wp2_with (first
    | (refine ld24 (by rfl) _ (by rfl) w.heap.size 0 (by rfl) X hX A0.range ?_)
    | (refine st24n (by rfl) _ _ (by rfl) (w.alloc (.cells (h8 X) 24)) (w.heap.size + 1) (by simp) (by rfl) X (by rfl) (by rfl) hX ?_))
  go_loopw [7] (fun d wr => ∃ (k : Nat) (r : List Int), d = .int .i64 (k : Int) ∧ Below w.heap.size w wr ∧ w.heap.size + 2 ≤ wr.heap.size ∧ Arr wr (w.heap.size + 1) 24 (h8 r) ∧ Hid (r.length = 32) ∧ Hid (n % 2 ^ k + 1 = 2 ^ k) ∧ Hid (r = tr k (l.drop ((n / 2 ^ k) * 2 ^ k))))
    (fun d _ => 20 - (intOf d).toNat)
  case atStart => exact ⟨0, X, rfl, hb1, by simp, A1, Hid.mk' hX, Hid.mk' (by simp [Nat.mod_one]), hst⟩
  case round =>
    obtain ⟨k, r, rfl, hbl, hsz, R1, hr, hlow, hrt⟩ := hrel
    clear A0 A1 hb1 hst
    have hk := low_lt hlow.out hn
    have hkI : (k : Int) < 17 := by omega
    have hsec := isSecond_any n k (by omega) (by omega)
    have hRk := range_below (hL.rg k (by omega)) hbl hgl
    cases hd : decide (n / 2 ^ k % 2 = 1) with
    | true =>
      rw [hd] at hsec
      have hd := Hid.mk' (of_decide_eq_true hd)
      go_wp2_with (first
        | (go_at_call 71; go_must (refine (hsec _).mono ?_; rintro e w2 ⟨rfl, rfl⟩)))
      refine wp_region_held_drew (S := fun _ => True) (by kernel_rfl) trivial (fun hHeld => ?_)
      refine wpAnyH_take (i := 0) (oi := ⟨_, _, _, _, _, _⟩) (v := ?_) rfl (by kernel_rfl) (by kernel_rfl) (by kernel_rfl) (fun _ _ _ h => h) (Or.inl ⟨by rfl, ?_⟩) (by assumption) ?_
      rotate_left
      · intro u hSw
        go_simp
        try (with_reducible rfl)
      try simp only [Act.put, List.setIfInBounds_toArray, List.set_cons_zero, List.set_cons_succ]
      refine wpAnyH_take (i := 1) (oi := ⟨_, _, _, _, _, _⟩) (v := ?_) rfl (by kernel_rfl) (by kernel_rfl) (by kernel_rfl) (fun _ _ _ h => h) (Or.inl ⟨by rfl, ?_⟩) (by assumption) ?_
      rotate_left
      · intro u hSw
        go_simp
        try (with_reducible rfl)
      try simp only [Act.put, List.setIfInBounds_toArray, List.set_cons_zero, List.set_cons_succ]
      refine wpAnyH_take (i := 2) (oi := ⟨_, _, _, _, _, _⟩) (v := ?_) rfl (by kernel_rfl) (by kernel_rfl) (by kernel_rfl) (fun _ _ _ h => h) (Or.inl ⟨by rfl, ?_⟩) (by assumption) ?_
      rotate_left
      · intro u hSw
        go_simp
        try (with_reducible rfl)
      try simp only [Act.put, List.setIfInBounds_toArray, List.set_cons_zero, List.set_cons_succ]
      refine wpAnyH_take (i := 3) (oi := ⟨_, _, _, _, _, _⟩) (v := ?_) rfl (by kernel_rfl) (by kernel_rfl) (by kernel_rfl) (fun _ _ _ h => h) (Or.inl ⟨by rfl, ?_⟩) (by assumption) ?_
      rotate_left
      · intro u hSw
        go_simp
        try (with_reducible rfl)
      try simp only [Act.put, List.setIfInBounds_toArray, List.set_cons_zero, List.set_cons_succ]
      refine wpAnyH_ready (rs := [4, 5]) (by kernel_rfl) (by simp) ?_
      refine AllReadyH.cons (o := ⟨_, _, _, _, _, _⟩) rfl (fun K hK => ?_) (AllReadyH.cons (o := ⟨_, _, _, _, _, _⟩) rfl (fun K hK => ?_) AllReadyH.nil)
      · refine step_want rfl (wp_load_mid 24 (.tmp 15) rfl g (k * 32) rfl (by8 (W k)) _ ((World.rangeAt_drew _ _ _ _).2 hRk) Try.underlying24 rfl (by rw [by8_len, hL.l32 k]; exact size24) ?_)
        refine hK.out _ _ trivial (fun hHeld => ?_)
        clear hK K
        try simp only [Act.put, List.setIfInBounds_toArray, List.set_cons_zero, List.set_cons_succ]
        refine wpAnyH_ready (rs := [5]) (by kernel_rfl) (by simp) ?_
        refine AllReadyH.cons (o := ⟨_, _, _, _, _, _⟩) rfl (fun K hK => ?_) AllReadyH.nil
        refine step_want rfl (wp_load_mid 24 (.tmp 6) rfl (w.heap.size + 1) 0 rfl (by8 r) _ R1.drew.range Try.underlying24 rfl (by rw [by8_len, hr.out]; exact size24) ?_)
        refine hK.out _ _ trivial (fun hHeld => ?_)
        clear hK K
        try simp only [Act.put, List.setIfInBounds_toArray, List.set_cons_zero, List.set_cons_succ]
        refine wpAnyH_ready (rs := [6]) (by kernel_rfl) (by simp) ?_
        refine AllReadyH.cons (o := ⟨_, _, _, _, _, _⟩) rfl (fun K hK => ?_) AllReadyH.nil
        go_simp
        refine (pair_h (W k) r _ (hL.l32 k) hr.out).mono ?_; rintro e w3 ⟨rfl, hb3⟩; have hs3 := hb3.size; simp at hs3; have S1 := R1.drew.below hb3 (by simp <;> omega)
        go_wp2_with fail
        refine hK.out _ _ trivial (fun hHeld => ?_)
        clear hK K
        try simp only [Act.put, List.setIfInBounds_toArray, List.set_cons_zero, List.set_cons_succ]
        refine wpAnyH_ready (rs := [7]) (by kernel_rfl) (by simp) ?_
        refine AllReadyH.cons (o := ⟨_, _, _, _, _, _⟩) rfl (fun K hK => ?_) AllReadyH.nil
        refine step_want rfl (wp_store_row 24 (.tmp 6) (.tmp 18) rfl (w.heap.size + 1) (h8 (pr (W k) r)) rfl rfl 24 _ S1 (s24h8 (pr_len _ _)) (by rw [h8_size, h8_size, hr.out, pr_len]) (h8_one _) ?_)
        refine hK.out _ _ trivial (fun hHeld => ?_)
        clear hK K
        try simp only [Act.put, List.setIfInBounds_toArray, List.set_cons_zero, List.set_cons_succ]
        refine wpAnyH_done (by kernel_rfl) ?_ _
        go_wp2_with fail
        go_roundw
        case rel => exact ⟨k + 1, pr (W k) r, by go_num, below_setRow (hbl.drew.trans (hb3.mono (by simp <;> omega))) (by omega) _, by simp <;> omega, S1.setRow _, Hid.mk' (pr_len _ _), Hid.mk' (low_succ hlow.out hd.out), Hid.mk' (wt_up hW.out hd.out hrt.out)⟩
        case measure => simp [intOf]; omega
      · refine step_want rfl (wp_load_mid 24 (.tmp 6) rfl (w.heap.size + 1) 0 rfl (by8 r) _ R1.drew.range Try.underlying24 rfl (by rw [by8_len, hr.out]; exact size24) ?_)
        refine hK.out _ _ trivial (fun hHeld => ?_)
        clear hK K
        try simp only [Act.put, List.setIfInBounds_toArray, List.set_cons_zero, List.set_cons_succ]
        refine wpAnyH_ready (rs := [4]) (by kernel_rfl) (by simp) ?_
        refine AllReadyH.cons (o := ⟨_, _, _, _, _, _⟩) rfl (fun K hK => ?_) AllReadyH.nil
        refine step_want rfl (wp_load_mid 24 (.tmp 15) rfl g (k * 32) rfl (by8 (W k)) _ ((World.rangeAt_drew _ _ _ _).2 hRk) Try.underlying24 rfl (by rw [by8_len, hL.l32 k]; exact size24) ?_)
        refine hK.out _ _ trivial (fun hHeld => ?_)
        clear hK K
        try simp only [Act.put, List.setIfInBounds_toArray, List.set_cons_zero, List.set_cons_succ]
        refine wpAnyH_ready (rs := [6]) (by kernel_rfl) (by simp) ?_
        refine AllReadyH.cons (o := ⟨_, _, _, _, _, _⟩) rfl (fun K hK => ?_) AllReadyH.nil
        go_simp
        refine (pair_h (W k) r _ (hL.l32 k) hr.out).mono ?_; rintro e w3 ⟨rfl, hb3⟩; have hs3 := hb3.size; simp at hs3; have S1 := R1.drew.below hb3 (by simp <;> omega)
        go_wp2_with fail
        refine hK.out _ _ trivial (fun hHeld => ?_)
        clear hK K
        try simp only [Act.put, List.setIfInBounds_toArray, List.set_cons_zero, List.set_cons_succ]
        refine wpAnyH_ready (rs := [7]) (by kernel_rfl) (by simp) ?_
        refine AllReadyH.cons (o := ⟨_, _, _, _, _, _⟩) rfl (fun K hK => ?_) AllReadyH.nil
        refine step_want rfl (wp_store_row 24 (.tmp 6) (.tmp 18) rfl (w.heap.size + 1) (h8 (pr (W k) r)) rfl rfl 24 _ S1 (s24h8 (pr_len _ _)) (by rw [h8_size, h8_size, hr.out, pr_len]) (h8_one _) ?_)
        refine hK.out _ _ trivial (fun hHeld => ?_)
        clear hK K
        try simp only [Act.put, List.setIfInBounds_toArray, List.set_cons_zero, List.set_cons_succ]
        refine wpAnyH_done (by kernel_rfl) ?_ _
        go_wp2_with fail
        go_roundw
        case rel => exact ⟨k + 1, pr (W k) r, by go_num, below_setRow (hbl.drew.trans (hb3.mono (by simp <;> omega))) (by omega) _, by simp <;> omega, S1.setRow _, Hid.mk' (pr_len _ _), Hid.mk' (low_succ hlow.out hd.out), Hid.mk' (wt_up hW.out hd.out hrt.out)⟩
        case measure => simp [intOf]; omega
    | false =>
      rw [hd] at hsec
      have hd : Hid ((n / 2 ^ k) % 2 = 0) := Hid.mk' (by have := of_decide_eq_false hd; omega)
      have hth : wr.there g (k * 32) 32 := fun j hj => by
        have := there_below hL.th hbl hgl (k * 32 + j) (by omega)
        rwa [Nat.zero_add] at this
      go_wp2_with (first
        | (go_at_call 71; go_must (refine (hsec _).mono ?_; rintro e w2 ⟨rfl, rfl⟩)))
      refine wp_region_held_drew (S := fun _ => True) (by kernel_rfl) trivial (fun hHeld => ?_)
      refine wpAnyH_take (i := 0) (oi := ⟨_, _, _, _, _, _⟩) (v := ?_) rfl (by kernel_rfl) (by kernel_rfl) (by kernel_rfl) (fun _ _ _ h => h) (Or.inl ⟨by rfl, ?_⟩) (by assumption) ?_
      rotate_left
      · intro u hSw
        go_simp
        try (with_reducible rfl)
      try simp only [Act.put, List.setIfInBounds_toArray, List.set_cons_zero, List.set_cons_succ]
      refine wpAnyH_take (i := 1) (oi := ⟨_, _, _, _, _, _⟩) (v := ?_) rfl (by kernel_rfl) (by kernel_rfl) (by kernel_rfl) (fun _ _ _ h => h) (Or.inl ⟨by rfl, ?_⟩) (by assumption) ?_
      rotate_left
      · intro u hSw
        go_simp
        try (with_reducible rfl)
      try simp only [Act.put, List.setIfInBounds_toArray, List.set_cons_zero, List.set_cons_succ]
      refine wpAnyH_take (i := 3) (oi := ⟨_, _, _, _, _, _⟩) (v := ?_) rfl (by kernel_rfl) (by kernel_rfl) (by kernel_rfl) (fun _ _ _ h => h) (Or.inl ⟨by rfl, ?_⟩) (by assumption) ?_
      rotate_left
      · intro u hSw
        go_simp
        try (with_reducible rfl)
      try simp only [Act.put, List.setIfInBounds_toArray, List.set_cons_zero, List.set_cons_succ]
      refine wpAnyH_ready (rs := [2]) (by kernel_rfl) (by simp) ?_
      refine AllReadyH.cons (o := ⟨_, _, _, _, _, _⟩) rfl (fun K hK => ?_) AllReadyH.nil
      refine step_want rfl (wp_load_mid 24 (.tmp 6) rfl (w.heap.size + 1) 0 rfl (by8 r) _ R1.drew.range Try.underlying24 rfl (by rw [by8_len, hr.out]; exact size24) ?_)
      refine hK.out _ _ trivial (fun hHeld => ?_)
      clear hK K
      try simp only [Act.put, List.setIfInBounds_toArray, List.set_cons_zero, List.set_cons_succ]
      refine wpAnyH_take (i := 4) (oi := ⟨_, _, _, _, _, _⟩) (v := ?_) rfl (by kernel_rfl) (by kernel_rfl) (by kernel_rfl) (fun _ _ _ h => h) (Or.inl ⟨by rfl, ?_⟩) (by assumption) ?_
      rotate_left
      · intro u hSw
        go_simp
        try (with_reducible rfl)
      try simp only [Act.put, List.setIfInBounds_toArray, List.set_cons_zero, List.set_cons_succ]
      refine wpAnyH_ready (rs := [5]) (by kernel_rfl) (by simp) ?_
      refine AllReadyH.cons (o := ⟨_, _, _, _, _, _⟩) rfl (fun K hK => ?_) AllReadyH.nil
      refine step_want rfl (wp_store_mid 24 (.tmp 25) (.tmp 23) rfl g (k * 32) (h8 r) rfl rfl (by rw [h8_size, hr.out]; exact (World.there_drew _ _ _ _).2 hth) (s24h8 hr.out) (h8_one _) ?_)
      refine hK.out _ _ trivial (fun hHeld => ?_)
      clear hK K
      refine wpAnyH_done (by kernel_rfl) ?_ _
      go_end0
      exact ⟨⟨_, rfl⟩, _, k, r, hbl.drew, by omega, hr.out, rfl, wt_stay hW.out hd.out hlow.out hrt.out⟩
end Go.Proofs.Ytbhhbkoikocjgaa
/- Layer spec: a run with what flowed, one message on. -/
namespace Go.Proofs.Ytbhhbkoikocjgaa
set_option linter.unusedSectionVars false
set_option maxHeartbeats 1000000
open Go.RowKit Go.Shelf
set_option maxRecDepth 100000
set_option linter.unusedVariables false
set_option linter.unusedSimpArgs false


variable [DecidableEq Ac] [DecidableEq Ou] [DecidableEq Mg]
/-- A load of the state in a course, in a flow. -/
theorem ldF {ops : Array Oper} {rest : List Oper} {o : Oper} {a : Act} {w : World} {Q : Exit → Act → World → Prop} (hgd : o.guard = none) (x : Operand) (ho : o.op = .load 30 x)
    (g : Nat) (hx : a.eval x = .pointer (some ⟨g, 0, none⟩)) (ps : List Ac) (sp : Option Addr) (n cap : Nat) (h1 : ps.length = 32) (h2 : ∀ a ∈ ps, a.lk.length = 32) (hA : w.rangeAt g 0 (stC ps sp n cap))
    (h : wpList Try.prog ops Q rest (a.put o.dst (.agg (stA ps sp n cap))) w) : wpList Try.prog ops Q (o :: rest) a w :=
  wpList_load_mid hgd 30 x ho g 0 hx (stC ps sp n cap) _ hA Try.underlying30 rfl (by rw [stC_len h1 h2]; exact size30) h

set_option maxHeartbeats 2000000 in
theorem with35_any (ps : List Ac) (N : Nat) (sp : Option Addr) (n cap : Nat) (os : List Ou) (sb : Option Addr) (nb cb : Nat) (L : List Int) (Nb : Nat) (I U : Int) (w : World) (hS : SS N w ps sp n cap os) (hL : BS Nb w sb nb cb L) (hI : 0 ≤ I ∧ I < 18446744073709551616) (hU : 0 ≤ U ∧ U < 18446744073709551616) :
    Calls Try.prog 35 #[.agg (flA ps sp n cap I U), .slice sb nb cb] w fun r w' => ∃ s n c, r = .returned (.agg (flA (xP ps os L) s n c (if xD ps os L = true then (I + gI L) % 18446744073709551616 else I) (if xD ps os L = true then (U + gO L) % 18446744073709551616 else U))) ∧ Hid (n = (xO ps os L).length) ∧ w'.ownsRow w.heap.size 66 2 (.slice s n c) n (ouF (xO ps os L)) ∧ Below w.heap.size w w' := by
  have hGn := Hid.mk' (fun u h => gain_any sb nb cb L w.heap.size u h)
  have hS := hS.here
  have hL := hL.here
  have h1 := hS.a32.out
  have h2 := hS.l32
  have A0 := (Arr.new w 82 (flA ps sp n cap I U)).alloc (.cells zero82N 82)
  have R0 : Arr ((w.alloc (.cells (flA ps sp n cap I U) 82)).alloc (.cells zero82N 82)) (w.heap.size + 1) 82 zero82N := by simpa using Arr.new (w.alloc (.cells (flA ps sp n cap I U) 82)) 82 zero82N
  have B0 := (alloc_bel' w (.cells (flA ps sp n cap I U) 82)).alloc (by simp) (.cells zero82N 82)
  have hz30 := zeroValue30N
  have hz82 := zeroValue82N
  have hzsz := zsize30
  have hzs82 := zsize82
  generalize zero30N = Z0 at hz30 hzsz
  generalize zero82N = Z at A0 R0 B0 hz82 hzs82
  have hD := Hid.mk' (fun u h h' => delta_x ps w.heap.size sp n cap os sb nb cb L w.heap.size u h h')
  obtain ⟨hq1, hq3, -⟩ := xP_ok (os := os) hL.bts h1 hS.ok.out hS.outs.ok
  have hq2 : ∀ a ∈ xP ps os L, a.lk.length = 32 := fun a ha => (hq3 a ha).l32
  unfold DX at hD
  generalize xP ps os L = Q at *
  generalize xO ps os L = O at *
  generalize xD ps os L = d at *
  generalize xE ps os = e at *
  have hwr : ∀ x : Int, IntKind.u64.wrap x = x % 18446744073709551616 := fun x => by simp [IntKind.wrap, IntKind.min, IntKind.max, IntKind.bits, IntKind.signed]
  generalize gI L = gi at *
  generalize gO L = go at *
  go_enter Try.func35, Try.ntmps35
  go_upto_region 1 with fail
  generalize (w.alloc (.cells (flA ps sp n cap I U) 82)).alloc (.cells Z 82) = V at A0 R0 B0 ⊢
  have hVz := R0.lt
  have hVs := B0.size
  have G0 := A0.flS
  go_upto_region 2 with (first
    | (refine atL 30 (.tmp 11) ?_; refine ldF (by rfl) _ (by rfl) w.heap.size (by rfl) ps sp n cap h1 h2 G0 ?_)
    | (go_at_call 46; go_must (refine (hD.out _ (hS.below B0) (hL.below B0)).mono ?_; rintro r w1 ⟨s1, n1, c1, rfl, S1, own1, hb1⟩))
    | (refine atS 30 (.tmp 5) (.tmp 15) ?_; refine st30n (by rfl) _ _ (by rfl) w1 w1.heap.size rfl hzsz Q s1 n1 c1 (by rfl) (by rfl) hq1 hq2 ?_))
  have hz1 := hb1.size
  have R1 := (R0.below hb1 R0.lt).alloc (.cells (stA Q s1 n1 c1) 30)
  have T1 := Arr.new w1 30 (stA Q s1 n1 c1)
  have A1 := (A0.below hb1 A0.lt).alloc (.cells (stA Q s1 n1 c1) 30)
  have B1 := (B0.trans (hb1.mono B0.size)).alloc (Nat.le_trans B0.size hb1.size) (.cells (stA Q s1 n1 c1) 30)
  have own2 := own1.alloc (.cells (stA Q s1 n1 c1) 30)
  have hn1 := S1.outs.len
  have th1 := fl_there A1 h1 h2
  clear G0 S1 own1 hb1 A0 R0
  generalize w1.alloc (.cells (stA Q s1 n1 c1) 30) = W1 at *
  generalize w1.heap.size = G1 at *
  have hsz : (Try.prog.info? 30).map (·.size) = some (stA Q s1 n1 c1).size := by rw [stA_size hq1 hq2]; exact size30
  go_upto_region 3 with (first
    | (refine atL 30 (.tmp 5) ?_; refine ld30 (by rfl) _ (by rfl) G1 30 (by rfl) Q s1 n1 c1 hq1 hq2 T1 ?_)
    | (refine atS 30 (.tmp 19) (.tmp 18) ?_; refine wpList_store_mid (by rfl) 30 (.tmp 19) (.tmp 18) (by rfl) w.heap.size 0 (stA Q s1 n1 c1) (by rfl) (by rfl) (by rw [stA_size hq1 hq2]; exact th1) hsz (stA_one Q s1 n1 c1) ?_))
  have eC : (stA Q s1 n1 c1).toList = stC Q s1 n1 c1 := rfl
  rw [eC]
  have A2 := A1.flSet (sq := s1) (m := n1) (cq := c1) h1 h2 hq1 hq2
  have R2 := R1.setCellsOther (k := w.heap.size) (by omega) 0 (stC Q s1 n1 c1)
  have C2 := (Chg.of_below (S := fun b => b = w.heap.size) B1).setCells (stC Q s1 n1 c1) (g := w.heap.size) (o := 0) (fun h => rfl)
  have B2 : Below w.heap.size w (W1.setCells w.heap.size 0 (stC Q s1 n1 c1)) := C2.below (fun i hi => ⟨hi, by omega⟩)
  have own3 := own_same own2 (w' := W1.setCells w.heap.size 0 (stC Q s1 n1 c1)) (fun b hb => heap_setCells_other (by have := own_ge own2 b hb; omega) _ _ _)
  generalize W1.setCells w.heap.size 0 (stC Q s1 n1 c1) = W2 at *
  clear A1 R1 B1 own2 T1 th1 C2
  have cI := A2.flI hq1 hq2
  have cU := A2.flU hq1 hq2
  have fI := A2.frozen 1089
  have fU := A2.frozen 1090
  cases d with
  | false =>
    go_wp2_with (first
      | (refine atL 82 (.tmp 2) ?_; refine ldB (by rfl) 82 1091 _ (by rfl) w.heap.size 82 (by rfl) _ (flA_size hq1 hq2) A2 Try.underlying82 rfl size82N ?_)
      | (refine atS 82 (.tmp 4) (.tmp 36) ?_; refine stB (by rfl) 82 1091 _ _ (by rfl) (w.heap.size + 1) 82 (flA Q s1 n1 c1 I U) Z (by rfl) (by rfl) (flA_size hq1 hq2) (flA_one _ _ _ _ _ _) hzs82 R2 size82N ?_))
    have own5 := own_row own3 (flA Q s1 n1 c1 I U) (show w.heap.size + 1 < V.heap.size by omega)
    exact bodyPost_ret (v := .agg (flA Q s1 n1 c1 I U)) (results_cell_row Try.results35 _ _ (w.heap.size + 1) 82 _ (0, 0) _ rfl (R2.setRow _) Try.underlying82 rfl (by rw [flA_size hq1 hq2]; exact size82N)) rfl ⟨s1, n1, c1, rfl, hn1, own_mono own5 (by omega), below_setRow B2 (by omega) _⟩
  | true =>
    go_upto_region 5 with (first
      | (go_at_call 51; go_must (refine (hGn.out _ (hL.below B2)).mono ?_; rintro r w3 ⟨rfl, hb3⟩)))
    have hz3 := hb3.size
    have A3 := A2.below hb3 A2.lt
    have R3 := R2.below hb3 R2.lt
    have B3 := B2.trans (hb3.mono B2.size)
    have own4 := own_same own3 (fun b hb => hb3.block b (own_lt own3 hb))
    clear cI cU fI fU A2 R2 B2 own3 hb3
    have cI := A3.flI hq1 hq2
    have fI := A3.frozen 1089
    go_upto_region 6 with fail
    try simp only [hwr]
    have A4 := A3.set 1089 (.int .u64 ((I + gi) % 18446744073709551616))
    rw [fl_setI hq1 hq2] at A4
    have R4 := R3.setOther (a := ⟨w.heap.size, 1089, none⟩) (.int .u64 ((I + gi) % 18446744073709551616)) (by simp)
    have B4 := B3.setCell (p := ⟨w.heap.size, 1089, none⟩) (by simp) (.int .u64 ((I + gi) % 18446744073709551616))
    have own5 := own_cellO (o := 1089) (u := .int .u64 ((I + gi) % 18446744073709551616)) own4 (show w.heap.size < V.heap.size by omega)
    generalize w3.setCell ⟨w.heap.size, 1089, none⟩ (.int .u64 ((I + gi) % 18446744073709551616)) = W4 at *
    clear cI fI A3 R3 B3 own4
    have cU := A4.flU hq1 hq2
    have fU := A4.frozen 1090
    go_upto_region 7 with fail
    try simp only [hwr]
    have A5 := A4.set 1090 (.int .u64 ((U + go) % 18446744073709551616))
    rw [fl_setU hq1 hq2] at A5
    have R5 := R4.setOther (a := ⟨w.heap.size, 1090, none⟩) (.int .u64 ((U + go) % 18446744073709551616)) (by simp)
    have B5 := B4.setCell (p := ⟨w.heap.size, 1090, none⟩) (by simp) (.int .u64 ((U + go) % 18446744073709551616))
    have own6 := own_cellO (o := 1090) (u := .int .u64 ((U + go) % 18446744073709551616)) own5 (show w.heap.size < V.heap.size by omega)
    generalize W4.setCell ⟨w.heap.size, 1090, none⟩ (.int .u64 ((U + go) % 18446744073709551616)) = W5 at *
    clear cU fU A4 R4 B4 own5
    generalize hI' : (I + gi) % 18446744073709551616 = I' at A5 R5 B5 own6 ⊢
    generalize hU' : (U + go) % 18446744073709551616 = U' at A5 R5 B5 own6 ⊢
    replace hI' := Hid.mk' hI'
    replace hU' := Hid.mk' hU'
    go_wp2_with (first
      | (refine atL 82 (.tmp 2) ?_; refine ldB (by rfl) 82 1091 _ (by rfl) w.heap.size 82 (by rfl) _ (flA_size hq1 hq2) A5 Try.underlying82 rfl size82N ?_)
      | (refine atS 82 (.tmp 4) (.tmp 36) ?_; refine stB (by rfl) 82 1091 _ _ (by rfl) (w.heap.size + 1) 82 (flA Q s1 n1 c1 I' U') Z (by rfl) (by rfl) (flA_size hq1 hq2) (flA_one _ _ _ _ _ _) hzs82 R5 size82N ?_))
    have own7 := own_row own6 (flA Q s1 n1 c1 I' U') (show w.heap.size + 1 < V.heap.size by omega)
    exact bodyPost_ret (v := .agg (flA Q s1 n1 c1 I' U')) (results_cell_row Try.results35 _ _ (w.heap.size + 1) 82 _ (0, 0) _ rfl (R5.setRow _) Try.underlying82 rfl (by rw [flA_size hq1 hq2]; exact size82N)) rfl ⟨s1, n1, c1, by rw [← hI'.out, ← hU'.out], hn1, own_mono own7 (by omega), below_setRow B5 (by omega) _⟩
end Go.Proofs.Ytbhhbkoikocjgaa
/- Layer spec: the fold, a stand at a time. -/
namespace Go.Proofs.Ytbhhbkoikocjgaa
set_option linter.unusedSectionVars false
set_option maxHeartbeats 1000000
open Go.RowKit Go.Shelf
set_option maxRecDepth 100000
set_option linter.unusedVariables false
set_option linter.unusedSimpArgs false
variable [DecidableEq Ac] [DecidableEq Ou] [DecidableEq Mg]
attribute [local go_sem] Oper.semAt_some


set_option maxHeartbeats 400000 in
theorem fold31_any (sl : Option Addr) (nl cl : Nat) (C : Array Value) (w : World) :
    Calls Try.prog 31 #[.slice sl nl cl, .agg C, .func (Fn.func 32) #[] #[]] w fun e w' => e = .returned (.func (Fn.func 49) #[] #[.pointer (some ⟨w.heap.size + 1, 0, none⟩), .pointer (some ⟨w.heap.size, 0, none⟩), .pointer (some ⟨w.heap.size + 1 + 1, 0, none⟩)]) ∧ w' = ((w.alloc (.cells #[.slice sl nl cl] 31)).alloc (.cells C 30)).alloc (.cells #[.func (Fn.func 32) #[] #[]] 80) := by
  have hmf : ∀ (fn : Fn) (first cap : Array Value) (w : World), (Instr.makeFunc fn first cap).run Try.prog w = .ok (.func fn first cap) w := fun _ _ _ _ => rfl
  go_enter Try.func31, Try.ntmps31
  go_wp2
  go_ret
  exact ⟨rfl, rfl⟩
set_option maxHeartbeats 2000000 in
theorem fold49_in (bf bl bs B : Nat) (C0 : Array Value) (sl : Option Addr) (nl cl : Nat) (es : List Bz) (M : World → Prop) (T : Nat → Array Value → World → Prop) (hM : ∀ W, M W → FoldM bf bl bs B 30 32 C0 sl nl cl es W) (hT : FoldT B 30 1089 32 C0 es nl M T) :
    Teller 49 #[.pointer (some ⟨bf, 0, none⟩), .pointer (some ⟨bl, 0, none⟩), .pointer (some ⟨bs, 0, none⟩)] B M T (fun _ _ => False) nl := by
  intro k lp J X hJM hJB hY W Cp h0
  refine callsIn_of_wp Try.func49 rfl trivial ?_ rfl
  simp only [Try.ntmps49, List.size_toArray, List.length_cons, List.length_nil, Nat.reduceAdd, Nat.reduceSub, Array.replicate_succ, Array.replicate_zero, List.push_toArray, List.append_toArray, List.nil_append, List.cons_append]
  obtain ⟨hM0, hsz⟩ := hJM 0 Cp W h0
  have hF0 := hM W hM0
  obtain ⟨hC0, hC1⟩ := hT.size 0 C0 W (hT.first W hM0 hsz)
  have A0 := hF0.first
  have hz := zeroValue30N
  have hzs := zsize30
  have hbV := alloc_bel' W (.cells C0 30)
  have AV := Arr.new W 30 C0
  have hJV := hJB 0 Cp W _ h0 (hbV.mono hsz)
  have hsV : (W.alloc (.cells C0 30)).heap.size = W.heap.size + 1 := by simp
  have hTV := hT.first _ (hJM _ _ _ hJV).1 (hJM _ _ _ hJV).2
  obtain ⟨fn, tmps, assign, body, hy, hR⟩ := hY 0 Cp C0 _ hJV (Nat.zero_le _) hTV
  rw [show ((0 : Nat) : Int) = 0 from rfl] at hy
  generalize zero30N = Z at hz hzs
  gi_wp2_with (first
    | (refine atLi 30 (.tmp 1) ?_; refine ldBw (by rfl) 30 1089 _ (by rfl) bf 30 (by rfl) C0 hC0 A0 Try.underlying30 rfl size30N ?_)
    | (refine atSi 30 (.tmp 5) (.tmp 8) ?_; refine stBnw (by rfl) 30 1089 _ _ (by rfl) W W.heap.size 30 rfl C0 (by rfl) (by rfl) hC0 hC1 hzs size30N ?_)
    | (refine atLi 30 (.tmp 5) ?_; refine ldBw (by rfl) 30 1089 _ (by rfl) W.heap.size 30 (by rfl) C0 hC0 AV Try.underlying30 rfl size30N ?_))
  refine ⟨fun h => (by cases h), hR.mono ?_⟩
  clear hR hy hJV hTV A0
  rintro r W3 (⟨rfl, hJ3, hs3, hk3⟩ | ⟨rfl, hX⟩)
  rotate_left
  · gi_wp2
    exact bodyPost_ret (results_none rfl _ _ _) rfl ⟨⟨_, rfl⟩, .inr hX⟩
  obtain ⟨hM3, hB3⟩ := hJM _ _ _ hJ3
  have hF3 := hM W3 hM3
  have A3 : Arr W3 W.heap.size 30 C0 := (hk3 _ hsz (by omega) id).trans AV
  have hT3 := hT.first W3 hM3 hB3
  have cl3 := hF3.list
  have hlen := hF3.msgs.len
  have hnl : nl ≤ 9223372036854775807 := Nat.le_trans hF3.msgs.le hF3.msgs.big
  clear hF0 hF3 AV hbV
  gi_wp2
  gi_loopw [15] (fun d wr => ∃ (j : Nat) (C : Array Value), d = .int .i64 (j : Int) ∧ j ≤ nl ∧ J (j + 1) C wr ∧ T j C wr ∧ Arr wr W.heap.size 30 C) (fun d _ => nl - (intOf d).toNat)
  case atStart => exact ⟨0, C0, rfl, by omega, hJ3, hT3, A3⟩
  case round =>
    obtain ⟨j, C, rfl, hj, hJj, hTj, hAj⟩ := hrel
    clear hJ3 hT3 A3 cl3 hM3 hB3 hk3 hs3 hsV
    obtain ⟨hMr, hBr⟩ := hJM _ _ _ hJj
    have hFr := hM wr hMr
    obtain ⟨hC2, hC3⟩ := hT.size _ _ _ hTj
    by_cases hlt : j < nl
    · have hI : (j : Int) < nl := by omega
      obtain ⟨g, off, e, rfl, he, hce, hBe⟩ := hFr.msgs.get hlt
      have cs := hFr.step
      have hst := hT.step j C e wr W.heap.size C hTj hMr hBr he hlt hAj hsz
      replace he := Hid.mk' he
      gi_wp2_with (first
        | (refine atLi 30 (.tmp 5) ?_; refine ldBw (by rfl) 30 1089 _ (by rfl) W.heap.size 30 (by rfl) C4 hC4 hA5 Try.underlying30 rfl size30N ?_)
        | (refine atLi 30 (.tmp 5) ?_; refine ldBw (by rfl) 30 1089 _ (by rfl) W.heap.size 30 (by rfl) C hC2 hAj Try.underlying30 rfl size30N ?_)
        | (refine ⟨trivial, fun h => (by cases h), ?_⟩; gi_at_call 32; go_must (refine (callsIn_wide.2 hst).mono ?_; rintro r w4 ⟨C4, rfl, hT4, hb4, hA4⟩; obtain ⟨hC4, hC5⟩ := hT.size _ _ _ hT4))
        | (refine atSi 30 (.tmp 5) (.tmp 23) ?_; go_must (refine stBw (by rfl) 30 1089 _ _ (by rfl) W.heap.size 30 C4 C (by rfl) (by rfl) hC4 hC5 hC2 hA4 size30N ?_; have hb5 : Below B wr (w4.setRow W.heap.size C4) := below_setRow hb4 hsz _; have hJ5 := hJB _ _ _ _ hJj hb5; have hA5 : Arr (w4.setRow W.heap.size C4) W.heap.size 30 C4 := hA4.setRow _; have hT5 := hT.stays _ _ w4 (w4.setRow W.heap.size C4) _ _ hT4 hA4 (hJM _ _ _ hJ5).1 (by simp) (fun b _ _ hn => setRow_other _ _ _ _ hn); generalize w4.setRow W.heap.size C4 = w5 at *; clear hJj hTj hAj hT4 hA4 hb4 hb5; obtain ⟨fn, tmps, assign, body, hy, hR⟩ := hY (j + 1) C C4 w5 hJ5 hlt hT5; rw [show ((j + 1 : Nat) : Int) = (j : Int) + 1 by omega] at hy)))
      refine ⟨fun h => (by cases h), hR.mono ?_⟩
      clear hR hy
      rintro r W6 (⟨rfl, hJ6, hs6, hk6⟩ | ⟨rfl, hX⟩)
      · have hM6 := (hJM _ _ _ hJ6).1
        have hA6 : Arr W6 W.heap.size 30 C4 := (hk6 _ hsz hA5.lt id).trans hA5
        have hT6 := hT.stays _ _ w5 W6 _ _ hT5 hA5 hM6 hs6 (fun b h1 h2 _ => hk6 b h1 h2 id)
        gi_wp2
        go_roundw
        case rel => exact ⟨j + 1, C4, by go_num, by omega, hJ6, hT6, hA6⟩
        case measure => simp [intOf]; omega
      · gi_wp2
        exact bodyPost_ret (results_none rfl _ _ _) rfl ⟨⟨_, rfl⟩, .inr hX⟩
    · obtain rfl : j = nl := by omega
      have hI : ¬ (j : Int) < j := by omega
      gi_wp2
      go_end0
      exact ⟨⟨_, rfl⟩, .inl ⟨C, hJj, hTj⟩⟩
end Go.Proofs.Ytbhhbkoikocjgaa
