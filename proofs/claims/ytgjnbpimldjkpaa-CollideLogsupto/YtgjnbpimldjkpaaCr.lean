/- Layer collide: what is exhibited; the same sums. -/
import Derived.Test.YtgjnbpimldjkpaaCq
namespace Go.Proofs.Ytgjnbpimldjkpaa
open Go.RowKit
set_option linter.unusedVariables false
set_option linter.unusedSimpArgs false

theorem low_prop {p q : List (List Int)} {x y : List Int} (h : low p q = some (x, y)) : shl x = shl y ∧ x ≠ y := by
  induction p generalizing q with
  | nil => simp [low] at h
  | cons a p ih =>
    cases q with
    | nil => simp [low] at h
    | cons b q =>
      rw [low] at h
      split at h
      · rename_i hh
        cases h; exact hh
      · exact ih h
theorem low_self (p : List (List Int)) : low p p = none := by
  induction p with
  | nil => rfl
  | cons a p ih => rw [low, if_neg (by simp), ih]
theorem pb_inj {m : Nat} {A B Y Z : List Int} (hA : A.length = 32) (hB : B.length = 32) (hY : Y.length = 32) (hZ : Z.length = 32) (h : pb m A Y = pb m B Z) : A = B ∧ Y = Z := by
  unfold pb at h
  split at h
  · obtain ⟨h1, h2⟩ := List.append_inj (List.cons.inj h).2 (by omega)
    exact ⟨h2, h1⟩
  · obtain ⟨h1, h2⟩ := List.append_inj (List.cons.inj h).2 (by omega)
    exact ⟨h1, h2⟩
/-- A ROOT BINDS. -/
theorem low_some {ls ls' : List (List Int)} {m : Nat} {A B : List Int} (hl : ls.length = ls'.length) (h32 : ∀ X ∈ ls, X.length = 32) (h32' : ∀ X ∈ ls', X.length = 32) (hA : A.length = 32) (hB : B.length = 32) (hf : fo m A ls = fo m B ls') (hne : ¬ (A = B ∧ ls = ls')) :
    (low (pth m A ls) (pth m B ls')).isSome = true := by
  induction ls generalizing ls' m A B with
  | nil =>
    cases ls' with
    | nil => exact absurd ⟨hf, rfl⟩ hne
    | cons Z r => simp at hl
  | cons Y r ih =>
    cases ls' with
    | nil => simp at hl
    | cons Z r' =>
      have hY := h32 Y (by simp)
      have hZ := h32' Z (by simp)
      have e : ∀ (A Y : List Int) (r : List (List Int)), fo m A (Y :: r) = fo (m / 2) (shl (pb m A Y)) r := fun A Y r => by rw [fo_nd, fo_nd, List.length_cons, nd]
      rw [e, e] at hf
      rw [pth, pth, low]
      split
      · rfl
      · rename_i hh
        refine ih (by simpa using hl) (fun X hX => h32 X (by simp [hX])) (fun X hX => h32' X (by simp [hX])) (shl_len _) (shl_len _) hf (fun hc => ?_)
        by_cases hp : pb m A Y = pb m B Z
        · obtain ⟨h1, h2⟩ := pb_inj hA hB hY hZ hp
          exact hne ⟨h1, by rw [h2, hc.2]⟩
        · exact hh ⟨hc.1, hp⟩
theorem bind_some {i : Int} {A B : List Int} {ls ls' : List (List Int)} (h32 : ∀ X ∈ ls, X.length = 32) (h32' : ∀ X ∈ ls', X.length = 32) (hA : A.length = 32) (hB : B.length = 32) :
    (bindO i A ls B ls').isSome = true ↔ (ls.length = ls'.length ∧ FoOK i ls.length ∧ fo i.toNat A ls = fo i.toNat B ls') ∧ ¬ (A = B ∧ ls = ls') := by
  unfold bindO
  constructor
  · intro h
    split at h
    · rename_i hc
      refine ⟨hc, fun hs => ?_⟩
      obtain ⟨rfl, rfl⟩ := hs
      rw [low_self] at h
      simp at h
    · simp at h
  · rintro ⟨hc, hne⟩
    rw [if_pos hc]
    exact low_some hc.1 h32 h32' hA hB hc.2.2 hne
theorem bind_prop {i : Int} {A B : List Int} {ls ls' : List (List Int)} {x y : List Int} (h : bindO i A ls B ls' = some (x, y)) : shl x = shl y ∧ x ≠ y := by
  unfold bindO at h
  split at h
  · exact low_prop h
  · cases h
theorem list_take_ne {α : Type} {l l' : List α} {j : Nat} {a b : α} (ha : l[j]? = some a) (hb : l'[j]? = some b) (hab : a ≠ b) : l ≠ l' := fun e => by subst e; rw [ha] at hb; exact hab (Option.some.inj hb)
theorem list_ext_take {α : Type} {l l' : List α} (hl : l.length = l'.length) (h : ∀ i, i < l.length → l[i]? = l'[i]?) : l = l' := by
  apply List.ext_getElem?
  intro i
  by_cases hi : i < l.length
  · exact h i hi
  · rw [List.getElem?_eq_none (by omega), List.getElem?_eq_none (by omega)]
set_option maxRecDepth 100000 in
set_option maxHeartbeats 1000000 in
theorem same4_any (N N' : Nat) (sp sp' : Option Addr) (n n' cap cap' : Nat) (ls ls' : List (List Int)) (w : World) (hS : HS N w sp n cap ls) (hS' : HS N' w sp' n' cap' ls') :
    Calls Try.prog 18 #[.slice sp n cap, .slice sp' n' cap'] w fun e w' => e = .returned (.bool (decide (ls = ls'))) ∧ Below w.heap.size w w' := by
  have hS0 := hS.here
  have hS0' := hS'.here
  have hl := hS.len
  have hl' := hS'.len
  have hsm := hS.small
  by_cases hnn : n = n'
  · subst hnn
    have hlen : Hid (ls.length = ls'.length) := Hid.mk' (by rw [← hl.out, ← hl'.out])
    have hnn : ((n : Int) != n) = false := by simp
    go_enter Try.func18, Try.ntmps18
    go_wp2_with fail
    go_loopw [5] (fun q wr => ∃ j : Nat, q = .int .i64 (j : Int) ∧ j ≤ n ∧ Below w.heap.size w wr ∧ Hid (∀ i, i < j → ls[i]? = ls'[i]?)) (fun q _ => n - (intOf q).toNat)
    case atStart => exact ⟨0, rfl, by omega, Below.refl _ _, Hid.mk' (fun i hi => by omega)⟩
    case round =>
      obtain ⟨j, rfl, hj, hbl, hsame⟩ := hrel
      have hS := hS0.below hbl
      have hS' := hS0'.below hbl
      by_cases hlt : j < n
      · have hI : (j : Int) < n := by omega
        obtain ⟨g, off, rfl, hgN, hR⟩ := hS.at0 (by omega)
        obtain ⟨g', off', rfl, hgN', hR'⟩ := hS'.at0 (by omega)
        obtain ⟨X, hX⟩ : ∃ X, ls[j]? = some X := ⟨ls[j]'(by rw [← hl.out]; exact hlt), List.getElem?_eq_getElem _⟩
        obtain ⟨Y, hY⟩ : ∃ X, ls'[j]? = some X := ⟨ls'[j]'(by rw [← hl'.out]; exact hlt), List.getElem?_eq_getElem _⟩
        have hX32 := hS.l32 X (List.mem_of_getElem? hX)
        have hY32 := hS'.l32 Y (List.mem_of_getElem? hY)
        have h1 := hR j X hX
        have h2 := hR' j Y hY
        have hgl : g < wr.heap.size := Nat.lt_of_lt_of_le hgN hbl.size
        have hgl' : g' < wr.heap.size := Nat.lt_of_lt_of_le hgN' hbl.size
        have hne := run_neq24 hX32 hY32
        replace hX := Hid.mk' hX
        replace hY := Hid.mk' hY
        cases hd : decide (X = Y) with
        | true =>
          rw [hd] at hne
          have hXY := Hid.mk' (of_decide_eq_true hd)
          clear hd
          go_wp2_with fail
          refine wp_region_held_drew (S := fun u => Below wr.heap.size wr u) (by kernel_rfl) ((Below.refl _ _).drew) (fun hHeld => ?_)
          refine wpAnyH_take (i := 0) (oi := ⟨_, _, _, _, _, _⟩) (v := ?_) rfl (by kernel_rfl) (by kernel_rfl) (by kernel_rfl) (fun _ _ _ h => h) (Or.inl ⟨by rfl, ?_⟩) (by assumption) ?_
          rotate_left
          · intro u hSw
            go_simp
            try (with_reducible rfl)
          try simp only [Act.put, List.setIfInBounds_toArray, List.set_cons_zero, List.set_cons_succ]
          refine wpAnyH_take (i := 1) (oi := ⟨_, _, _, _, _, _⟩) (v := ?_) rfl (by kernel_rfl) (by kernel_rfl) (by kernel_rfl) (fun _ _ _ h => h) (Or.inl ⟨by rfl, ?_⟩) (by assumption) ?_
          rotate_left
          · intro u hSw
            go_simp
            try (with_reducible rfl)
          try simp only [Act.put, List.setIfInBounds_toArray, List.set_cons_zero, List.set_cons_succ]
          refine wpAnyH_take (i := 2) (oi := ⟨_, _, _, _, _, _⟩) (v := ?_) rfl (by kernel_rfl) (by kernel_rfl) (by kernel_rfl) (fun _ _ _ h => h) (Or.inl ⟨by rfl, ?_⟩) (by assumption) ?_
          rotate_left
          · intro u hSw
            go_simp
            try (with_reducible rfl)
          try simp only [Act.put, List.setIfInBounds_toArray, List.set_cons_zero, List.set_cons_succ]
          refine wpAnyH_take (i := 3) (oi := ⟨_, _, _, _, _, _⟩) rfl (by kernel_rfl) (by kernel_rfl) (by kernel_rfl) (fun _ _ _ h => h) (y24 (by rfl) (.tmp 19) rfl (g) (off + j * 32) rfl X hX32 (fun u hu => range_below h1 hu hgl)) (by assumption) ?_
          try simp only [Act.put, List.setIfInBounds_toArray, List.set_cons_zero, List.set_cons_succ]
          refine wpAnyH_take (i := 4) (oi := ⟨_, _, _, _, _, _⟩) (v := ?_) rfl (by kernel_rfl) (by kernel_rfl) (by kernel_rfl) (fun _ _ _ h => h) (Or.inl ⟨by rfl, ?_⟩) (by assumption) ?_
          rotate_left
          · intro u hSw
            go_simp
            try (with_reducible rfl)
          try simp only [Act.put, List.setIfInBounds_toArray, List.set_cons_zero, List.set_cons_succ]
          refine wpAnyH_take (i := 5) (oi := ⟨_, _, _, _, _, _⟩) (v := ?_) rfl (by kernel_rfl) (by kernel_rfl) (by kernel_rfl) (fun _ _ _ h => h) (Or.inl ⟨by rfl, ?_⟩) (by assumption) ?_
          rotate_left
          · intro u hSw
            go_simp
            try (with_reducible rfl)
          try simp only [Act.put, List.setIfInBounds_toArray, List.set_cons_zero, List.set_cons_succ]
          refine wpAnyH_take (i := 6) (oi := ⟨_, _, _, _, _, _⟩) (v := ?_) rfl (by kernel_rfl) (by kernel_rfl) (by kernel_rfl) (fun _ _ _ h => h) (Or.inl ⟨by rfl, ?_⟩) (by assumption) ?_
          rotate_left
          · intro u hSw
            go_simp
            try (with_reducible rfl)
          try simp only [Act.put, List.setIfInBounds_toArray, List.set_cons_zero, List.set_cons_succ]
          refine wpAnyH_take (i := 7) (oi := ⟨_, _, _, _, _, _⟩) rfl (by kernel_rfl) (by kernel_rfl) (by kernel_rfl) (fun _ _ _ h => h) (y24 (by rfl) (.tmp 23) rfl (g') (off' + j * 32) rfl Y hY32 (fun u hu => range_below h2 hu hgl')) (by assumption) ?_
          try simp only [Act.put, List.setIfInBounds_toArray, List.set_cons_zero, List.set_cons_succ]
          refine wpAnyH_take (i := 8) (oi := ⟨_, _, _, _, _, _⟩) (v := ?_) rfl (by kernel_rfl) (by kernel_rfl) (by kernel_rfl) (fun _ _ _ h => h) (Or.inl ⟨by rfl, ?_⟩) (by assumption) ?_
          rotate_left
          · intro u hSw
            go_simp
            try (with_reducible rfl)
          try simp only [Act.put, List.setIfInBounds_toArray, List.set_cons_zero, List.set_cons_succ]
          refine wpAnyH_done (by kernel_rfl) ?_ _

          go_wp2_with fail
          go_roundw
          case rel =>
            refine ⟨j + 1, by go_num, by omega, hbl.drew, Hid.mk' (fun i hi => ?_)⟩
            by_cases hij : i = j
            · subst hij; rw [hX.out, hY.out, hXY.out]
            · exact hsame.out i (by omega)
          case measure => simp [intOf]; omega
        | false =>
          rw [hd] at hne
          have hfin : Hid (decide (ls = ls') = false) := Hid.mk' (decide_eq_false (list_take_ne hX.out hY.out (of_decide_eq_false hd)))
          clear hd
          go_wp2_with fail
          refine wp_region_held_drew (S := fun u => Below wr.heap.size wr u) (by kernel_rfl) ((Below.refl _ _).drew) (fun hHeld => ?_)
          refine wpAnyH_take (i := 0) (oi := ⟨_, _, _, _, _, _⟩) (v := ?_) rfl (by kernel_rfl) (by kernel_rfl) (by kernel_rfl) (fun _ _ _ h => h) (Or.inl ⟨by rfl, ?_⟩) (by assumption) ?_
          rotate_left
          · intro u hSw
            go_simp
            try (with_reducible rfl)
          try simp only [Act.put, List.setIfInBounds_toArray, List.set_cons_zero, List.set_cons_succ]
          refine wpAnyH_take (i := 1) (oi := ⟨_, _, _, _, _, _⟩) (v := ?_) rfl (by kernel_rfl) (by kernel_rfl) (by kernel_rfl) (fun _ _ _ h => h) (Or.inl ⟨by rfl, ?_⟩) (by assumption) ?_
          rotate_left
          · intro u hSw
            go_simp
            try (with_reducible rfl)
          try simp only [Act.put, List.setIfInBounds_toArray, List.set_cons_zero, List.set_cons_succ]
          refine wpAnyH_take (i := 2) (oi := ⟨_, _, _, _, _, _⟩) (v := ?_) rfl (by kernel_rfl) (by kernel_rfl) (by kernel_rfl) (fun _ _ _ h => h) (Or.inl ⟨by rfl, ?_⟩) (by assumption) ?_
          rotate_left
          · intro u hSw
            go_simp
            try (with_reducible rfl)
          try simp only [Act.put, List.setIfInBounds_toArray, List.set_cons_zero, List.set_cons_succ]
          refine wpAnyH_take (i := 3) (oi := ⟨_, _, _, _, _, _⟩) rfl (by kernel_rfl) (by kernel_rfl) (by kernel_rfl) (fun _ _ _ h => h) (y24 (by rfl) (.tmp 19) rfl (g) (off + j * 32) rfl X hX32 (fun u hu => range_below h1 hu hgl)) (by assumption) ?_
          try simp only [Act.put, List.setIfInBounds_toArray, List.set_cons_zero, List.set_cons_succ]
          refine wpAnyH_take (i := 4) (oi := ⟨_, _, _, _, _, _⟩) (v := ?_) rfl (by kernel_rfl) (by kernel_rfl) (by kernel_rfl) (fun _ _ _ h => h) (Or.inl ⟨by rfl, ?_⟩) (by assumption) ?_
          rotate_left
          · intro u hSw
            go_simp
            try (with_reducible rfl)
          try simp only [Act.put, List.setIfInBounds_toArray, List.set_cons_zero, List.set_cons_succ]
          refine wpAnyH_take (i := 5) (oi := ⟨_, _, _, _, _, _⟩) (v := ?_) rfl (by kernel_rfl) (by kernel_rfl) (by kernel_rfl) (fun _ _ _ h => h) (Or.inl ⟨by rfl, ?_⟩) (by assumption) ?_
          rotate_left
          · intro u hSw
            go_simp
            try (with_reducible rfl)
          try simp only [Act.put, List.setIfInBounds_toArray, List.set_cons_zero, List.set_cons_succ]
          refine wpAnyH_take (i := 6) (oi := ⟨_, _, _, _, _, _⟩) (v := ?_) rfl (by kernel_rfl) (by kernel_rfl) (by kernel_rfl) (fun _ _ _ h => h) (Or.inl ⟨by rfl, ?_⟩) (by assumption) ?_
          rotate_left
          · intro u hSw
            go_simp
            try (with_reducible rfl)
          try simp only [Act.put, List.setIfInBounds_toArray, List.set_cons_zero, List.set_cons_succ]
          refine wpAnyH_take (i := 7) (oi := ⟨_, _, _, _, _, _⟩) rfl (by kernel_rfl) (by kernel_rfl) (by kernel_rfl) (fun _ _ _ h => h) (y24 (by rfl) (.tmp 23) rfl (g') (off' + j * 32) rfl Y hY32 (fun u hu => range_below h2 hu hgl')) (by assumption) ?_
          try simp only [Act.put, List.setIfInBounds_toArray, List.set_cons_zero, List.set_cons_succ]
          refine wpAnyH_take (i := 8) (oi := ⟨_, _, _, _, _, _⟩) (v := ?_) rfl (by kernel_rfl) (by kernel_rfl) (by kernel_rfl) (fun _ _ _ h => h) (Or.inl ⟨by rfl, ?_⟩) (by assumption) ?_
          rotate_left
          · intro u hSw
            go_simp
            try (with_reducible rfl)
          try simp only [Act.put, List.setIfInBounds_toArray, List.set_cons_zero, List.set_cons_succ]
          refine wpAnyH_done (by kernel_rfl) ?_ _

          go_wp2_with fail
          go_ret
          exact ⟨by rw [hfin.out]; rfl, hbl.drew⟩
      · obtain rfl : j = n := by omega
        have hI : ¬ (j : Int) < j := by omega
        have hfin : Hid (decide (ls = ls') = true) := Hid.mk' (decide_eq_true (list_ext_take hlen.out (by rw [← hl.out]; exact hsame.out)))
        go_wp2_with fail
        go_ret
        exact ⟨by rw [hfin.out]; rfl, hbl⟩
  · have hne : ((n : Int) != n') = true := by simp; omega
    have hfin : Hid (decide (ls = ls') = false) := Hid.mk' (decide_eq_false (fun e => hnn (by rw [hl.out, hl'.out, e])))
    replace hnn := Hid.mk' hnn
    go_enter Try.func18, Try.ntmps18
    go_wp2_with fail
    go_ret
    exact ⟨by rw [hfin.out]; rfl, Below.refl _ _⟩
end Go.Proofs.Ytgjnbpimldjkpaa
