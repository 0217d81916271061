/- Layer mem: what the layers below give. -/
import Derived.Test.YtndonaebdbbofaaX01
import Derived.Test.YtndonaebdbbofaaX03
import Derived.Test.YtndonaebdbbofaaX06
import Derived.BigQuiet
import Derived.BigRegion
import Derived.ChangeKeysEq
import Derived.Deep.DeepCutAuto
import Derived.Deep.DrawnRows
import Derived.Deep.MidRow
import Derived.Deep.QuietTactic
import Derived.Deep.RegionHeld3
import Derived.Deep.RegionLaw
import Derived.Deep.RegionWith
import Derived.Deep.WholeRow
import Derived.Laws.AppendOwnNone
import Derived.Laws.BitsLemmas
import Derived.Laws.BytesArg
import Derived.Laws.CopyOwn
import Derived.Lib.SlBytesConst
import Derived.WalkKit
import Derived.WalkLawsBesides
import Derived.WalkSpells
namespace Go.Proofs.Ytndonaebdbbofaa
open Go.RowKit
set_option maxRecDepth 100000
set_option linter.unusedVariables false
set_option linter.unusedSimpArgs false

theorem fo_step {m j : Nat} {r Y : List Int} {ls : List (List Int)} (h : ls[j]? = some Y) : fo (m / 2 ^ j) r (ls.drop j) = fo (m / 2 ^ (j + 1)) (if (m / 2 ^ j) % 2 = 0 then pr r Y else pr Y r) (ls.drop (j + 1)) := by
  have hj := (List.getElem?_eq_some_iff.1 h).1
  have e := (List.getElem?_eq_some_iff.1 h).2
  rw [List.drop_eq_getElem_cons hj, e, fo, div_succ]
set_option maxRecDepth 100000 in
set_option maxHeartbeats 1000000 in
theorem fold_ok (m : Nat) (X : List Int) (N : Nat) (sp : Option Addr) (n cap : Nat) (ls : List (List Int)) (w : World) (hX : X.length = 32) (hS : HS N w sp n cap ls) (h1 : n ≤ 16) (h2 : m < 2 ^ n) :
    Calls Try.prog 66 #[.int .i64 m, .agg (h8 X), .slice sp n cap] w fun e w' => e = .returned (.tuple #[.agg (h8 (fo m X ls)), .int .i64 0]) ∧ Below w.heap.size w w' := by
  have A0 := (Arr.new w 43 (h8 X)).alloc (.cells (h8 Z32) 43)
  have A1 := Arr.new (w.alloc (.cells (h8 X) 43)) 43 (h8 Z32)
  rw [World.size_alloc] at A1
  have hmd : ∀ w, Calls Try.prog 61 #[.int .i64 n] w fun e w' => e = .returned (.bool true) ∧ w' = w := fun w => by have h := mayDepth_any n w; rwa [decide_eq_true (by omega)] at h
  have hmp : ∀ w, Calls Try.prog 81 #[.int .i64 n, .int .i64 m] w fun e w' => e = .returned (.bool true) ∧ w' = w := fun w => by have h := mayPlace_any n h1 m w; rwa [decide_eq_true (by omega)] at h
  have hm : m ≤ 9223372036854775807 := by have := pow16 h1; omega
  have hl := hS.len
  have hsm := hS.small
  have hS := hS.here
  replace h2 := Hid.mk' h2
  have hb2 : Below w.heap.size w (((w.alloc (.cells (h8 X) 43)).alloc (.cells (h8 Z32) 43)).alloc (.cells (h8 X) 43)) := ((alloc_bel' w _).alloc (by simp) _).alloc (by simp; omega) _
  have A2 := Arr.new ((w.alloc (.cells (h8 X) 43)).alloc (.cells (h8 Z32) 43)) 43 (h8 X)
  rw [World.size_alloc, World.size_alloc] at A2
  go_enter Try.func66, Try.ntmps66
  go_wp2_with (first
    | (go_at_call 61; go_must (refine (hmd _).mono ?_; rintro e w2 ⟨rfl, rfl⟩))
    | (go_at_call 81; go_must (refine (hmp _).mono ?_; rintro e w2 ⟨rfl, rfl⟩))
    | (refine ld24 (by rfl) _ (by rfl) w.heap.size 0 (by rfl) X hX A0.range ?_)
    | (refine st24n (by rfl) _ _ (by rfl) ((w.alloc (.cells (h8 X) 43)).alloc (.cells (h8 Z32) 43)) (w.heap.size + 1 + 1) (by simp) (by rfl) X (by rfl) (by rfl) hX ?_))
  go_loopw [27] (fun d wr => ∃ (j : Nat) (r : List Int), d = .int .i64 (j : Int) ∧ j ≤ n ∧ Below w.heap.size w wr ∧ w.heap.size + 3 ≤ wr.heap.size ∧ Arr wr (w.heap.size + 1) 43 (h8 Z32) ∧ Arr wr (w.heap.size + 1 + 1) 43 (h8 r) ∧ Hid (r.length = 32) ∧ Hid (fo (m / 2 ^ j) r (ls.drop j) = fo m X ls))
    (fun d _ => n - (intOf d).toNat)
  case atStart => exact ⟨0, X, rfl, by omega, hb2, by simp, A1.alloc _, A2, Hid.mk' hX, Hid.mk' (by simp)⟩
  case round =>
    obtain ⟨j, r, rfl, hj, hbl, hsz, R1, R2, hr, hfo⟩ := hrel
    by_cases hlt : j < n
    · have hI : (j : Int) < n := by omega
      have hSr := hS.below hbl
      obtain ⟨g, off, rfl, hgN, hR⟩ := hSr.at0 (by omega)
      obtain ⟨Y, hY⟩ : ∃ Y, ls[j]? = some Y := ⟨ls[j]'(by rw [← hl.out]; exact hlt), List.getElem?_eq_getElem _⟩
      have hY32 := hS.l32 Y (List.mem_of_getElem? hY)
      have hRY := hR j Y hY
      have hsec := isSecond_any m j hm (by omega)
      have hst := Hid.mk' (fo_step (m := m) (r := r) hY)
      have hbY := hbl.alloc (by omega) (.cells (h8 Y) 43)
      have Y1 := Arr.new wr 43 (h8 Y)
      have R1' := R1.alloc (.cells (h8 Y) 43)
      have R2' := R2.alloc (.cells (h8 Y) 43)
      replace hY := Hid.mk' hY
      cases hd : decide (m / 2 ^ j % 2 = 1) with
      | true =>
        rw [hd] at hsec
        have hd' : m / 2 ^ j % 2 = 1 := of_decide_eq_true hd
        rw [if_neg (by omega)] at hst
        replace hd' := Hid.mk' hd'
        clear hd
        go_wp2_with (first
          | (refine ld24 (by rfl) _ (by rfl) g (off + j * 32) (by rfl) Y hY32 hRY ?_)
          | (refine st24n (by rfl) _ _ (by rfl) wr wr.heap.size rfl (by rfl) Y (by rfl) (by rfl) hY32 ?_)
          | (go_at_call 82; go_must (refine (hsec _).mono ?_; rintro e w2 ⟨rfl, rfl⟩))
          | (refine ld24 (by rfl) _ (by rfl) wr.heap.size 0 (by rfl) Y hY32 Y1.range ?_)
          | (refine ld24 (by rfl) _ (by rfl) (w.heap.size + 1 + 1) 0 (by rfl) r hr.out R2'.range ?_)
          | (go_at_call 76; go_must (refine (pair_h Y r _ hY32 hr.out).mono ?_; rintro e w3 ⟨rfl, hb3⟩; have hs3 := hb3.size; simp at hs3; have S1 := R1'.below hb3 (by simp; omega); have S2 := R2'.below hb3 (by simp; omega)))
          | (refine st24 (by rfl) _ _ (by rfl) (w.heap.size + 1 + 1) (pr Y r) r (by rfl) (by rfl) (pr_len _ _) hr.out S2 ?_))
        go_roundw
        case rel => exact ⟨j + 1, pr Y r, by go_num, by omega, below_setRow (hbY.trans (hb3.mono (by simp; omega))) (by omega) _, by simp; omega, S1.setRowOther _ (by omega), S2.setRow _, Hid.mk' (pr_len _ _), Hid.mk' (by rw [← hst.out]; exact hfo.out)⟩
        case measure => simp [intOf]; omega
      | false =>
        rw [hd] at hsec
        have hd' : ¬ m / 2 ^ j % 2 = 1 := of_decide_eq_false hd
        rw [if_pos (by omega)] at hst
        replace hd' := Hid.mk' hd'
        clear hd
        go_wp2_with (first
          | (refine ld24 (by rfl) _ (by rfl) g (off + j * 32) (by rfl) Y hY32 hRY ?_)
          | (refine st24n (by rfl) _ _ (by rfl) wr wr.heap.size rfl (by rfl) Y (by rfl) (by rfl) hY32 ?_)
          | (go_at_call 82; go_must (refine (hsec _).mono ?_; rintro e w2 ⟨rfl, rfl⟩))
          | (refine ld24 (by rfl) _ (by rfl) wr.heap.size 0 (by rfl) Y hY32 Y1.range ?_)
          | (refine ld24 (by rfl) _ (by rfl) (w.heap.size + 1 + 1) 0 (by rfl) r hr.out R2'.range ?_)
          | (go_at_call 76; go_must (refine (pair_h r Y _ hr.out hY32).mono ?_; rintro e w3 ⟨rfl, hb3⟩; have hs3 := hb3.size; simp at hs3; have S1 := R1'.below hb3 (by simp; omega); have S2 := R2'.below hb3 (by simp; omega)))
          | (refine st24 (by rfl) _ _ (by rfl) (w.heap.size + 1 + 1) (pr r Y) r (by rfl) (by rfl) (pr_len _ _) hr.out S2 ?_))
        go_roundw
        case rel => exact ⟨j + 1, pr r Y, by go_num, by omega, below_setRow (hbY.trans (hb3.mono (by simp; omega))) (by omega) _, by simp; omega, S1.setRowOther _ (by omega), S2.setRow _, Hid.mk' (pr_len _ _), Hid.mk' (by rw [← hst.out]; exact hfo.out)⟩
        case measure => simp [intOf]; omega
    · obtain rfl : j = n := by omega
      have hI : ¬ (j : Int) < j := by omega
      have hend : r = fo m X ls := by
        have h := hfo.out
        rw [List.drop_eq_nil_of_le (by rw [← hl.out]; exact Nat.le_refl _)] at h
        exact h
      subst hend
      clear hfo
      go_wp2_with (first
        | (refine ld24 (by rfl) _ (by rfl) (w.heap.size + 1 + 1) 0 (by rfl) _ hr.out R2.range ?_)
        | (refine st24 (by rfl) _ _ (by rfl) (w.heap.size + 1) _ Z32 (by rfl) (by rfl) hr.out Z32_len R1 ?_))
      exact bodyPost_ret (v := .tuple #[.agg (h8 (fo m X ls)), .int .i64 0]) (resP Try.results66 rfl rfl hr.out (R1.setRow _)) rfl ⟨rfl, below_setRow hbl (by omega) _⟩
set_option maxRecDepth 100000 in
set_option maxHeartbeats 1000000 in
theorem fold_no (i : Int) (X : List Int) (sp : Option Addr) (n cap : Nat) (w : World) (hX : X.length = 32) (hn : n ≤ 140737488355328) (h : ¬ (n ≤ 16 ∧ 0 ≤ i ∧ i < (2 ^ n : Nat))) :
    Calls Try.prog 66 #[.int .i64 i, .agg (h8 X), .slice sp n cap] w fun e w' => e = .returned (.tuple #[.agg (h8 Z32), .int .i64 2]) ∧ Below w.heap.size w w' := by
  have A1 := Arr.new (w.alloc (.cells (h8 X) 43)) 43 (h8 Z32)
  rw [World.size_alloc] at A1
  have hb2 : Below w.heap.size w ((w.alloc (.cells (h8 X) 43)).alloc (.cells (h8 Z32) 43)) := (alloc_bel' w _).alloc (by simp) _
  by_cases h1 : n ≤ 16
  · have h2 : ¬ (0 ≤ i ∧ i < (2 ^ n : Nat)) := fun hh => h ⟨h1, hh⟩
    have hmd : ∀ w, Calls Try.prog 61 #[.int .i64 n] w fun e w' => e = .returned (.bool true) ∧ w' = w := fun w => by have h := mayDepth_any n w; rwa [decide_eq_true (by omega)] at h
    have hmp : ∀ w, Calls Try.prog 81 #[.int .i64 n, .int .i64 i] w fun e w' => e = .returned (.bool false) ∧ w' = w := fun w => by have h := mayPlace_any n h1 i w; rwa [decide_eq_false h2] at h
    clear h h2
    go_enter Try.func66, Try.ntmps66
    go_wp2_with (first
      | (go_at_call 61; go_must (refine (hmd _).mono ?_; rintro e w2 ⟨rfl, rfl⟩))
      | (go_at_call 81; go_must (refine (hmp _).mono ?_; rintro e w2 ⟨rfl, rfl⟩))
      | (refine st24 (by rfl) _ _ (by rfl) (w.heap.size + 1) Z32 Z32 (by rfl) (by rfl) Z32_len Z32_len A1 ?_))
    exact bodyPost_ret (v := .tuple #[.agg (h8 Z32), .int .i64 2]) (resP Try.results66 rfl rfl Z32_len (A1.setRow _)) rfl ⟨rfl, below_setRow hb2 (by omega) _⟩
  · have hmd : ∀ w, Calls Try.prog 61 #[.int .i64 n] w fun e w' => e = .returned (.bool false) ∧ w' = w := fun w => by have h := mayDepth_any n w; rwa [decide_eq_false (by omega)] at h
    clear h
    go_enter Try.func66, Try.ntmps66
    go_wp2_with (first
      | (go_at_call 61; go_must (refine (hmd _).mono ?_; rintro e w2 ⟨rfl, rfl⟩))
      | (refine st24 (by rfl) _ _ (by rfl) (w.heap.size + 1) Z32 Z32 (by rfl) (by rfl) Z32_len Z32_len A1 ?_))
    exact bodyPost_ret (v := .tuple #[.agg (h8 Z32), .int .i64 2]) (resP Try.results66 rfl rfl Z32_len (A1.setRow _)) rfl ⟨rfl, below_setRow hb2 (by omega) _⟩
/-- What Fold answers: a sum and a code. -/
abbrev FoOK (i : Int) (n : Nat) : Prop := n ≤ 16 ∧ 0 ≤ i ∧ i < (2 ^ n : Nat)
def foR (i : Int) (X : List Int) (ls : List (List Int)) : List Int := if FoOK i ls.length then fo i.toNat X ls else Z32
def foE (i : Int) (ls : List (List Int)) : Int := if FoOK i ls.length then 0 else 2
theorem fold_any (i : Int) (X : List Int) (N : Nat) (sp : Option Addr) (n cap : Nat) (ls : List (List Int)) (w : World) (hX : X.length = 32) (hS : HS N w sp n cap ls) :
    Calls Try.prog 66 #[.int .i64 i, .agg (h8 X), .slice sp n cap] w fun e w' => e = .returned (.tuple #[.agg (h8 (foR i X ls)), .int .i64 (foE i ls)]) ∧ Below w.heap.size w w' := by
  have hl := hS.len.out
  unfold foR foE
  rw [← hl]
  by_cases h : FoOK i n
  · rw [if_pos h, if_pos h]
    obtain ⟨h1, h2, h3⟩ := h
    obtain ⟨m, rfl⟩ : ∃ m : Nat, i = m := ⟨i.toNat, by omega⟩
    exact fold_ok m X N sp n cap ls w hX hS h1 (by omega)
  · rw [if_neg h, if_neg h]
    exact fold_no i X sp n cap w hX hS.small h
end Go.Proofs.Ytndonaebdbbofaa
