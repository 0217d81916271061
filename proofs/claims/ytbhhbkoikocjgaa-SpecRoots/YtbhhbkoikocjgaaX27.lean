/- ZMa, ZTk, ZTl, ZMc, ZMh. -/
import Derived.Test.YtbhhbkoikocjgaaX03
import Derived.Test.YtbhhbkoikocjgaaX04
import Derived.Test.YtbhhbkoikocjgaaX06
import Derived.Test.YtbhhbkoikocjgaaX11
import Derived.BigQuiet
import Derived.BigRegion
import Derived.ChangeKeysEq
import Derived.Deep.DeepCutAuto
import Derived.Deep.DrawnRows
import Derived.Deep.QuietTactic
import Derived.Deep.RegionHeld3
import Derived.Deep.RegionLaw
import Derived.Deep.RegionWith
import Derived.Deep.WholeRow
import Derived.Laws.AppendOwnNone
import Derived.Laws.BytesArg
import Derived.Laws.CopyOwn
import Derived.Lib.SlBytesConst
import Derived.WalkKit
import Derived.WalkLawsBesides
import Derived.WalkSpells
import Derived.Test.YtbhhbkoikocjgaaX01
import Derived.Test.YtbhhbkoikocjgaaX05
import Derived.Test.YtbhhbkoikocjgaaX07
import Derived.Test.YtbhhbkoikocjgaaX02
import Derived.Test.YtbhhbkoikocjgaaX08
import Derived.Test.YtbhhbkoikocjgaaX19
import Derived.Test.YtbhhbkoikocjgaaX26
import Derived.Deep.MidRow
import Derived.Laws.BitsLemmas
import Derived.Test.YtbhhbkoikocjgaaX12
/- Layer spec: what the layers below give. -/
namespace Go.Proofs.Ytbhhbkoikocjgaa
set_option linter.unusedSectionVars false
set_option maxHeartbeats 1000000
open Go.RowKit
set_option maxRecDepth 100000
set_option linter.unusedVariables false
set_option linter.unusedSimpArgs false

variable [DecidableEq Ac] [DecidableEq Ou] [DecidableEq Mg]
theorem pr_len (x y : List Int) : (pr x y).length = 32 := shl_len _
theorem tr_len (d : Nat) : ∀ l : List (List Int), (∀ x ∈ l, x.length = 32) → (tr d l).length = 32 := by
  cases d with
  | zero =>
    intro l h
    cases l with
    | nil => exact Z32_len
    | cons a r => exact h a (by simp)
  | succ d => intro l h; exact pr_len _ _
theorem tr_take (d : Nat) : ∀ l : List (List Int), tr d (l.take (2 ^ d)) = tr d l := by
  induction d with
  | zero => intro l; cases l <;> simp [tr]
  | succ d ih =>
    intro l
    have h2 : 2 ^ (d + 1) = 2 ^ d + 2 ^ d := by rw [Nat.pow_succ]; omega
    have hp : 0 < 2 ^ d := Nat.pow_pos (by omega)
    simp only [tr]
    rw [List.take_take, Nat.min_eq_left (by omega)]
    congr 1
    rw [List.drop_take, show 2 ^ (d + 1) - 2 ^ d = 2 ^ d by omega]
    exact ih _
theorem tr_succ (d : Nat) (l : List (List Int)) : tr (d + 1) l = pr (tr d l) (tr d (l.drop (2 ^ d))) := by
  rw [tr, tr_take]
theorem tr_nil (d : Nat) : tr (d + 1) [] = pr (tr d []) (tr d []) := by rw [tr_succ]; simp
/-- Two halves side by side. -/
theorem tr_two (d q : Nat) (l : List (List Int)) : pr (tr d (l.drop (2 * q * 2 ^ d))) (tr d (l.drop ((2 * q + 1) * 2 ^ d))) = tr (d + 1) (l.drop (q * 2 ^ (d + 1))) := by
  rw [tr_succ, List.drop_drop]
  have h1 : 2 * q * 2 ^ d = q * 2 ^ (d + 1) := by rw [Nat.pow_succ, Nat.mul_comm 2 q, Nat.mul_assoc, Nat.mul_comm 2]
  have h2 : (2 * q + 1) * 2 ^ d = q * 2 ^ (d + 1) + 2 ^ d := by rw [Nat.add_mul, h1, Nat.one_mul]
  rw [h1, h2]
/-- The array of halves that wait, of the first n leaves. -/
def Wt (l : List (List Int)) (n : Nat) (W : Nat → List Int) : Prop := ∀ k, (n / 2 ^ k) % 2 = 1 → W k = tr k (l.drop ((n / 2 ^ (k + 1)) * 2 ^ (k + 1)))
theorem div_succ (n k : Nat) : n / 2 ^ (k + 1) = n / 2 ^ k / 2 := by rw [Nat.pow_succ, Nat.div_div_eq_div_mul]
/-- A leaf on its way up: below k all were second halves. -/
theorem wt_up {l : List (List Int)} {n k : Nat} {W : Nat → List Int} {r : List Int} (hW : Wt l n W) (hb : (n / 2 ^ k) % 2 = 1) (hr : r = tr k (l.drop ((n / 2 ^ k) * 2 ^ k))) :
    pr (W k) r = tr (k + 1) (l.drop ((n / 2 ^ (k + 1)) * 2 ^ (k + 1))) := by
  rw [hW k hb, hr, ← tr_two, div_succ]
  have : n / 2 ^ k = 2 * (n / 2 ^ k / 2) + 1 := by omega
  congr 2
  · rw [Nat.pow_succ, Nat.mul_comm (2 ^ k) 2, ← Nat.mul_assoc, Nat.mul_comm (n / 2 ^ k / 2) 2]
  · rw [← this]
/-- .. and where it stays. -/
theorem wt_stay {l : List (List Int)} {n k : Nat} {W : Nat → List Int} {r : List Int} (hW : Wt l n W) (hb : (n / 2 ^ k) % 2 = 0) (hlow : n % 2 ^ k + 1 = 2 ^ k) (hr : r = tr k (l.drop ((n / 2 ^ k) * 2 ^ k))) :
    Wt l (n + 1) (fun j => if j = k then r else W j) := by
  have hn : n + 1 = 2 ^ k * (n / 2 ^ k + 1) := by
    have := Nat.div_add_mod n (2 ^ k)
    rw [Nat.mul_add]; omega
  have hpos : 0 < 2 ^ k := Nat.pow_pos (by omega)
  have hk : (n + 1) / 2 ^ k = n / 2 ^ k + 1 := by rw [hn, Nat.mul_div_cancel_left _ hpos]
  have habove : ∀ j, (n + 1) / 2 ^ (k + 1 + j) = n / 2 ^ (k + 1 + j) := by
    intro j
    have e : 2 ^ (k + 1 + j) = 2 ^ k * (2 * 2 ^ j) := by rw [Nat.pow_add, Nat.pow_succ, Nat.mul_assoc]
    rw [e, ← Nat.div_div_eq_div_mul, ← Nat.div_div_eq_div_mul, ← Nat.div_div_eq_div_mul, ← Nat.div_div_eq_div_mul, hk]
    congr 1; omega
  intro j hj
  by_cases hjk : j = k
  · subst hjk
    show (if j = j then r else W j) = _
    rw [if_pos rfl, hr, habove 0, Nat.add_zero, div_succ]
    congr 2
    have h2 : n / 2 ^ j = 2 * (n / 2 ^ j / 2) := by omega
    rw [Nat.pow_succ, Nat.mul_comm (2 ^ j) 2, ← Nat.mul_assoc, Nat.mul_comm (n / 2 ^ j / 2) 2, ← h2]
  · show (if j = k then r else W j) = _
    rw [if_neg hjk]
    by_cases hlt : j < k
    · exfalso
      obtain ⟨m, rfl⟩ : ∃ m, k = j + 1 + m := ⟨k - j - 1, by omega⟩
      have e : n + 1 = 2 ^ j * (2 * (2 ^ m * (n / 2 ^ (j + 1 + m) + 1))) := by
        rw [show 2 ^ j * (2 * (2 ^ m * (n / 2 ^ (j + 1 + m) + 1))) = 2 ^ (j + 1 + m) * (n / 2 ^ (j + 1 + m) + 1) by rw [Nat.pow_add 2 (j + 1) m, Nat.pow_succ]; simp only [Nat.mul_assoc]]
        exact hn
      rw [e, Nat.mul_div_cancel_left _ (Nat.pow_pos (by omega))] at hj
      omega
    · obtain ⟨m, rfl⟩ : ∃ m, j = k + 1 + m := ⟨j - k - 1, by omega⟩
      rw [habove m] at hj
      rw [show k + 1 + m + 1 = k + 1 + (m + 1) by omega, habove (m + 1)]
      exact hW _ hj
theorem wt_fill0 {l : List (List Int)} {k : Nat} {r : List Int} (hb : (l.length / 2 ^ k) % 2 = 0) (hr : r = tr k (l.drop ((l.length / 2 ^ k) * 2 ^ k))) :
    pr r (tr k []) = tr (k + 1) (l.drop ((l.length / 2 ^ (k + 1)) * 2 ^ (k + 1))) := by
  have h2 : l.length / 2 ^ k = 2 * (l.length / 2 ^ k / 2) := by omega
  have hlt : l.length < (2 * (l.length / 2 ^ k / 2) + 1) * 2 ^ k := by
    rw [← h2]
    have := Nat.div_add_mod l.length (2 ^ k)
    have hm := Nat.mod_lt l.length (show 0 < 2 ^ k from Nat.pow_pos (by omega))
    rw [Nat.add_mul, Nat.mul_comm]; omega
  rw [hr, div_succ, ← tr_two, ← h2]
  congr 2
  rw [h2]
  exact (List.drop_eq_nil_of_le (by omega)).symm
theorem wt_zero (l : List (List Int)) (W : Nat → List Int) : Wt l 0 W := fun k hk => by simp at hk
theorem wt_all {l : List (List Int)} {d : Nat} {W : Nat → List Int} (hW : Wt l (2 ^ d) W) : W d = tr d l := by
  have hp : 0 < 2 ^ d := Nat.pow_pos (by omega)
  have := hW d (by rw [Nat.div_self hp])
  rw [this, Nat.div_eq_of_lt (by rw [Nat.pow_succ]; omega)]
  simp
theorem wt_end {l : List (List Int)} {d : Nat} {r : List Int} (h : l.length < 2 ^ d) (hr : r = tr d (l.drop ((l.length / 2 ^ d) * 2 ^ d))) : r = tr d l := by
  rw [hr, Nat.div_eq_of_lt h]; simp
theorem fill_start (l : List (List Int)) : Z32 = tr 0 (l.drop ((l.length / 2 ^ 0) * 2 ^ 0)) := by simp [tr]
theorem put_start {l : List (List Int)} {n : Nat} {x : List Int} (h : l[n]? = some x) : x = tr 0 (l.drop ((n / 2 ^ 0) * 2 ^ 0)) := by
  have hn := (List.getElem?_eq_some_iff.1 h).1
  rw [List.drop_eq_getElem_cons (by simpa using hn)]
  have := (List.getElem?_eq_some_iff.1 h).2
  simp [tr, this]
/-- What a proof folds to. -/
def fo : Nat → List Int → List (List Int) → List Int
  | _, x, [] => x
  | i, x, p :: ps => fo (i / 2) (if i % 2 = 0 then pr x p else pr p x) ps
end Go.Proofs.Ytbhhbkoikocjgaa
/- Layer spec: what the layers below give. -/
namespace Go.Proofs.Ytbhhbkoikocjgaa
set_option linter.unusedSectionVars false
set_option maxHeartbeats 1000000
open Go.RowKit
set_option maxRecDepth 100000
set_option linter.unusedVariables false
set_option linter.unusedSimpArgs false

variable [DecidableEq Ac] [DecidableEq Ou] [DecidableEq Mg]
theorem sum_n (b off n cap : Nat) (L : List Int) (w : World) (hnL : Hid (n = L.length)) (hB : Bytes w b off L.length (bat L)) (hcap : n ≤ cap) (hn : n ≤ 140737488355328) :
    Calls Try.prog 95 #[.slice (some ⟨b, off, none⟩) n cap] w fun e w' => e = .returned (.agg (sha L)) ∧ Below w.heap.size w w' := by
  have h := hnL.out
  subst h
  exact sum_list b off cap L w hB hcap hn
end Go.Proofs.Ytbhhbkoikocjgaa
/- Layer spec: what the layers below give. -/
namespace Go.Proofs.Ytbhhbkoikocjgaa
set_option linter.unusedSectionVars false
set_option maxHeartbeats 1000000
open Go.RowKit
set_option maxRecDepth 100000
set_option linter.unusedVariables false
set_option linter.unusedSimpArgs false

variable [DecidableEq Ac] [DecidableEq Ou] [DecidableEq Mg]
theorem Arr.new3 (w : World) (o1 o2 : Obj) (ty : Nat) (C : Array Value) : Arr (((w.alloc o1).alloc o2).alloc (.cells C ty)) (w.heap.size + 2) ty C := by
  simpa using Arr.new ((w.alloc o1).alloc o2) ty C
set_option maxRecDepth 100000 in
set_option maxHeartbeats 600000 in
theorem pair_any (X Y : List Int) (w : World) (hX : X.length = 32) (hY : Y.length = 32) :
    Calls Try.prog 72 #[.agg (h8 X), .agg (h8 Y)] w fun e w' => e = .returned (.agg (sha (1 :: (X ++ Y)))) ∧ Below w.heap.size w w' := by
  obtain ⟨i0, hi, hz0, hz1, hz2⟩ := info_parts info5
  have HX := Hid.mk' hX
  have HY := Hid.mk' hY
  clear hX hY
  go_enter Try.func72, Try.ntmps72
  go_wp2_with (first
    | (at_make; go_must (refine wpList_make_own _ (by rfl) (.const (.int .i64 0)) (.const (.int .i64 65)) 63 (by rfl) (w.heap.size + 3) 5 i0 (.int .u8 0) 1 Try.underlying63 hi hz0 hz1 .i64 .i64 _ 65 (by rfl) (by rfl) (by omega) (by rw [hz2]; omega) (Nat.le_trans (by omega) maxLen_ge) (by simp) ?_; intro w1 hown1 hg1; have hown1 : w1.ownsRow (w.heap.size + 3) 5 1 (.slice (some ⟨w.heap.size + 3, 0, none⟩) 0 65) 0 [] := (by simpa using hown1); have hs1 : w.heap.size + 3 ≤ w1.heap.size := (by have := hg1.size; simpa using this); have hX1 : Arr w1 w.heap.size 24 (h8 X) := (((Arr.new w 24 _).alloc _).alloc _).grown hg1 (by simp); have hY1 : Arr w1 (w.heap.size + 1) 24 (h8 Y) := ((show Arr ((w.alloc _).alloc _) (w.heap.size + 1) 24 (h8 Y) from (by simpa using Arr.new (w.alloc (.cells (h8 X) 24)) 24 (h8 Y))).alloc _).grown hg1 (by simp); have hZ1 : ∃ Z : Array Value, Z.size = 32 ∧ Arr w1 (w.heap.size + 2) 24 Z := ⟨_, by rfl, (Arr.new3 w _ _ 24 _).grown hg1 (by simp)⟩; have hB1 : Below w.heap.size w w1 := ((((Below.refl _ _).alloc (Nat.le_refl _) _).alloc (by simp) _).alloc (by simp; omega) _).grown hg1 (by simp; omega) (by simp)))
    | (at_builtin; refine append_bytes (by rfl) (.tmp 7) (.tmp 8) (by rfl) (w.heap.size + 3) _ 0 [] (by rfl) (hown1.alloc _) (some ⟨w1.heap.size, 0, none⟩) 1 1 [1] (by rfl) (by rfl) (fun h => by cases h) (Arr.sl (Arr.new w1 5 _)) (by omega) (by simp; omega) ?_; intro v2 w2 hown2 hg2; obtain ⟨Z, hZs, hZ1⟩ := hZ1; have hZ2 := (hZ1.alloc _).grown hg2 (ne_own hown1 (by omega)); have hX2 := (hX1.alloc _).grown hg2 (ne_own hown1 (by omega)); have hY2 := (hY1.alloc _).grown hg2 (ne_own hown1 (by omega)); have hB2 := (hB1.alloc (by omega) _).grown hg2 (by simp; omega) (fun k e => by have := own_ge hown1 k e; omega); have hs2 : w.heap.size + 3 ≤ w2.heap.size := (by have := hg2.size; simp at this; omega))
    | (at_builtin; refine append_bytes (by rfl) (.tmp 10) (.tmp 11) (by rfl) (w.heap.size + 3) _ 1 [1] (by rfl) hown2 (some ⟨w.heap.size, 0, none⟩) 32 32 X (by rfl) HX.out.symm (fun h => by cases h) (Arr.sl hX2) (by omega) hs2 ?_; intro v3 w3 hown3 hg3; have hZ3 := hZ2.grown hg3 (ne_own hown2 (by omega)); have hY3 := hY2.grown hg3 (ne_own hown2 (by omega)); have hB3 := hB2.grown hg3 (by omega) (fun k e => by have := own_ge hown2 k e; omega); have hs3 : w.heap.size + 3 ≤ w3.heap.size := Nat.le_trans hs2 hg3.size)
    | (at_builtin; refine append_bytes (by rfl) (.tmp 13) (.tmp 14) (by rfl) (w.heap.size + 3) _ 33 ([1] ++ X) (by rfl) hown3 (some ⟨w.heap.size + 1, 0, none⟩) 32 32 Y (by rfl) HY.out.symm (fun h => by cases h) (Arr.sl hY3) (by omega) hs3 ?_; intro v4 w4 hown4 hg4; have hZ4 := hZ3.grown hg4 (ne_own hown3 (by omega)); have hB4 := hB3.grown hg4 (by omega) (fun k e => by have := own_ge hown3 k e; omega); obtain ⟨g, cap4, rfl, hn4, hcap4, hg, hBy, -⟩ := own_slice hown4 (by omega))
    | (go_at_call 95; go_must (refine (sum_n g 0 65 cap4 ([1] ++ X ++ Y) _ hn4 hBy hcap4 (by omega)).mono ?_; rintro e w5 ⟨rfl, hb5⟩; have hZ5 := hZ4.below hb5 hZ4.lt))
    | (refine wpList_store_arr (by rfl) 24 (.tmp 4) (.tmp 16) (by rfl) (w.heap.size + 2) (sha ([1] ++ X ++ Y)) (by rfl) (by rfl) 24 Z hZ5 (s24sha _) (by rw [hZs, sha_size]) (sha_one _) ?_))
  exact bodyPost_ret (v := .agg (sha (1 :: (X ++ Y)))) (results_cell_row Try.results72 _ _ (w.heap.size + 2) 24 _ (0, 0) _ rfl (hZ5.setRow _) Try.underlying24 rfl (s24sha _)) rfl ⟨rfl, below_setRow (hB4.trans (hb5.mono hB4.size)) (by omega) _⟩
end Go.Proofs.Ytbhhbkoikocjgaa
/- Layer spec: what the layers below give. -/
namespace Go.Proofs.Ytbhhbkoikocjgaa
set_option linter.unusedSectionVars false
set_option maxHeartbeats 1000000
open Go.RowKit
set_option maxRecDepth 100000
set_option linter.unusedVariables false
set_option linter.unusedSimpArgs false

variable [DecidableEq Ac] [DecidableEq Ou] [DecidableEq Mg]
set_option maxRecDepth 100000 in
set_option maxHeartbeats 400000 in
theorem mayDepth_any (d : Int) (w : World) : Calls Try.prog 69 #[.int .i64 d] w fun e w' => e = .returned (.bool (decide (0 ≤ d ∧ d ≤ 16))) ∧ w' = w := by
  by_cases h1 : 0 ≤ d
  · by_cases h2 : d ≤ 16
    · rw [decide_eq_true ⟨h1, h2⟩]
      go_enter Try.func69, Try.ntmps69
      go_wp2
      go_ret
      exact ⟨rfl, rfl⟩
    · rw [decide_eq_false (fun h => h2 h.2)]
      go_enter Try.func69, Try.ntmps69
      go_wp2
      go_ret
      exact ⟨rfl, rfl⟩
  · rw [decide_eq_false (fun h => h1 h.1)]
    go_enter Try.func69, Try.ntmps69
    go_wp2
    go_ret
    exact ⟨rfl, rfl⟩
set_option maxRecDepth 100000 in
set_option maxHeartbeats 400000 in
theorem width_any (d : Nat) (hd : d ≤ 16) (w : World) : Calls Try.prog 94 #[.int .i64 d] w fun e w' => e = .returned (.int .i64 (2 ^ d : Nat)) ∧ w' = w := by
  have hp := Hid.mk' (wrap_pow hd)
  go_enter Try.func94, Try.ntmps94
  go_wp2
  go_ret
  exact ⟨by rw [hp.out]; rfl, rfl⟩
set_option maxRecDepth 100000 in
set_option maxHeartbeats 400000 in
theorem isSecond_any (i k : Nat) (hi : i ≤ 9223372036854775807) (hk : k ≤ 17) (w : World) : Calls Try.prog 71 #[.int .i64 i, .int .i64 k] w fun e w' => e = .returned (.bool (decide ((i / 2 ^ k) % 2 = 1))) ∧ w' = w := by
  have hp : (bits .and .i64 ((i : Int) / 2 ^ k) 1 == 1) = decide ((i / 2 ^ k) % 2 = 1) := by
    rw [i64_and1, powc, ← Int.natCast_ediv]
    rw [Bool.eq_iff_iff, beq_iff_eq, decide_eq_true_eq]
    omega
  replace hp := Hid.mk' hp
  go_enter Try.func71, Try.ntmps71
  go_wp2
  go_ret
  exact ⟨by rw [hp.out]; rfl, rfl⟩
set_option maxRecDepth 100000 in
set_option maxHeartbeats 400000 in
theorem mayPlace_any (d : Nat) (hd : d ≤ 16) (i : Int) (w : World) : Calls Try.prog 70 #[.int .i64 d, .int .i64 i] w fun e w' => e = .returned (.bool (decide (0 ≤ i ∧ i < (2 ^ d : Nat)))) ∧ w' = w := by
  obtain ⟨p, hp⟩ : ∃ p : Int, p = (2 ^ d : Nat) := ⟨_, rfl⟩
  have hw : ∀ w, Calls Try.prog 94 #[.int .i64 d] w fun e w' => e = .returned (.int .i64 p) ∧ w' = w := fun w => by rw [hp]; exact width_any d hd w
  rw [← hp]
  clear hp
  by_cases h1 : 0 ≤ i
  · by_cases h2 : i < p
    · rw [decide_eq_true ⟨h1, h2⟩]
      go_enter Try.func70, Try.ntmps70
      go_wp2_with (go_at_call 94; go_must (refine (hw _).mono ?_; rintro e w2 ⟨rfl, rfl⟩))
      go_ret
      exact ⟨rfl, rfl⟩
    · rw [decide_eq_false (fun h => h2 h.2)]
      go_enter Try.func70, Try.ntmps70
      go_wp2_with (go_at_call 94; go_must (refine (hw _).mono ?_; rintro e w2 ⟨rfl, rfl⟩))
      go_ret
      exact ⟨by simp [h2], rfl⟩
  · rw [decide_eq_false (fun h => h1 h.1)]
    go_enter Try.func70, Try.ntmps70
    go_wp2_with (go_at_call 94; go_must (refine (hw _).mono ?_; rintro e w2 ⟨rfl, rfl⟩))
    go_ret
    exact ⟨rfl, rfl⟩
theorem pair_h (X Y : List Int) (w : World) (hX : X.length = 32) (hY : Y.length = 32) :
    Calls Try.prog 72 #[.agg (h8 X), .agg (h8 Y)] w fun e w' => e = .returned (.agg (h8 (pr X Y))) ∧ Below w.heap.size w w' := by
  have h := pair_any X Y w hX hY
  rw [sha_h8] at h
  exact h
set_option maxRecDepth 100000 in
set_option maxHeartbeats 400000 in
theorem itself_any (X : List Int) (hX : X.length = 32) (w : World) : Calls Try.prog 99 #[.agg (h8 X)] w fun e w' => e = .returned (.agg (h8 X)) ∧ Below w.heap.size w w' := by
  have A0 := (Arr.new w 24 (h8 X)).alloc (.cells (h8 Z32) 24)
  have A1 := Arr.new (w.alloc (.cells (h8 X) 24)) 24 (h8 Z32)
  rw [World.size_alloc] at A1
  go_enter Try.func99, Try.ntmps99
  go_wp2_with (first
    | (refine ld24 (by rfl) _ (by rfl) w.heap.size 0 (by rfl) X hX A0.range ?_)
    | (refine st24 (by rfl) _ _ (by rfl) (w.heap.size + 1) X Z32 (by rfl) (by rfl) hX Z32_len A1 ?_))
  exact bodyPost_ret (v := .agg (h8 X)) (res24 Try.results99 rfl hX (A1.setRow _)) rfl ⟨rfl, below_setRow ((alloc_bel' w _).alloc (by simp) _) (by omega) _⟩
end Go.Proofs.Ytbhhbkoikocjgaa
/- Layer spec: what the layers below give. -/
namespace Go.Proofs.Ytbhhbkoikocjgaa
set_option linter.unusedSectionVars false
set_option maxHeartbeats 1000000
open Go.RowKit
set_option maxRecDepth 100000
set_option linter.unusedVariables false
set_option linter.unusedSimpArgs false

variable [DecidableEq Ac] [DecidableEq Ou] [DecidableEq Mg]
theorem heap_setCells_other {k g : Nat} (hk : k ≠ g) : ∀ (vs : List Value) (o : Nat) (w : World), (w.setCells g o vs).heap[k]? = w.heap[k]?
  | [], _, _ => rfl
  | v :: r, o, w => by
    rw [World.setCells, heap_setCells_other hk r (o + 1)]
    exact Below.heap_setCell _ _ _ _ hk
theorem size_setCells (g : Nat) : ∀ (vs : List Value) (o : Nat) (w : World), (w.setCells g o vs).heap.size = w.heap.size
  | [], _, _ => rfl
  | v :: r, o, w => by rw [World.setCells, size_setCells g r (o + 1)]; simp [World.setCell]
theorem below_setCells {B : Nat} {a w : World} (h : Below B a w) {g : Nat} (hg : B ≤ g) : ∀ (vs : List Value) (o : Nat), Below B a (w.setCells g o vs) := by
  intro vs
  induction vs generalizing w with
  | nil => intro o; exact h
  | cons v r ih => intro o; rw [World.setCells]; exact ih (h.setCell (p := ⟨g, o, none⟩) hg v) (o + 1)
theorem Arr.setCellsOther {w : World} {g ty k : Nat} {C : Array Value} (h : Arr w g ty C) (hk : g ≠ k) (o : Nat) (vs : List Value) : Arr (w.setCells k o vs) g ty C := (heap_setCells_other hk vs o w).trans h
/-- What put does. -/
def PutPost (l : List (List Int)) (n : Nat) (W : Nat → List Int) (g : Nat) (w : World) (e : Ending) (w' : World) : Prop :=
  (∃ v, e = .returned v) ∧ ∃ w1 k r, Below w.heap.size w w1 ∧ k < 17 ∧ r.length = 32 ∧ w' = w1.setCells g (k * 32) (by8 r) ∧ Wt l (n + 1) (fun j => if j = k then r else W j)
theorem low_succ {n k : Nat} (h : n % 2 ^ k + 1 = 2 ^ k) (hb : (n / 2 ^ k) % 2 = 1) : n % 2 ^ (k + 1) + 1 = 2 ^ (k + 1) := by
  rw [Nat.mod_pow_succ, hb, Nat.mul_one, Nat.pow_succ]; omega
/-- A leaf of the first 2^16 comes up 16 levels at most. -/
theorem low_lt {n k : Nat} (h : n % 2 ^ k + 1 = 2 ^ k) (hn : n < 65536) : k ≤ 16 := by
  by_cases hk : k ≤ 16
  · exact hk
  · exfalso
    have h1 : n % 2 ^ k ≤ n := Nat.mod_le _ _
    have h2 : 2 ^ 17 ≤ 2 ^ k := Nat.pow_le_pow_right (by omega) (by omega)
    have h3 : (2 : Nat) ^ 17 = 131072 := by rfl
    omega
set_option maxRecDepth 100000 in
set_option maxHeartbeats 1000000 in
theorem put_any (l : List (List Int)) (n : Nat) (X : List Int) (W : Nat → List Int) (g : Nat) (w : World) (hX : X.length = 32) (hl : l[n]? = some X) (hn : n < 65536) (hL : LV w g W) (hW : Wt l n W) :
    Calls Try.prog 110 #[.pointer (some ⟨g, 0, none⟩), .int .i64 n, .agg (h8 X)] w (PutPost l n W g w) := by
  have A0 := Arr.new w 24 (h8 X)
  have hst := Hid.mk' (put_start hl)
  replace hW := Hid.mk' hW
  replace hl := Hid.mk' hl
  have hgl := hL.lt
  have hb1 := (alloc_bel' w (.cells (h8 X) 24)).alloc (by simp) (.cells (h8 X) 24)
  have A1 := Arr.new (w.alloc (.cells (h8 X) 24)) 24 (h8 X)
  rw [World.size_alloc] at A1
  go_enter Try.func110, Try.ntmps110
  go_wp2_with (first
    | (refine ld24 (by rfl) _ (by rfl) w.heap.size 0 (by rfl) X hX A0.range ?_)
    | (refine st24n (by rfl) _ _ (by rfl) (w.alloc (.cells (h8 X) 24)) (w.heap.size + 1) (by simp) (by rfl) X (by rfl) (by rfl) hX ?_))
  go_loopw [7] (fun d wr => ∃ (k : Nat) (r : List Int), d = .int .i64 (k : Int) ∧ Below w.heap.size w wr ∧ w.heap.size + 2 ≤ wr.heap.size ∧ Arr wr (w.heap.size + 1) 24 (h8 r) ∧ Hid (r.length = 32) ∧ Hid (n % 2 ^ k + 1 = 2 ^ k) ∧ Hid (r = tr k (l.drop ((n / 2 ^ k) * 2 ^ k))))
    (fun d _ => 20 - (intOf d).toNat)
  case atStart => exact ⟨0, X, rfl, hb1, by simp, A1, Hid.mk' hX, Hid.mk' (by simp [Nat.mod_one]), hst⟩
  case round =>
    obtain ⟨k, r, rfl, hbl, hsz, R1, hr, hlow, hrt⟩ := hrel
    clear A0 A1 hb1 hst
    have hk := low_lt hlow.out hn
    have hkI : (k : Int) < 17 := by omega
    have hsec := isSecond_any n k (by omega) (by omega)
    have hRk := range_below (hL.rg k (by omega)) hbl hgl
    cases hd : decide (n / 2 ^ k % 2 = 1) with
    | true =>
      rw [hd] at hsec
      have hd := Hid.mk' (of_decide_eq_true hd)
      go_wp2_with (first
        | (go_at_call 71; go_must (refine (hsec _).mono ?_; rintro e w2 ⟨rfl, rfl⟩)))
      refine wp_region_held_drew (S := fun _ => True) (by kernel_rfl) trivial (fun hHeld => ?_)
      refine wpAnyH_take (i := 0) (oi := ⟨_, _, _, _, _, _⟩) (v := ?_) rfl (by kernel_rfl) (by kernel_rfl) (by kernel_rfl) (fun _ _ _ h => h) (Or.inl ⟨by rfl, ?_⟩) (by assumption) ?_
      rotate_left
      · intro u hSw
        go_simp
        try (with_reducible rfl)
      try simp only [Act.put, List.setIfInBounds_toArray, List.set_cons_zero, List.set_cons_succ]
      refine wpAnyH_take (i := 1) (oi := ⟨_, _, _, _, _, _⟩) (v := ?_) rfl (by kernel_rfl) (by kernel_rfl) (by kernel_rfl) (fun _ _ _ h => h) (Or.inl ⟨by rfl, ?_⟩) (by assumption) ?_
      rotate_left
      · intro u hSw
        go_simp
        try (with_reducible rfl)
      try simp only [Act.put, List.setIfInBounds_toArray, List.set_cons_zero, List.set_cons_succ]
      refine wpAnyH_take (i := 2) (oi := ⟨_, _, _, _, _, _⟩) (v := ?_) rfl (by kernel_rfl) (by kernel_rfl) (by kernel_rfl) (fun _ _ _ h => h) (Or.inl ⟨by rfl, ?_⟩) (by assumption) ?_
      rotate_left
      · intro u hSw
        go_simp
        try (with_reducible rfl)
      try simp only [Act.put, List.setIfInBounds_toArray, List.set_cons_zero, List.set_cons_succ]
      refine wpAnyH_take (i := 3) (oi := ⟨_, _, _, _, _, _⟩) (v := ?_) rfl (by kernel_rfl) (by kernel_rfl) (by kernel_rfl) (fun _ _ _ h => h) (Or.inl ⟨by rfl, ?_⟩) (by assumption) ?_
      rotate_left
      · intro u hSw
        go_simp
        try (with_reducible rfl)
      try simp only [Act.put, List.setIfInBounds_toArray, List.set_cons_zero, List.set_cons_succ]
      refine wpAnyH_ready (rs := [4, 5]) (by kernel_rfl) (by simp) ?_
      refine AllReadyH.cons (o := ⟨_, _, _, _, _, _⟩) rfl (fun K hK => ?_) (AllReadyH.cons (o := ⟨_, _, _, _, _, _⟩) rfl (fun K hK => ?_) AllReadyH.nil)
      · refine step_want rfl (wp_load_mid 24 (.tmp 15) rfl g (k * 32) rfl (by8 (W k)) _ ((World.rangeAt_drew _ _ _ _).2 hRk) Try.underlying24 rfl (by rw [by8_len, hL.l32 k]; exact size24) ?_)
        refine hK.out _ _ trivial (fun hHeld => ?_)
        clear hK K
        try simp only [Act.put, List.setIfInBounds_toArray, List.set_cons_zero, List.set_cons_succ]
        refine wpAnyH_ready (rs := [5]) (by kernel_rfl) (by simp) ?_
        refine AllReadyH.cons (o := ⟨_, _, _, _, _, _⟩) rfl (fun K hK => ?_) AllReadyH.nil
        refine step_want rfl (wp_load_mid 24 (.tmp 6) rfl (w.heap.size + 1) 0 rfl (by8 r) _ R1.drew.range Try.underlying24 rfl (by rw [by8_len, hr.out]; exact size24) ?_)
        refine hK.out _ _ trivial (fun hHeld => ?_)
        clear hK K
        try simp only [Act.put, List.setIfInBounds_toArray, List.set_cons_zero, List.set_cons_succ]
        refine wpAnyH_ready (rs := [6]) (by kernel_rfl) (by simp) ?_
        refine AllReadyH.cons (o := ⟨_, _, _, _, _, _⟩) rfl (fun K hK => ?_) AllReadyH.nil
        go_simp
        refine (pair_h (W k) r _ (hL.l32 k) hr.out).mono ?_; rintro e w3 ⟨rfl, hb3⟩; have hs3 := hb3.size; simp at hs3; have S1 := R1.drew.below hb3 (by simp <;> omega)
        go_wp2_with fail
        refine hK.out _ _ trivial (fun hHeld => ?_)
        clear hK K
        try simp only [Act.put, List.setIfInBounds_toArray, List.set_cons_zero, List.set_cons_succ]
        refine wpAnyH_ready (rs := [7]) (by kernel_rfl) (by simp) ?_
        refine AllReadyH.cons (o := ⟨_, _, _, _, _, _⟩) rfl (fun K hK => ?_) AllReadyH.nil
        refine step_want rfl (wp_store_row 24 (.tmp 6) (.tmp 18) rfl (w.heap.size + 1) (h8 (pr (W k) r)) rfl rfl 24 _ S1 (s24h8 (pr_len _ _)) (by rw [h8_size, h8_size, hr.out, pr_len]) (h8_one _) ?_)
        refine hK.out _ _ trivial (fun hHeld => ?_)
        clear hK K
        try simp only [Act.put, List.setIfInBounds_toArray, List.set_cons_zero, List.set_cons_succ]
        refine wpAnyH_done (by kernel_rfl) ?_ _
        go_wp2_with fail
        go_roundw
        case rel => exact ⟨k + 1, pr (W k) r, by go_num, below_setRow (hbl.drew.trans (hb3.mono (by simp <;> omega))) (by omega) _, by simp <;> omega, S1.setRow _, Hid.mk' (pr_len _ _), Hid.mk' (low_succ hlow.out hd.out), Hid.mk' (wt_up hW.out hd.out hrt.out)⟩
        case measure => simp [intOf]; omega
      · refine step_want rfl (wp_load_mid 24 (.tmp 6) rfl (w.heap.size + 1) 0 rfl (by8 r) _ R1.drew.range Try.underlying24 rfl (by rw [by8_len, hr.out]; exact size24) ?_)
        refine hK.out _ _ trivial (fun hHeld => ?_)
        clear hK K
        try simp only [Act.put, List.setIfInBounds_toArray, List.set_cons_zero, List.set_cons_succ]
        refine wpAnyH_ready (rs := [4]) (by kernel_rfl) (by simp) ?_
        refine AllReadyH.cons (o := ⟨_, _, _, _, _, _⟩) rfl (fun K hK => ?_) AllReadyH.nil
        refine step_want rfl (wp_load_mid 24 (.tmp 15) rfl g (k * 32) rfl (by8 (W k)) _ ((World.rangeAt_drew _ _ _ _).2 hRk) Try.underlying24 rfl (by rw [by8_len, hL.l32 k]; exact size24) ?_)
        refine hK.out _ _ trivial (fun hHeld => ?_)
        clear hK K
        try simp only [Act.put, List.setIfInBounds_toArray, List.set_cons_zero, List.set_cons_succ]
        refine wpAnyH_ready (rs := [6]) (by kernel_rfl) (by simp) ?_
        refine AllReadyH.cons (o := ⟨_, _, _, _, _, _⟩) rfl (fun K hK => ?_) AllReadyH.nil
        go_simp
        refine (pair_h (W k) r _ (hL.l32 k) hr.out).mono ?_; rintro e w3 ⟨rfl, hb3⟩; have hs3 := hb3.size; simp at hs3; have S1 := R1.drew.below hb3 (by simp <;> omega)
        go_wp2_with fail
        refine hK.out _ _ trivial (fun hHeld => ?_)
        clear hK K
        try simp only [Act.put, List.setIfInBounds_toArray, List.set_cons_zero, List.set_cons_succ]
        refine wpAnyH_ready (rs := [7]) (by kernel_rfl) (by simp) ?_
        refine AllReadyH.cons (o := ⟨_, _, _, _, _, _⟩) rfl (fun K hK => ?_) AllReadyH.nil
        refine step_want rfl (wp_store_row 24 (.tmp 6) (.tmp 18) rfl (w.heap.size + 1) (h8 (pr (W k) r)) rfl rfl 24 _ S1 (s24h8 (pr_len _ _)) (by rw [h8_size, h8_size, hr.out, pr_len]) (h8_one _) ?_)
        refine hK.out _ _ trivial (fun hHeld => ?_)
        clear hK K
        try simp only [Act.put, List.setIfInBounds_toArray, List.set_cons_zero, List.set_cons_succ]
        refine wpAnyH_done (by kernel_rfl) ?_ _
        go_wp2_with fail
        go_roundw
        case rel => exact ⟨k + 1, pr (W k) r, by go_num, below_setRow (hbl.drew.trans (hb3.mono (by simp <;> omega))) (by omega) _, by simp <;> omega, S1.setRow _, Hid.mk' (pr_len _ _), Hid.mk' (low_succ hlow.out hd.out), Hid.mk' (wt_up hW.out hd.out hrt.out)⟩
        case measure => simp [intOf]; omega
    | false =>
      rw [hd] at hsec
      have hd : Hid ((n / 2 ^ k) % 2 = 0) := Hid.mk' (by have := of_decide_eq_false hd; omega)
      have hth : wr.there g (k * 32) 32 := fun j hj => by
        have := there_below hL.th hbl hgl (k * 32 + j) (by omega)
        rwa [Nat.zero_add] at this
      go_wp2_with (first
        | (go_at_call 71; go_must (refine (hsec _).mono ?_; rintro e w2 ⟨rfl, rfl⟩)))
      refine wp_region_held_drew (S := fun _ => True) (by kernel_rfl) trivial (fun hHeld => ?_)
      refine wpAnyH_take (i := 0) (oi := ⟨_, _, _, _, _, _⟩) (v := ?_) rfl (by kernel_rfl) (by kernel_rfl) (by kernel_rfl) (fun _ _ _ h => h) (Or.inl ⟨by rfl, ?_⟩) (by assumption) ?_
      rotate_left
      · intro u hSw
        go_simp
        try (with_reducible rfl)
      try simp only [Act.put, List.setIfInBounds_toArray, List.set_cons_zero, List.set_cons_succ]
      refine wpAnyH_take (i := 1) (oi := ⟨_, _, _, _, _, _⟩) (v := ?_) rfl (by kernel_rfl) (by kernel_rfl) (by kernel_rfl) (fun _ _ _ h => h) (Or.inl ⟨by rfl, ?_⟩) (by assumption) ?_
      rotate_left
      · intro u hSw
        go_simp
        try (with_reducible rfl)
      try simp only [Act.put, List.setIfInBounds_toArray, List.set_cons_zero, List.set_cons_succ]
      refine wpAnyH_take (i := 3) (oi := ⟨_, _, _, _, _, _⟩) (v := ?_) rfl (by kernel_rfl) (by kernel_rfl) (by kernel_rfl) (fun _ _ _ h => h) (Or.inl ⟨by rfl, ?_⟩) (by assumption) ?_
      rotate_left
      · intro u hSw
        go_simp
        try (with_reducible rfl)
      try simp only [Act.put, List.setIfInBounds_toArray, List.set_cons_zero, List.set_cons_succ]
      refine wpAnyH_ready (rs := [2]) (by kernel_rfl) (by simp) ?_
      refine AllReadyH.cons (o := ⟨_, _, _, _, _, _⟩) rfl (fun K hK => ?_) AllReadyH.nil
      refine step_want rfl (wp_load_mid 24 (.tmp 6) rfl (w.heap.size + 1) 0 rfl (by8 r) _ R1.drew.range Try.underlying24 rfl (by rw [by8_len, hr.out]; exact size24) ?_)
      refine hK.out _ _ trivial (fun hHeld => ?_)
      clear hK K
      try simp only [Act.put, List.setIfInBounds_toArray, List.set_cons_zero, List.set_cons_succ]
      refine wpAnyH_take (i := 4) (oi := ⟨_, _, _, _, _, _⟩) (v := ?_) rfl (by kernel_rfl) (by kernel_rfl) (by kernel_rfl) (fun _ _ _ h => h) (Or.inl ⟨by rfl, ?_⟩) (by assumption) ?_
      rotate_left
      · intro u hSw
        go_simp
        try (with_reducible rfl)
      try simp only [Act.put, List.setIfInBounds_toArray, List.set_cons_zero, List.set_cons_succ]
      refine wpAnyH_ready (rs := [5]) (by kernel_rfl) (by simp) ?_
      refine AllReadyH.cons (o := ⟨_, _, _, _, _, _⟩) rfl (fun K hK => ?_) AllReadyH.nil
      refine step_want rfl (wp_store_mid 24 (.tmp 25) (.tmp 23) rfl g (k * 32) (h8 r) rfl rfl (by rw [h8_size, hr.out]; exact (World.there_drew _ _ _ _).2 hth) (s24h8 hr.out) (h8_one _) ?_)
      refine hK.out _ _ trivial (fun hHeld => ?_)
      clear hK K
      refine wpAnyH_done (by kernel_rfl) ?_ _
      go_end0
      exact ⟨⟨_, rfl⟩, _, k, r, hbl.drew, by omega, hr.out, rfl, wt_stay hW.out hd.out hlow.out hrt.out⟩
end Go.Proofs.Ytbhhbkoikocjgaa
