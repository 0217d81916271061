/- Mg, Mp, Mq. -/
import Derived.Test.YtlebojbfcolkhaaA09
import Derived.Test.YtlebojbfcolkhaaMf
import Derived.Test.YtlebojbfcolkhaaMo
/- Layer merkle, the document's answer: Check, Swap. -/
namespace Go.Proofs.Ytlebojbfcolkhaa
open Go.RowKit
set_option maxRecDepth 100000
set_option linter.unusedVariables false
set_option linter.unusedSimpArgs false

end Go.Proofs.Ytlebojbfcolkhaa
/- Layer merkle: the same sums; a slice of the call's own. -/
namespace Go.Proofs.Ytlebojbfcolkhaa
open Go.RowKit Go.Shelf
set_option maxRecDepth 100000
set_option linter.unusedVariables false
set_option linter.unusedSimpArgs false

theorem flat32_len {ls : List (List Int)} (h : ∀ x ∈ ls, x.length = 32) : (flat32 ls).length = ls.length * 32 := by
  induction ls with
  | nil => rfl
  | cons a r ih =>
    have := ih (fun x hx => h x (by simp [hx]))
    have ha := h a (by simp)
    simp only [flat32, List.map_cons, List.flatten_cons, List.length_append, by8_len, List.length_cons] at this ⊢
    omega
theorem flat32_at {ls : List (List Int)} (h : ∀ x ∈ ls, x.length = 32) {i : Nat} {X : List Int} (hX : ls[i]? = some X) {j : Nat} {v : Value} (hv : (by8 X)[j]? = some v) : (flat32 ls)[i * 32 + j]? = some v := by
  induction ls generalizing i with
  | nil => simp at hX
  | cons a r ih =>
    have ha := h a (by simp)
    have hj : j < 32 := by
      have := (List.getElem?_eq_some_iff.1 hv).1
      rw [by8_len, h X (List.mem_of_getElem? hX)] at this; exact this
    simp only [flat32, List.map_cons, List.flatten_cons]
    cases i with
    | zero =>
      simp at hX
      subst hX
      rw [List.getElem?_append_left (by rw [by8_len, ha]; omega)]
      simpa using hv
    | succ i =>
      have := ih (fun x hx => h x (by simp [hx])) (i := i) (by simpa using hX)
      rw [List.getElem?_append_right (by rw [by8_len, ha]; omega), by8_len, ha, show (i + 1) * 32 + j - 32 = i * 32 + j by omega]
      exact this
/-- A slice of the call's own, read. -/
theorem own_hs {w : World} {base n : Nat} {v : Value} {ls : List (List Int)} (h : w.ownsRow base 24 32 v n (flat32 ls)) (hl : ∀ x ∈ ls, x.length = 32) (hn : n = ls.length) (hsm : n ≤ 1000000) : ∃ sp cap, v = .slice sp n cap ∧ HS w.heap.size w sp n cap ls ∧ ∀ b off, sp = some ⟨b, off, none⟩ → base ≤ b := by
  obtain ⟨-, h | ⟨g, cap, cur, rfl, hg, hh, hnc, hcm, hc, ht⟩⟩ := h
  · obtain ⟨rfl, rfl⟩ := h
    obtain rfl : ls = [] := List.eq_nil_of_length_eq_zero hn.symm
    exact ⟨none, 0, rfl, HS.nil0 _ _, fun b off e => by cases e⟩
  · refine ⟨_, cap, rfl, ⟨hn, (fun e => by cases e), hnc, by unfold maxLen at hcm; omega, by omega, fun h0 => ⟨g, 0, rfl, (Array.getElem?_eq_some_iff.1 hh).1, fun i X hX j u hu => ?_⟩, hl⟩, fun b off e => by cases e; exact hg⟩
    have hi := (List.getElem?_eq_some_iff.1 hX).1
    have hj : j < 32 := by
      have := (List.getElem?_eq_some_iff.1 hu).1
      rw [by8_len, hl X (List.mem_of_getElem? hX)] at this; exact this
    rw [Nat.zero_add, cell_of_row w g _ cur 24 (0, 0) hh, ← Array.getElem?_toList, ← List.getElem?_take_of_lt (show i * 32 + j < n * 32 by omega), ht]
    exact flat32_at hl hX hu
theorem run_ne24 {X : List Int} (hX : X.length = 32) (w : World) : (binOp .neq 24 (.agg (h8 X)) (.agg (h8 X))).run Try.prog w = .ok (.bool false) w := by
  have h := run_eqIn24 hX hX w
  rw [decide_eq_true rfl] at h
  rw [run_neq_struct, h]
  rfl
theorem y24 {ops : Array Oper} {S : World → Prop} {op : Oper} {a : Act} (hw : Region.wanted op (yielded ops a.tmps) = true) (x : Operand) (ho : op.op = .load 24 x)
    (b o : Nat) (hx : a.eval x = .pointer (some ⟨b, o, none⟩)) (X : List Int) (hX : X.length = 32) (hS : ∀ w, S w → w.rangeAt b o (by8 X)) : YieldsIf Try.prog ops S op (.agg (h8 X)) a :=
  yieldsIf_load_mid hw 24 x ho b o hx (by8 X) _ hS Try.underlying24 rfl (by rw [by8_len, hX]; exact size24)
set_option maxRecDepth 100000 in
set_option maxHeartbeats 1000000 in
theorem same_true (N N' : Nat) (sp sp' : Option Addr) (n cap cap' : Nat) (ls : List (List Int)) (w : World) (hS : HS N w sp n cap ls) (hS' : HS N' w sp' n cap' ls) :
    Calls Try.prog 21 #[.slice sp n cap, .slice sp' n cap'] w fun e w' => e = .returned (.bool true) ∧ Below w.heap.size w w' := by
  have hS0 := hS.here
  have hS0' := hS'.here
  have hl := hS.len
  have hsm := hS.small
  have hnn : ((n : Int) != n) = false := by simp
  go_enter Try.func21, Try.ntmps21
  go_wp2_with fail
  go_loopw [5] (fun q wr => ∃ j : Nat, q = .int .i64 (j : Int) ∧ j ≤ n ∧ Below w.heap.size w wr) (fun q _ => n - (intOf q).toNat)
  case atStart => exact ⟨0, rfl, by omega, Below.refl _ _⟩
  case round =>
    obtain ⟨j, rfl, hj, hbl⟩ := hrel
    have hS := hS0.below hbl
    have hS' := hS0'.below hbl
    by_cases hlt : j < n
    · have hI : (j : Int) < n := by omega
      obtain ⟨g, off, rfl, hgN, hR⟩ := hS.at0 (by omega)
      obtain ⟨g', off', rfl, hgN', hR'⟩ := hS'.at0 (by omega)
      obtain ⟨X, hX⟩ : ∃ X, ls[j]? = some X := ⟨ls[j]'(by rw [← hl.out]; exact hlt), List.getElem?_eq_getElem _⟩
      have hX32 := hS.l32 X (List.mem_of_getElem? hX)
      have h1 := hR j X hX
      have h2 := hR' j X hX
      have hne := run_ne24 hX32
      replace hX := Hid.mk' hX
      go_wp2_with fail
      refine wp_region_held_drew (S := fun u => u.rangeAt g (off + j * 32) (by8 X) ∧ u.rangeAt g' (off' + j * 32) (by8 X)) (by kernel_rfl) ⟨(World.rangeAt_drew _ _ _ _).2 h1, (World.rangeAt_drew _ _ _ _).2 h2⟩ (fun hHeld => ?_)
      refine wpAnyH_take (i := 0) (oi := ⟨_, _, _, _, _, _⟩) (v := ?_) rfl (by kernel_rfl) (by kernel_rfl) (by kernel_rfl) (fun _ _ _ h => h) (Or.inl ⟨by rfl, ?_⟩) (by assumption) ?_
      rotate_left
      · intro u hSw
        go_simp
        try (with_reducible rfl)
      try simp only [Act.put, List.setIfInBounds_toArray, List.set_cons_zero, List.set_cons_succ]
      refine wpAnyH_take (i := 1) (oi := ⟨_, _, _, _, _, _⟩) (v := ?_) rfl (by kernel_rfl) (by kernel_rfl) (by kernel_rfl) (fun _ _ _ h => h) (Or.inl ⟨by rfl, ?_⟩) (by assumption) ?_
      rotate_left
      · intro u hSw
        go_simp
        try (with_reducible rfl)
      try simp only [Act.put, List.setIfInBounds_toArray, List.set_cons_zero, List.set_cons_succ]
      refine wpAnyH_take (i := 2) (oi := ⟨_, _, _, _, _, _⟩) (v := ?_) rfl (by kernel_rfl) (by kernel_rfl) (by kernel_rfl) (fun _ _ _ h => h) (Or.inl ⟨by rfl, ?_⟩) (by assumption) ?_
      rotate_left
      · intro u hSw
        go_simp
        try (with_reducible rfl)
      try simp only [Act.put, List.setIfInBounds_toArray, List.set_cons_zero, List.set_cons_succ]
      refine wpAnyH_take (i := 3) (oi := ⟨_, _, _, _, _, _⟩) rfl (by kernel_rfl) (by kernel_rfl) (by kernel_rfl) (fun _ _ _ h => h) (y24 rfl (.tmp 19) rfl g (off + j * 32) rfl X hX32 (fun u hu => hu.1)) (by assumption) ?_
      try simp only [Act.put, List.setIfInBounds_toArray, List.set_cons_zero, List.set_cons_succ]
      refine wpAnyH_take (i := 4) (oi := ⟨_, _, _, _, _, _⟩) (v := ?_) rfl (by kernel_rfl) (by kernel_rfl) (by kernel_rfl) (fun _ _ _ h => h) (Or.inl ⟨by rfl, ?_⟩) (by assumption) ?_
      rotate_left
      · intro u hSw
        go_simp
        try (with_reducible rfl)
      try simp only [Act.put, List.setIfInBounds_toArray, List.set_cons_zero, List.set_cons_succ]
      refine wpAnyH_take (i := 5) (oi := ⟨_, _, _, _, _, _⟩) (v := ?_) rfl (by kernel_rfl) (by kernel_rfl) (by kernel_rfl) (fun _ _ _ h => h) (Or.inl ⟨by rfl, ?_⟩) (by assumption) ?_
      rotate_left
      · intro u hSw
        go_simp
        try (with_reducible rfl)
      try simp only [Act.put, List.setIfInBounds_toArray, List.set_cons_zero, List.set_cons_succ]
      refine wpAnyH_take (i := 6) (oi := ⟨_, _, _, _, _, _⟩) (v := ?_) rfl (by kernel_rfl) (by kernel_rfl) (by kernel_rfl) (fun _ _ _ h => h) (Or.inl ⟨by rfl, ?_⟩) (by assumption) ?_
      rotate_left
      · intro u hSw
        go_simp
        try (with_reducible rfl)
      try simp only [Act.put, List.setIfInBounds_toArray, List.set_cons_zero, List.set_cons_succ]
      refine wpAnyH_take (i := 7) (oi := ⟨_, _, _, _, _, _⟩) rfl (by kernel_rfl) (by kernel_rfl) (by kernel_rfl) (fun _ _ _ h => h) (y24 rfl (.tmp 23) rfl g' (off' + j * 32) rfl X hX32 (fun u hu => hu.2)) (by assumption) ?_
      try simp only [Act.put, List.setIfInBounds_toArray, List.set_cons_zero, List.set_cons_succ]
      refine wpAnyH_take (i := 8) (oi := ⟨_, _, _, _, _, _⟩) (v := ?_) rfl (by kernel_rfl) (by kernel_rfl) (by kernel_rfl) (fun _ _ _ h => h) (Or.inl ⟨by rfl, ?_⟩) (by assumption) ?_
      rotate_left
      · intro u hSw
        go_simp
        try (with_reducible rfl)
      try simp only [Act.put, List.setIfInBounds_toArray, List.set_cons_zero, List.set_cons_succ]
      refine wpAnyH_done (by kernel_rfl) ?_ _
      go_wp2_with fail
      go_roundw
      case rel => exact ⟨j + 1, by go_num, by omega, hbl.drew⟩
      case measure => simp [intOf]; omega
    · obtain rfl : j = n := by omega
      have hI : ¬ (j : Int) < j := by omega
      go_wp2
      go_ret
      exact ⟨rfl, hbl⟩
theorem wp_bld2 {o : Oper} {a : Act} {w : World} {K : Act → World → Prop} {Q : Exit → Act → World → Prop} (x y : Operand) (ho : o.op = .buildSlice 42 2 #[(0, x), (1, y)]) (X Y : List Int) (hx : a.eval x = .agg (h8 X)) (hy : a.eval y = .agg (h8 Y)) (hX : X.length = 32) (hY : Y.length = 32)
    (h : K (a.put o.dst (.slice (some ⟨w.heap.size, 0, none⟩) 2 2)) (w.alloc (.cells (flat32 [X, Y]).toArray 24))) : o.wp Try.prog a w K Q := by
  obtain ⟨i0, hi0, hz0, hz1, hz2⟩ := info_parts info24
  refine wp_buildSlice 42 24 2 _ ho (flat32 [X, Y]).toArray i0 (.agg (h8 Z32)) Try.underlying42 hi0 hz0 (by rw [hz1]; omega) (by rw [hz1]; omega) ?_ h
  have e : (#[(0, x), (1, y)].map fun (p : Nat × Operand) => (p.1, a.eval p.2)).toList = ([Value.agg (h8 X), Value.agg (h8 Y)].zipIdx 0).map fun x => (x.2, x.1) := by simp [hx, hy]
  rw [hz1]
  refine Eq.trans (congrArg _ e) ?_
  rw [Great.fill_whole (s := 32) (by omega) [.agg (h8 X), .agg (h8 Y)] _ (fun v hv => by
    simp only [List.mem_cons, List.not_mem_nil, or_false] at hv
    rcases hv with rfl | rfl
    · show (h8 X).size = 32; rw [h8_size, hX]
    · show (h8 Y).size = 32; rw [h8_size, hY]) (by simp)]
  simp [Value.cells, h8, flat32]
/-- A literal's slice. -/
theorem hs_lit {w : World} {g : Nat} {ls : List (List Int)} {m : Nat} (h : Arr w g 24 (flat32 ls).toArray) (hl : ∀ x ∈ ls, x.length = 32) (hm : m = ls.length) (hsm : m ≤ 1000) : HS w.heap.size w (some ⟨g, 0, none⟩) m m ls :=
  ⟨hm, (fun e => by cases e), Nat.le_refl _, by omega, by omega, fun h0 => ⟨g, 0, rfl, h.lt, fun i X hX j u hu => by
    rw [Nat.zero_add, h.cell]
    simpa using flat32_at hl hX hu⟩, hl⟩

theorem sum1 (b : Int) (w : World) (g : Nat) (hg : g = w.heap.size) : Calls Try.prog 64 #[.slice (some ⟨g, 0, none⟩) 1 1] (w.alloc (.cells #[.int .u8 b] 5)) fun e w' => e = .returned (.agg (h8 (shl [b]))) ∧ Below w.heap.size w w' := by
  subst hg
  refine (refSum_any (some ⟨w.heap.size, 0, none⟩) 1 1 [b] _ rfl (fun h => by cases h) (Arr.sl (Arr.new w 5 _)) (by omega)).mono ?_
  rintro e w' ⟨he, hb⟩
  rw [sha_h8] at he
  exact ⟨he, (alloc_bel' w _).trans (hb.mono (by simp))⟩
end Go.Proofs.Ytlebojbfcolkhaa
/- Layer merkle: the laws' anchor. -/
namespace Go.Proofs.Ytlebojbfcolkhaa
open Go.RowKit Go.Shelf
set_option maxRecDepth 100000
set_option linter.unusedVariables false
set_option linter.unusedSimpArgs false

theorem b1L {ops : Array Oper} {rest : List Oper} {o : Oper} {a : Act} {w : World} {Q : Exit → Act → World → Prop} (hgd : Region.wanted o (yielded ops a.tmps) = true) (x : Operand) (ho : o.op = .buildSlice 42 1 #[(0, x)]) (X : List Int) (hx : a.eval x = .agg (h8 X)) (hX : X.length = 32)
    (h : wpList Try.prog ops Q rest (a.put o.dst (.slice (some ⟨w.heap.size, 0, none⟩) 1 1)) (w.alloc (.cells (h8 X) 24))) : wpList Try.prog ops Q (o :: rest) a w :=
  wpList_want hgd fun _ hK => wp_bld1 x ho X hx hX (hK _ _ h)
theorem b2L {ops : Array Oper} {rest : List Oper} {o : Oper} {a : Act} {w : World} {Q : Exit → Act → World → Prop} (hgd : Region.wanted o (yielded ops a.tmps) = true) (x y : Operand) (ho : o.op = .buildSlice 42 2 #[(0, x), (1, y)]) (X Y : List Int) (hx : a.eval x = .agg (h8 X)) (hy : a.eval y = .agg (h8 Y)) (hX : X.length = 32) (hY : Y.length = 32)
    (h : wpList Try.prog ops Q rest (a.put o.dst (.slice (some ⟨w.heap.size, 0, none⟩) 2 2)) (w.alloc (.cells (flat32 [X, Y]).toArray 24))) : wpList Try.prog ops Q (o :: rest) a w :=
  wpList_want hgd fun _ hK => wp_bld2 x y ho X Y hx hy hX hY (hK _ _ h)
theorem all2 {A B : List Int} (hA : A.length = 32) (hB : B.length = 32) : ∀ x ∈ [A, B], x.length = 32 := by
  intro x hx
  simp only [List.mem_cons, List.not_mem_nil, or_false] at hx
  rcases hx with rfl | rfl
  · exact hA
  · exact hB
theorem rootAB {A B : List Int} (hA : A.length = 32) (hB : B.length = 32) (w : World) (g : Nat) (hg : g = w.heap.size) : Calls Try.prog 71 #[.int .i64 1, .slice (some ⟨g, 0, none⟩) 2 2] (w.alloc (.cells (flat32 [A, B]).toArray 24)) fun e w' => e = .returned (.tuple #[.agg (h8 (pr A B)), .int .i64 0]) ∧ Below w.heap.size w w' := by
  subst hg
  refine (root_any 1 _ _ 2 2 [A, B] _ (hs_lit (Arr.new w 24 _) (all2 hA hB) rfl (by omega))).mono ?_
  rintro e w' ⟨he, hb⟩
  refine ⟨?_, (alloc_bel' w _).trans (hb.mono (by simp))⟩
  rw [he]
  rfl
theorem proofAB {A B : List Int} (hA : A.length = 32) (hB : B.length = 32) (w : World) (g : Nat) (hg : g = w.heap.size) : Calls Try.prog 77 #[.int .i64 1, .slice (some ⟨g, 0, none⟩) 2 2, .int .i64 1] (w.alloc (.cells (flat32 [A, B]).toArray 24)) fun e w' => ∃ sp cap, e = .returned (.tuple #[.slice sp 1 cap, .int .i64 0]) ∧ Hid (HS w'.heap.size w' sp 1 cap [A]) ∧ Below w.heap.size w w' := by
  subst hg
  refine (proof_ok 1 1 _ _ 2 2 [A, B] _ (by omega) (by decide) (by decide) (hs_lit (Arr.new w 24 _) (all2 hA hB) rfl (by omega))).mono ?_
  rintro e w' ⟨v, he, hown, hb⟩
  obtain ⟨sp, cap, rfl, hH, -⟩ := own_hs hown (ls := [A]) (fun x hx => by simp only [List.mem_singleton] at hx; rw [hx]; exact hA) rfl (by omega)
  exact ⟨sp, cap, he, Hid.mk' hH, (alloc_bel' w _).trans (hb.mono (by simp))⟩
theorem checkAB {A B : List Int} (hA : A.length = 32) (hB : B.length = 32) (w : World) (g : Nat) (hg : g = w.heap.size) : Calls Try.prog 56 #[.agg (h8 (pr A B)), .int .i64 0, .agg (h8 A), .slice (some ⟨g, 0, none⟩) 1 1] (w.alloc (.cells (h8 B) 24)) fun e w' => e = .returned (.bool true) ∧ Below w.heap.size w w' := by
  subst hg
  have hl : Arr (w.alloc (.cells (h8 B) 24)) w.heap.size 24 (flat32 [B]).toArray := by
    have e : (flat32 [B]).toArray = h8 B := by simp [flat32, h8]
    rw [e]; exact Arr.new w 24 _
  refine (check_any (pr A B) 0 A _ _ 1 1 [B] _ (pr_len _ _) hA (hs_lit hl (fun x hx => by simp only [List.mem_singleton] at hx; rw [hx]; exact hB) rfl (by omega))).mono ?_
  rintro e w' ⟨he, hb⟩
  refine ⟨?_, (alloc_bel' w _).trans (hb.mono (by simp))⟩
  rw [he]
  have : ckB (pr A B) 0 A [B] = true := by
    unfold ckB
    apply decide_eq_true
    exact ⟨⟨by simp, by decide, by simp⟩, rfl⟩
  rw [this]
theorem step_want' {P : Program} {ops : Array Oper} {o : Oper} {a : Act} {w : World} {K : Act → World → Prop} {Q : Exit → Act → World → Prop} {E : Prop} (hg : Region.wanted o (yielded ops a.tmps) = true) (h : Oper.wp P o a w K Q) :
    if Region.wanted o (yielded ops a.tmps) = true then Oper.wp P o a w K Q else E := by
  rw [if_pos hg]; exact h
theorem sameA {A : List Int} {N : Nat} {sp : Option Addr} {cap : Nat} {w : World} (hH : HS N w sp 1 cap [A]) (hA : A.length = 32) (g : Nat) (hg : g = w.heap.size) : Calls Try.prog 21 #[.slice sp 1 cap, .slice (some ⟨g, 0, none⟩) 1 1] (w.alloc (.cells (h8 A) 24)) fun e w' => e = .returned (.bool true) ∧ Below w.heap.size w w' := by
  subst hg
  have hl : Arr (w.alloc (.cells (h8 A) 24)) w.heap.size 24 (flat32 [A]).toArray := by
    have e : (flat32 [A]).toArray = h8 A := by simp [flat32, h8]
    rw [e]; exact Arr.new w 24 _
  refine (same_true _ _ sp _ 1 cap 1 [A] _ (hH.here.below (alloc_bel' w _)) (hs_lit hl (fun x hx => by simp only [List.mem_singleton] at hx; rw [hx]; exact hA) rfl (by omega))).mono ?_
  rintro e w' ⟨he, hb⟩
  exact ⟨he, (alloc_bel' w _).trans (hb.mono (by simp))⟩
end Go.Proofs.Ytlebojbfcolkhaa
