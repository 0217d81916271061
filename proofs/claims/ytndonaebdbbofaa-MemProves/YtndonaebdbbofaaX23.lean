/- An, Ba, Cm, ZWf, ZWh, Bz. -/
import Derived.Test.YtndonaebdbbofaaX21
import Derived.Test.YtndonaebdbbofaaX22
import Derived.Test.YtndonaebdbbofaaX16
import Derived.Test.YtndonaebdbbofaaX03
import Derived.Test.YtndonaebdbbofaaX06
import Derived.Test.YtndonaebdbbofaaX13
import Derived.Test.YtndonaebdbbofaaX07
import Derived.BigQuiet
import Derived.BigRegion
import Derived.ChangeKeysEq
import Derived.ChangeOld
import Derived.Deep.DeepCutAuto
import Derived.Deep.DrawnRows
import Derived.Deep.MidRow
import Derived.Deep.QuietTactic
import Derived.Deep.RegionHeld3
import Derived.Deep.RegionLaw
import Derived.Deep.RegionWith
import Derived.Deep.WholeRow
import Derived.Great.BuildSlice
import Derived.Laws.AppendOwnNone
import Derived.Laws.BitsLemmas
import Derived.Laws.BytesArg
import Derived.Laws.CopyOwn
import Derived.Laws.Tables
import Derived.Lib.SlBytesConst
import Derived.LoopIn
import Derived.LoopNIn
import Derived.Maps.AppendAt
import Derived.OpenShut
import Derived.OwnWalkIn
import Derived.ProofKit
import Derived.RangeFuncBound
import Derived.RangeFuncCalls
import Derived.RangeFuncLeaves
import Derived.RangeFuncNested
import Derived.RangeFuncRecord
import Derived.Shelf.Abstract
import Derived.Shelf.RegionOpen
import Derived.ShutString
import Derived.SizedLaws
import Derived.TacticsInMore
import Derived.WalkKit
import Derived.WalkLawsBesides
import Derived.WalkSpells
import Derived.Test.YtndonaebdbbofaaX17
import Derived.Deep.OwnRows
import Derived.DeepKeys3
import Derived.Laws.OwnMore
import Derived.Laws.ResultCell
import Derived.Recover
import Derived.Test.YtndonaebdbbofaaX01
/- Layer mem: like words; the law's own anchor. -/
namespace Go.Proofs.Ytndonaebdbbofaa
open Go.RowKit
set_option maxRecDepth 100000
set_option linter.unusedVariables false
set_option linter.unusedSimpArgs false


set_option maxHeartbeats 1000000 in
theorem sameW_true (N N' : Nat) (sp sp' : Option Addr) (n cap cap' : Nat) (L : List Int) (w : World) (hS : MS N w sp n cap L) (hS' : MS N' w sp' n cap' L) :
    Calls Try.prog 19 #[.slice sp n cap, .slice sp' n cap'] w fun e w' => e = .returned (.bool true) ∧ Below w.heap.size w w' := by
  have hS0 := hS.here
  have hS0' := hS'.here
  have hle := hS.le
  have hle' := hS'.le
  have hsm := hS.small
  have hnn : ((n : Int) != n) = false := by simp
  go_enter Try.func19, Try.ntmps19
  go_wp2_with fail
  go_loopw [5] (fun q wr => ∃ j : Nat, q = .int .i64 (j : Int) ∧ j ≤ n ∧ Below w.heap.size w wr) (fun q _ => n - (intOf q).toNat)
  case atStart => exact ⟨0, rfl, by omega, Below.refl _ _⟩
  case round =>
    obtain ⟨j, rfl, hj, hbl⟩ := hrel
    by_cases hlt : j < n
    · have hI : (j : Int) < n := by omega
      obtain ⟨g, off, rfl, -, hC⟩ := (hS0.below hbl).at0 (by omega)
      obtain ⟨g', off', rfl, -, hC'⟩ := (hS0'.below hbl).at0 (by omega)
      have c1 := hC j hlt
      have c2 := hC' j hlt
      clear hC hC'
      generalize L.getD j 0 = x at *
      have hxx : (x != x) = false := by simp
      have hjc : j < cap := by omega
      have hjc' : j < cap' := by omega
      go_wp2_with fail
      refine wp_region_held_drew (S := fun u => u = wr.drew) (by kernel_rfl) rfl (fun hHeld => ?_)
      refine wpAnyH_take (i := 0) (oi := ⟨_, _, _, _, _, _⟩) (v := ?_) rfl (by kernel_rfl) (by kernel_rfl) (by kernel_rfl) (fun _ _ _ h => h) (Or.inl ⟨by rfl, ?_⟩) (by assumption) ?_
      rotate_left
      · intro u hSw
        go_simp
        try (with_reducible rfl)
      try simp only [Act.put, List.setIfInBounds_toArray, List.set_cons_zero, List.set_cons_succ]
      refine wpAnyH_take (i := 1) (oi := ⟨_, _, _, _, _, _⟩) (v := ?_) rfl (by kernel_rfl) (by kernel_rfl) (by kernel_rfl) (fun _ _ _ h => h) (Or.inl ⟨by rfl, ?_⟩) (by assumption) ?_
      rotate_left
      · intro u hSw
        go_simp
        try (with_reducible rfl)
      try simp only [Act.put, List.setIfInBounds_toArray, List.set_cons_zero, List.set_cons_succ]
      refine wpAnyH_take (i := 2) (oi := ⟨_, _, _, _, _, _⟩) (v := ?_) rfl (by kernel_rfl) (by kernel_rfl) (by kernel_rfl) (fun _ _ _ h => h) (Or.inl ⟨by rfl, ?_⟩) (by assumption) ?_
      rotate_left
      · intro u hSw
        go_simp
        try (with_reducible rfl)
      try simp only [Act.put, List.setIfInBounds_toArray, List.set_cons_zero, List.set_cons_succ]
      refine wpAnyH_take (i := 3) (oi := ⟨_, _, _, _, _, _⟩) (v := ?_) rfl (by kernel_rfl) (by kernel_rfl) (by kernel_rfl) (fun _ _ _ h => h) (Or.inl ⟨by rfl, ?_⟩) (by assumption) ?_
      rotate_left
      · intro u hSw
        subst hSw
        have e1 : wr.drew.cell? ⟨g, off + j, none⟩ = some (.int .u64 x) := c1
        go_simp
        try (with_reducible rfl)
      try simp only [Act.put, List.setIfInBounds_toArray, List.set_cons_zero, List.set_cons_succ]
      refine wpAnyH_take (i := 4) (oi := ⟨_, _, _, _, _, _⟩) (v := ?_) rfl (by kernel_rfl) (by kernel_rfl) (by kernel_rfl) (fun _ _ _ h => h) (Or.inl ⟨by rfl, ?_⟩) (by assumption) ?_
      rotate_left
      · intro u hSw
        go_simp
        try (with_reducible rfl)
      try simp only [Act.put, List.setIfInBounds_toArray, List.set_cons_zero, List.set_cons_succ]
      refine wpAnyH_take (i := 5) (oi := ⟨_, _, _, _, _, _⟩) (v := ?_) rfl (by kernel_rfl) (by kernel_rfl) (by kernel_rfl) (fun _ _ _ h => h) (Or.inl ⟨by rfl, ?_⟩) (by assumption) ?_
      rotate_left
      · intro u hSw
        go_simp
        try (with_reducible rfl)
      try simp only [Act.put, List.setIfInBounds_toArray, List.set_cons_zero, List.set_cons_succ]
      refine wpAnyH_take (i := 6) (oi := ⟨_, _, _, _, _, _⟩) (v := ?_) rfl (by kernel_rfl) (by kernel_rfl) (by kernel_rfl) (fun _ _ _ h => h) (Or.inl ⟨by rfl, ?_⟩) (by assumption) ?_
      rotate_left
      · intro u hSw
        go_simp
        try (with_reducible rfl)
      try simp only [Act.put, List.setIfInBounds_toArray, List.set_cons_zero, List.set_cons_succ]
      refine wpAnyH_take (i := 7) (oi := ⟨_, _, _, _, _, _⟩) (v := ?_) rfl (by kernel_rfl) (by kernel_rfl) (by kernel_rfl) (fun _ _ _ h => h) (Or.inl ⟨by rfl, ?_⟩) (by assumption) ?_
      rotate_left
      · intro u hSw
        subst hSw
        have e2 : wr.drew.cell? ⟨g', off' + j, none⟩ = some (.int .u64 x) := c2
        go_simp
        try (with_reducible rfl)
      try simp only [Act.put, List.setIfInBounds_toArray, List.set_cons_zero, List.set_cons_succ]
      refine wpAnyH_take (i := 8) (oi := ⟨_, _, _, _, _, _⟩) (v := ?_) rfl (by kernel_rfl) (by kernel_rfl) (by kernel_rfl) (fun _ _ _ h => h) (Or.inl ⟨by rfl, ?_⟩) (by assumption) ?_
      rotate_left
      · intro u hSw
        go_simp
        try (with_reducible rfl)
      try simp only [Act.put, List.setIfInBounds_toArray, List.set_cons_zero, List.set_cons_succ]
      refine wpAnyH_done (by kernel_rfl) ?_ _
      go_wp2_with fail
      go_roundw
      case rel => exact ⟨j + 1, by go_num, by omega, hbl.drew⟩
      case measure => simp [intOf]; omega
    · obtain rfl : j = n := by omega
      have hI : ¬ (j : Int) < j := by omega
      go_wp2
      go_ret
      exact ⟨rfl, hbl⟩
theorem ms_lit {w : World} {g n : Nat} {L : List Int} (h : Arr w g 30 (by64 L).toArray) (hn : n = L.length) (hs : n ≤ 1000) : MS w.heap.size w (some ⟨g, 0, none⟩) n n L :=
  MW.ms ⟨_, h, fun t ht => by simpa using by64_get ht⟩ hn (by omega) ⟨Nat.le_refl _, by omega⟩
theorem bs_lit {w : World} {g n : Nat} {L : List Int} (h : Arr w g 5 (by8 L).toArray) (hn : n = L.length) (hs : n ≤ 1000) (hb : Bts L) : BS w.heap.size w (some ⟨g, 0, none⟩) n n L :=
  ⟨hn, (fun e => by cases e), Nat.le_refl _, by omega, by omega, fun _ => ⟨g, 0, rfl, h.lt, by
    obtain ⟨b, off, e, hB⟩ := Arr.sl h (by omega)
    cases e
    rw [hn]
    exact hB⟩, hb⟩
/-- The root of the words 1, 2, and what checks against it. -/
theorem rW12 : rW [1, 2] = pr (lw 1) (lw 2) ∧ eW [1, 2] = 0 := by
  have h := rW_pow (L := [1, 2]) (d := 1) (by omega) rfl
  refine ⟨?_, h.2⟩
  rw [h.1]
  simp [lvs, tr]
theorem ck12 : ckW (pr (lw 1) (lw 2)) 1 2 [lw 1] = true := by
  unfold ckW
  refine decide_eq_true ⟨by simp, by decide, ?_⟩
  simp [fo]
theorem ck13 : ckW (pr (lw 1) (lw 2)) 1 3 [lw 1] = false := by
  unfold ckW
  refine decide_eq_false (fun h => ?_)
  have h2 : pr (lw 1) (lw 3) = pr (lw 1) (lw 2) := by simpa [fo] using h.2.2
  have := lw13_ne
  rw [decide_eq_true h2] at this
  cases this
theorem hs_one {w : World} {g : Nat} {X : List Int} (h : Arr w g 43 (h8 X)) (hX : X.length = 32) : HS w.heap.size w (some ⟨g, 0, none⟩) 1 1 [X] :=
  ⟨rfl, (fun e => by cases e), Nat.le_refl _, by omega, by omega, fun _ => ⟨g, 0, rfl, h.lt, fun i Y hY => by
    cases i with
    | zero => simp at hY; subst hY; simpa using h.range
    | succ i => simp at hY⟩, fun Y hY => by simp at hY; subst hY; exact hX⟩
theorem leaf12 (x : Int) (L : List Int) (hL : e8 x = L) (U : World) (g : Nat) (h : Arr U g 5 (by8 L).toArray) : Calls Try.prog 32 #[.slice (some ⟨g, 0, none⟩) 8 8] U fun e w' => e = .returned (.agg (h8 (lw x))) ∧ Below U.heap.size U w' := by
  subst hL
  exact refLeaf_bs (some ⟨g, 0, none⟩) 8 8 U.heap.size (e8 x) U (bs_lit h (by rw [e8_len]) (by omega) (e8_bts x)) (by omega)
theorem step_wantG {P : Program} {ops : Array Oper} {o : Oper} {a : Act} {w : World} {K : Act → World → Prop} {Q : Exit → Act → World → Prop} {E : Prop} (hg : Region.wanted o (yielded ops a.tmps) = true) (h : Oper.wp P o a w K Q) :
    if Region.wanted o (yielded ops a.tmps) = true then Oper.wp P o a w K Q else E := by
  rw [if_pos hg]; exact h
set_option maxHeartbeats 4000000 in
/-- The anchor holds. -/
theorem anchored_anyM (w : World) : Calls Try.prog 11 #[] w fun e w' => e = .returned (.bool true) ∧ Below w.heap.size w w' := by
  have l1 := fun U g h => leaf12 1 _ e8_1 U g h
  have l2 := fun U g h => leaf12 2 _ e8_2 U g h
  have hrt := fun (U : World) (g : Nat) (h : Arr U g 30 (by64 [1, 2]).toArray) => rootM_any (some ⟨g, 0, none⟩) 2 2 [1, 2] U.heap.size U (ms_lit h rfl (by omega)) (fun k => by
    match k with
    | 0 => simp [U64]
    | 1 => simp [U64]
    | (k + 2) => simp [U64])
  rw [rW12.1, rW12.2] at hrt
  have h1 := lw_len 1
  have h2 := lw_len 2
  have hpr := fun U => refPair_h (lw 1) (lw 2) U h1 h2
  have hP := pr_len (lw 1) (lw 2)
  have hc2 := fun (U : World) (g : Nat) (h : Arr U g 43 (h8 (lw 1))) => checkM_any (pr (lw 1) (lw 2)) 1 2 U.heap.size (some ⟨g, 0, none⟩) 1 1 [lw 1] U hP (by simp [U64]) (hs_one h h1)
  have hc3 := fun (U : World) (g : Nat) (h : Arr U g 43 (h8 (lw 1))) => checkM_any (pr (lw 1) (lw 2)) 1 3 U.heap.size (some ⟨g, 0, none⟩) 1 1 [lw 1] U hP (by simp [U64]) (hs_one h h1)
  rw [ck12] at hc2
  rw [ck13] at hc3
  have hE := run_eq24 hP hP
  rw [decide_eq_true rfl] at hE
  generalize pr (lw 1) (lw 2) = R at *
  generalize lw 1 = X at *
  generalize lw 2 = Y at *
  go_enter Try.func11, Try.ntmps11
  go_upto_region 2 with (first
    | (go_at_call 32; go_must (first
      | (refine (l2 _ w1.heap.size (Arr.new w1 5 _)).mono ?_; rintro e w2 ⟨rfl, hb2⟩; have hB2 := (hB1.alloc hB1.size (.cells (by8 [0, 0, 0, 0, 0, 0, 0, 2]).toArray 5)).trans (hb2.mono (by simp; have := hB1.size; omega)); have Q1 := (Arr.new w2 43 (h8 Z32)).alloc (.cells (h8 Z32) 43); have Q2 := Arr.new (w2.alloc (.cells (h8 Z32) 43)) 43 (h8 Z32); rw [World.size_alloc] at Q2; have hB3 := (hB2.alloc hB2.size (.cells (h8 Z32) 43)).alloc (by have := hB2.size; simp; omega) (.cells (h8 Z32) 43); rw [h8_Z] at Q1 Q2 hB3)
      | (refine (l1 _ w.heap.size (Arr.new w 5 _)).mono ?_; rintro e w1 ⟨rfl, hb1⟩; have hB1 := (alloc_bel' w (.cells (by8 [0, 0, 0, 0, 0, 0, 0, 1]).toArray 5)).trans (hb1.mono (by simp)))))
    | (refine atS 43 (.tmp 1) (.tmp 6) ?_; go_must (refine st24 (by rfl) (.tmp 1) (.tmp 6) (by rfl) w2.heap.size X Z32 (by rfl) (by rfl) h1 Z32_len Q1 ?_))
    | (refine atS 43 (.tmp 2) (.tmp 8) ?_; go_must (refine st24 (by rfl) (.tmp 2) (.tmp 8) (by rfl) (w2.heap.size + 1) Y Z32 (by rfl) (by rfl) h2 Z32_len (Q2.setRowOther _ (by omega)) ?_)))
  have hs2 := hB2.size
  have P1 := (Q1.setRow (h8 X)).setRowOther (k := w2.heap.size + 1) (h8 Y) (by omega)
  have P2 := (Q2.setRowOther (k := w2.heap.size) (h8 X) (by omega)).setRow (h8 Y)
  have hB4 := below_setRow (below_setRow hB3 (g := w2.heap.size) hs2 (h8 X)) (g := w2.heap.size + 1) (by omega) (h8 Y)
  clear Q1 Q2 hB3 l1 l2 hb1 hb2 hB1 hB2
  generalize hW4 : World.setRow _ (w2.heap.size + 1) (h8 Y) = W4 at *
  clear hW4
  generalize hgA : w2.heap.size = gA at *
  clear hgA
  go_upto_region 3 with (first
    | (go_at_call 21; go_must (refine (hrt _ W4.heap.size (Arr.new W4 30 _)).mono ?_; rintro e w5 ⟨rfl, hb5⟩; have hB5 := (hB4.alloc hB4.size (.cells (by64 [1, 2]).toArray 30)).trans (hb5.mono (by simp; have := hB4.size; omega)); have P15 := ((P1.alloc (.cells (by64 [1, 2]).toArray 30)).below hb5 (by have := P1.lt; simp; omega)).alloc (.cells (h8 R) 43); have P25 := ((P2.alloc (.cells (by64 [1, 2]).toArray 30)).below hb5 (by have := P2.lt; simp; omega)).alloc (.cells (h8 R) 43); have P35 := Arr.new w5 43 (h8 R); have hB6 := hB5.alloc hB5.size (.cells (h8 R) 43)))
    | (refine st24n (by rfl) _ _ (by rfl) w5 w5.heap.size rfl (by rfl) R (by rfl) (by rfl) hP ?_))
  clear P1 P2 hB4 hrt hb5
  generalize hV : w5.alloc (.cells (h8 R) 43) = V at *
  clear hV hB5
  generalize hgC : w5.heap.size = gC at *
  clear hgC
  have hVs := hB6.size
  refine wp_region_held_drew (S := fun u => (Arr u gA 43 (h8 X) ∧ Arr u (gA + 1) 43 (h8 Y) ∧ Arr u gC 43 (h8 R)) ∧ Below V.heap.size V u) (by kernel_rfl) ⟨⟨P15, P25, P35⟩, (Below.refl _ _).drew⟩ (fun hHeld => ?_)
  refine wpAnyH_take (i := 0) (oi := ⟨_, _, _, _, _, _⟩) (v := ?_) rfl (by kernel_rfl) (by kernel_rfl) (by kernel_rfl) (fun _ _ _ h => h) (Or.inl ⟨by rfl, ?_⟩) (by assumption) ?_
  rotate_left
  · intro u hSw
    go_simp
    try (with_reducible rfl)
  try simp only [Act.put, List.setIfInBounds_toArray, List.set_cons_zero, List.set_cons_succ]
  refine wpAnyH_take (i := 1) (oi := ⟨_, _, _, _, _, _⟩) (v := ?_) rfl (by kernel_rfl) (by kernel_rfl) (by kernel_rfl) (fun _ _ _ h => h) (Or.inl ⟨by rfl, ?_⟩) (by assumption) ?_
  rotate_left
  · intro u hSw
    go_simp
    try (with_reducible rfl)
  try simp only [Act.put, List.setIfInBounds_toArray, List.set_cons_zero, List.set_cons_succ]
  refine wpAnyH_take (i := 2) (oi := ⟨_, _, _, _, _, _⟩) (v := ?_) rfl (by kernel_rfl) (by kernel_rfl) (by kernel_rfl) (fun _ _ _ h => h) (Or.inl ⟨by rfl, ?_⟩) (by assumption) ?_
  rotate_left
  · intro u hSw
    go_simp
    try (with_reducible rfl)
  try simp only [Act.put, List.setIfInBounds_toArray, List.set_cons_zero, List.set_cons_succ]
  refine wpAnyH_take (i := 3) (oi := ⟨_, _, _, _, _, _⟩) rfl (by kernel_rfl) (by kernel_rfl) (by kernel_rfl) (fun _ _ _ h => h) (y24 (by rfl) (.tmp 3) rfl (gC) (0) rfl R hP (fun u hu => hu.1.2.2.range)) (by assumption) ?_
  try simp only [Act.put, List.setIfInBounds_toArray, List.set_cons_zero, List.set_cons_succ]
  refine wpAnyH_take (i := 4) (oi := ⟨_, _, _, _, _, _⟩) rfl (by kernel_rfl) (by kernel_rfl) (by kernel_rfl) (fun _ _ _ h => h) (y24 (by rfl) (.tmp 1) rfl (gA) (0) rfl X h1 (fun u hu => hu.1.1.range)) (by assumption) ?_
  try simp only [Act.put, List.setIfInBounds_toArray, List.set_cons_zero, List.set_cons_succ]
  refine wpAnyH_take (i := 5) (oi := ⟨_, _, _, _, _, _⟩) rfl (by kernel_rfl) (by kernel_rfl) (by kernel_rfl) (fun _ _ _ h => h) (y24 (by rfl) (.tmp 2) rfl (gA + 1) (0) rfl Y h2 (fun u hu => hu.1.2.1.range)) (by assumption) ?_
  try simp only [Act.put, List.setIfInBounds_toArray, List.set_cons_zero, List.set_cons_succ]
  refine wpAnyH_ready (rs := [6]) (by kernel_rfl) (by simp) ?_
  refine AllReadyH.cons (o := ⟨_, _, _, _, _, _⟩) rfl (fun K hK => ?_) AllReadyH.nil
  go_simp
  refine (hpr _).mono ?_; rintro e u1 ⟨rfl, hb1⟩; have D1 : Below V.heap.size V u1 := ((Below.refl _ _).drew).trans (hb1.mono (by simp))
  go_wp2_with fail
  refine hK.out _ _ ⟨⟨P15.below D1 P15.lt, P25.below D1 P25.lt, P35.below D1 P35.lt⟩, D1⟩ (fun hHeld => ?_)
  clear hK K
  try simp only [Act.put, List.setIfInBounds_toArray, List.set_cons_zero, List.set_cons_succ]
  refine wpAnyH_take (i := 7) (oi := ⟨_, _, _, _, _, _⟩) (v := ?_) rfl (by kernel_rfl) (by kernel_rfl) (by kernel_rfl) (fun _ _ _ h => h) (Or.inl ⟨by rfl, ?_⟩) (by assumption) ?_
  rotate_left
  · intro u hSw
    go_simp
    try (with_reducible rfl)
  try simp only [Act.put, List.setIfInBounds_toArray, List.set_cons_zero, List.set_cons_succ]
  refine wpAnyH_take (i := 8) (oi := ⟨_, _, _, _, _, _⟩) (v := ?_) rfl (by kernel_rfl) (by kernel_rfl) (by kernel_rfl) (fun _ _ _ h => h) (Or.inl ⟨by rfl, ?_⟩) (by assumption) ?_
  rotate_left
  · intro u hSw
    go_simp
    try (with_reducible rfl)
  try simp only [Act.put, List.setIfInBounds_toArray, List.set_cons_zero, List.set_cons_succ]
  refine wpAnyH_take (i := 9) (oi := ⟨_, _, _, _, _, _⟩) (v := ?_) rfl (by kernel_rfl) (by kernel_rfl) (by kernel_rfl) (fun _ _ _ h => h) (Or.inl ⟨by rfl, ?_⟩) (by assumption) ?_
  rotate_left
  · intro u hSw
    go_simp
    try (with_reducible rfl)
  try simp only [Act.put, List.setIfInBounds_toArray, List.set_cons_zero, List.set_cons_succ]
  refine wpAnyH_take (i := 10) (oi := ⟨_, _, _, _, _, _⟩) rfl (by kernel_rfl) (by kernel_rfl) (by kernel_rfl) (fun _ _ _ h => h) (y24 (by rfl) (.tmp 3) rfl (gC) (0) rfl R hP (fun u hu => hu.1.2.2.range)) (by assumption) ?_
  try simp only [Act.put, List.setIfInBounds_toArray, List.set_cons_zero, List.set_cons_succ]
  refine wpAnyH_take (i := 11) (oi := ⟨_, _, _, _, _, _⟩) rfl (by kernel_rfl) (by kernel_rfl) (by kernel_rfl) (fun _ _ _ h => h) (y24 (by rfl) (.tmp 1) rfl (gA) (0) rfl X h1 (fun u hu => hu.1.1.range)) (by assumption) ?_
  try simp only [Act.put, List.setIfInBounds_toArray, List.set_cons_zero, List.set_cons_succ]
  refine wpAnyH_ready (rs := [12]) (by kernel_rfl) (by simp) ?_
  refine AllReadyH.cons (o := ⟨_, _, _, _, _, _⟩) rfl (fun K hK => ?_) AllReadyH.nil
  refine step_wantG (by rfl) (wp_bld1 (.tmp 25) rfl X rfl h1 ?_)
  have D2 := D1.alloc D1.size (.cells (h8 X) 43)
  refine hK.out _ _ ⟨⟨P15.below D2 P15.lt, P25.below D2 P25.lt, P35.below D2 P35.lt⟩, D2⟩ (fun hHeld => ?_)
  clear hK K
  try simp only [Act.put, List.setIfInBounds_toArray, List.set_cons_zero, List.set_cons_succ]
  refine wpAnyH_ready (rs := [13]) (by kernel_rfl) (by simp) ?_
  refine AllReadyH.cons (o := ⟨_, _, _, _, _, _⟩) rfl (fun K hK => ?_) AllReadyH.nil
  go_simp
  refine (hc2 _ u1.heap.size (Arr.new u1 43 _)).mono ?_; rintro e u3 ⟨rfl, hb3⟩; have D3 := D2.trans (hb3.mono D2.size)
  go_wp2_with fail
  refine hK.out _ _ ⟨⟨P15.below D3 P15.lt, P25.below D3 P25.lt, P35.below D3 P35.lt⟩, D3⟩ (fun hHeld => ?_)
  clear hK K
  try simp only [Act.put, List.setIfInBounds_toArray, List.set_cons_zero, List.set_cons_succ]
  refine wpAnyH_take (i := 14) (oi := ⟨_, _, _, _, _, _⟩) (v := ?_) rfl (by kernel_rfl) (by kernel_rfl) (by kernel_rfl) (fun _ _ _ h => h) (Or.inl ⟨by rfl, ?_⟩) (by assumption) ?_
  rotate_left
  · intro u hSw
    go_simp
    try (with_reducible rfl)
  try simp only [Act.put, List.setIfInBounds_toArray, List.set_cons_zero, List.set_cons_succ]
  refine wpAnyH_take (i := 15) (oi := ⟨_, _, _, _, _, _⟩) (v := ?_) rfl (by kernel_rfl) (by kernel_rfl) (by kernel_rfl) (fun _ _ _ h => h) (Or.inl ⟨by rfl, ?_⟩) (by assumption) ?_
  rotate_left
  · intro u hSw
    go_simp
    try (with_reducible rfl)
  try simp only [Act.put, List.setIfInBounds_toArray, List.set_cons_zero, List.set_cons_succ]
  refine wpAnyH_take (i := 16) (oi := ⟨_, _, _, _, _, _⟩) rfl (by kernel_rfl) (by kernel_rfl) (by kernel_rfl) (fun _ _ _ h => h) (y24 (by rfl) (.tmp 3) rfl (gC) (0) rfl R hP (fun u hu => hu.1.2.2.range)) (by assumption) ?_
  try simp only [Act.put, List.setIfInBounds_toArray, List.set_cons_zero, List.set_cons_succ]
  refine wpAnyH_take (i := 17) (oi := ⟨_, _, _, _, _, _⟩) rfl (by kernel_rfl) (by kernel_rfl) (by kernel_rfl) (fun _ _ _ h => h) (y24 (by rfl) (.tmp 1) rfl (gA) (0) rfl X h1 (fun u hu => hu.1.1.range)) (by assumption) ?_
  try simp only [Act.put, List.setIfInBounds_toArray, List.set_cons_zero, List.set_cons_succ]
  refine wpAnyH_ready (rs := [18]) (by kernel_rfl) (by simp) ?_
  refine AllReadyH.cons (o := ⟨_, _, _, _, _, _⟩) rfl (fun K hK => ?_) AllReadyH.nil
  refine step_wantG (by rfl) (wp_bld1 (.tmp 31) rfl X rfl h1 ?_)
  have D4 := D3.alloc D3.size (.cells (h8 X) 43)
  refine hK.out _ _ ⟨⟨P15.below D4 P15.lt, P25.below D4 P25.lt, P35.below D4 P35.lt⟩, D4⟩ (fun hHeld => ?_)
  clear hK K
  try simp only [Act.put, List.setIfInBounds_toArray, List.set_cons_zero, List.set_cons_succ]
  refine wpAnyH_ready (rs := [19]) (by kernel_rfl) (by simp) ?_
  refine AllReadyH.cons (o := ⟨_, _, _, _, _, _⟩) rfl (fun K hK => ?_) AllReadyH.nil
  go_simp
  refine (hc3 _ u3.heap.size (Arr.new u3 43 _)).mono ?_; rintro e u5 ⟨rfl, hb5⟩; have D5 := D4.trans (hb5.mono D4.size)
  go_wp2_with fail
  refine hK.out _ _ ⟨⟨P15.below D5 P15.lt, P25.below D5 P25.lt, P35.below D5 P35.lt⟩, D5⟩ (fun hHeld => ?_)
  clear hK K
  try simp only [Act.put, List.setIfInBounds_toArray, List.set_cons_zero, List.set_cons_succ]
  refine wpAnyH_take (i := 20) (oi := ⟨_, _, _, _, _, _⟩) (v := ?_) rfl (by kernel_rfl) (by kernel_rfl) (by kernel_rfl) (fun _ _ _ h => h) (Or.inl ⟨by rfl, ?_⟩) (by assumption) ?_
  rotate_left
  · intro u hSw
    go_simp
    try (with_reducible rfl)
  try simp only [Act.put, List.setIfInBounds_toArray, List.set_cons_zero, List.set_cons_succ]
  refine wpAnyH_take (i := 21) (oi := ⟨_, _, _, _, _, _⟩) (v := ?_) rfl (by kernel_rfl) (by kernel_rfl) (by kernel_rfl) (fun _ _ _ h => h) (Or.inl ⟨by rfl, ?_⟩) (by assumption) ?_
  rotate_left
  · intro u hSw
    go_simp
    try (with_reducible rfl)
  try simp only [Act.put, List.setIfInBounds_toArray, List.set_cons_zero, List.set_cons_succ]
  refine wpAnyH_take (i := 22) (oi := ⟨_, _, _, _, _, _⟩) (v := ?_) rfl (by kernel_rfl) (by kernel_rfl) (by kernel_rfl) (fun _ _ _ h => h) (Or.inl ⟨by rfl, ?_⟩) (by assumption) ?_
  rotate_left
  · intro u hSw
    go_simp
    try (with_reducible rfl)
  try simp only [Act.put, List.setIfInBounds_toArray, List.set_cons_zero, List.set_cons_succ]
  refine wpAnyH_done (by kernel_rfl) ?_ _
  go_wp2_with fail
  go_ret
  exact ⟨rfl, hB6.trans (D5.mono hVs)⟩
end Go.Proofs.Ytndonaebdbbofaa
/- The law MemNil. -/
namespace Go.Proofs.Ytndonaebdbbofaa
open Go.RowKit
set_option maxRecDepth 100000
set_option linter.unusedVariables false
set_option linter.unusedSimpArgs false


set_option maxHeartbeats 1000000 in
theorem nil_walk (x : Int) (w : World) : Calls Try.prog 4 #[.int .u64 x] w fun e w' => e = .returned (.bool true) ∧ Below w.heap.size w w' := by
  have hE := run_eq24 Z32_len Z32_len
  rw [decide_eq_true rfl] at hE
  have hr := fun w => root_nil w
  rw [h8_Z] at hE hr
  go_enter Try.func4, Try.ntmps4
  go_wp2_with (first
    | (go_at_call 12; go_must (refine (get_nil x _).mono ?_; rintro e w1 ⟨rfl, h⟩; replace h := h.symm; subst h))
    | (go_at_call 14; go_must (refine (prove_nil x _).mono ?_; rintro e w1 ⟨rfl, h⟩; replace h := h.symm; subst h))
    | (go_at_call 13; go_must (refine (set_nil x 1 _).mono ?_; rintro e w1 ⟨rfl, h⟩; replace h := h.symm; subst h))
    | (go_at_call 18; go_must (refine (hr _).mono ?_; rintro e w2 ⟨rfl, hb2⟩))
    | (go_at_call 20; go_must (refine (words_nil _).mono ?_; rintro e w1 ⟨rfl, h⟩; replace h := h.symm; subst h))
    | (go_at_call 11; go_must (refine (anchored_anyM _).mono ?_; rintro e w3 ⟨rfl, hb3⟩)))
  go_ret
  exact ⟨rfl, hb2.trans (hb3.mono hb2.size)⟩
end Go.Proofs.Ytndonaebdbbofaa
/- Layer mem: what the layers below give. -/
namespace Go.Proofs.Ytndonaebdbbofaa
open Go.ChangeAt Go.ChangeShapes Go.RowKit Go.WideShapes
set_option maxRecDepth 100000
set_option linter.unusedVariables false
set_option linter.unusedSimpArgs false

theorem exists_list {α : Type} {P : Nat → α → Prop} : ∀ (n : Nat), (∀ i, i < n → ∃ a, P i a) → ∃ l : List α, l.length = n ∧ ∀ i a, l[i]? = some a → P i a
  | 0, _ => ⟨[], rfl, fun i a h => by simp at h⟩
  | n + 1, h => by
    obtain ⟨l, hl, hP⟩ := exists_list n (fun i hi => h i (by omega))
    obtain ⟨a, ha⟩ := h n (by omega)
    refine ⟨l ++ [a], by simp [hl], fun i b hb => ?_⟩
    by_cases hi : i < n
    · rw [List.getElem?_append_left (by omega)] at hb; exact hP i b hb
    · rw [List.getElem?_append_right (by omega)] at hb
      have : i - l.length = 0 := by have := (List.getElem?_eq_some_iff.1 hb).1; simp at this; omega
      rw [this] at hb
      simp at hb
      subst hb
      obtain rfl : i = n := by omega
      exact ha
/-- Nothing in it is greater than the reach. -/
def Small {H : Type} (t : TypeId) (d : DataW H) : Prop := ∀ n ∈ d.weights Try.prog t, n ≤ reachBytes
theorem bts_wf {L : List Int} (h : ∀ x ∈ L, (Lit.int .u8 x).wf = true) : Bts L := fun x hx => by
  have h1 := h x hx
  have hmin : IntKind.u8.min = 0 := rfl
  have hmax : IntKind.u8.max = 255 := rfl
  simp only [Lit.wf, Bool.and_eq_true, decide_eq_true_eq] at h1
  omega
theorem cells5 : Try.prog.cellsOf 5 = 1 := by kernel_rfl
theorem cells29 : Try.prog.cellsOf 43 = 32 := by kernel_rfl
theorem bytes29 : Try.prog.bytesOf 43 = 32 := by kernel_rfl
section
variable {H : Type} {enc : TypeId × Value → H} {W : World} {base : Nat}

theorem h_of_trod {fuel : Nat} {cs : List Value} {x : DataW H × List MemPlace} (h : DataW.trod enc Try.prog W base (fun _ => true) true fuel 43 cs = some x) : ∃ X : List Int, X.length = 32 ∧ Bts X ∧ cs = by8 X := by
  obtain ⟨xs, m, -, hx, hl, hxs, hi⟩ := DataW.trod_array Try.underlying43 h
  rw [cells29] at hl
  have key : ∀ i, i < 32 → ∃ z, cs[i]? = some (.int .u8 z) ∧ (Lit.int .u8 z).wf = true := fun i hin => by
    have := hi i hin
    rw [List.getElem?_eq_getElem (by omega), cells5] at this
    obtain ⟨z, hz, -, hw⟩ := DataW.trod_int Try.underlying5 this
    refine ⟨z, ?_, hw⟩
    simp only [Nat.mul_one] at hz
    have h2 : (List.take 1 (List.drop i cs))[0]? = some (.int .u8 z) := by rw [hz]; rfl
    simpa using h2
  refine ⟨cs.map fun v => match v with | .int _ z => z | _ => 0, by simp [hl], bts_wf fun y hy => ?_, ?_⟩
  · obtain ⟨v, hv, rfl⟩ := List.mem_map.1 hy
    obtain ⟨i, hin, rfl⟩ := List.mem_iff_getElem.1 hv
    obtain ⟨z, hz, hw⟩ := key i (by omega)
    rw [List.getElem?_eq_getElem hin] at hz
    rw [Option.some.inj hz]; exact hw
  · apply List.ext_getElem?
    intro i
    by_cases hin : i < 32
    · obtain ⟨z, hz, -⟩ := key i hin
      simp [by8, hz]
    · rw [List.getElem?_eq_none (by omega), List.getElem?_eq_none (by rw [by8_len]; simp; omega)]
/-- The cells at an address. -/
theorem cells_at {a : Addr} {k : Nat} {cs : List Value} (hk : 0 < k) (h : W.cells? base a k = some cs) : ∃ b off, a = ⟨b, off, none⟩ ∧ W.rangeAt b off cs := by
  obtain ⟨-, hl, hc⟩ := World.cells?_some h
  have h0 := hc 0 hk
  have h0' : ∃ v, cs[0]? = some v := by
    cases cs with
    | nil => simp at hl; omega
    | cons x r => exact ⟨x, rfl⟩
  obtain ⟨v0, hv0⟩ := h0'
  rw [hv0] at h0
  obtain ⟨b, off, spot⟩ := a
  have hspot : spot = none := by simpa [Addr.add] using World.cell?_spot h0
  subst hspot
  refine ⟨b, off, rfl, fun j v hv => ?_⟩
  have hj : j < k := by have := (List.getElem?_eq_some_iff.1 hv).1; omega
  have := hc j hj
  rw [Addr.add_mid] at this
  rw [this]; exact hv
set_option maxRecDepth 100000 in
theorem hs_of_trod {fuel : Nat} {cs : List Value} {x : DataW H × List MemPlace} (h : DataW.trod enc Try.prog W base (fun _ => true) true fuel 36 cs = some x) (hs : Small 36 x.1) :
    ∃ sp n cap ls, cs = [.slice sp n cap] ∧ HS W.heap.size W sp n cap ls ∧ ∀ X ∈ ls, Bts X := by
  rcases DataW.trod_slice Try.underlying36 h with ⟨rfl, -⟩ | ⟨a, len, cap, elems, rest, n, rfl, rfl, rfl, hb, hlc, hm, hlen, hel, hsp, -⟩
  · exact ⟨none, 0, 0, [], rfl, HS.nil0 _ _, fun X hX => by cases hX⟩
  · obtain ⟨hrl, -⟩ := hsp rfl
    have hr := hs ((elems.length + rest.length) * 32) (by simp [DataW.weights, Try.underlying36, bytes29])
    simp only [reachBytes] at hr
    have hstep : ∀ i, i < len → ∃ g off, ∃ X : List Int, a.add (i * 32) = ⟨g, off, none⟩ ∧ X.length = 32 ∧ Bts X ∧ W.rangeAt g off (by8 X) := fun i hi => by
      have h1 := hel i hi
      rw [cells29, List.getElem?_eq_getElem (by omega), Option.bind_eq_some_iff] at h1
      obtain ⟨cs, hcs, ht⟩ := h1
      obtain ⟨g, off, e, hR⟩ := cells_at (by omega) hcs
      obtain ⟨X, hX, bX, rfl⟩ := h_of_trod ht
      exact ⟨g, off, X, e, hX, bX, hR⟩
    by_cases h0 : 0 < len
    · obtain ⟨g, off, -, e, -⟩ := hstep 0 h0
      have ha : a = ⟨g, off, none⟩ := by simpa [Addr.add] using e
      subst ha
      obtain ⟨l, hl, hP⟩ := exists_list (P := fun i (X : List Int) => X.length = 32 ∧ Bts X ∧ W.rangeAt g (off + i * 32) (by8 X)) len (fun i hi => by
        obtain ⟨g', off', X, e', h1, ho⟩ := hstep i hi
        rw [Addr.add_mid] at e'
        cases e'
        exact ⟨X, h1, ho⟩)
      refine ⟨some ⟨g, off, none⟩, len, cap, l, rfl, ⟨show _ = _ by simp [hl], (fun e => by cases e), hlc, by unfold maxLen at hm; omega, by omega, fun _ => ⟨g, off, rfl, ?_, fun i X hX => (hP i X hX).2.2⟩, fun X hX => ?_⟩, fun X hX => ?_⟩
      · obtain ⟨X, hX⟩ : ∃ X, l[0]? = some X := ⟨l[0], List.getElem?_eq_getElem (by omega)⟩
        have h32 := (hP 0 X hX).1
        exact block_lt_of_cell ((hP 0 X hX).2.2 0 _ (by8_get (by omega)))
      · obtain ⟨i, hi⟩ := List.mem_iff_getElem?.1 hX
        exact (hP i X hi).1
      · obtain ⟨i, hi⟩ := List.mem_iff_getElem?.1 hX
        exact (hP i X hi).2.1
    · obtain rfl : len = 0 := by omega
      exact ⟨some a, 0, cap, [], rfl, ⟨rfl, (fun e => by cases e), by omega, by unfold maxLen at hm; omega, by omega, fun h => by omega, fun X hX => by cases hX⟩, fun X hX => by cases hX⟩
end
end Go.Proofs.Ytndonaebdbbofaa
/- Layer mem: what the layers below give. -/
namespace Go.Proofs.Ytndonaebdbbofaa
open Go.ChangeAt Go.ChangeShapes Go.RowKit Go.WideShapes
set_option maxRecDepth 100000
set_option linter.unusedVariables false
set_option linter.unusedSimpArgs false

theorem u64_wfV {z : Int} (h : (Lit.int .u64 z).wf = true) : U64 z := by
  have h1 : IntKind.u64.min = 0 := rfl
  have h2 : IntKind.u64.max = 18446744073709551615 := rfl
  simp only [Lit.wf, Bool.and_eq_true, decide_eq_true_eq] at h
  unfold U64
  omega
theorem u8_wf {z : Int} (h : (Lit.int .u8 z).wf = true) : 0 ≤ z ∧ z < 256 := by
  have h1 : IntKind.u8.min = 0 := rfl
  have h2 : IntKind.u8.max = 255 := rfl
  simp only [Lit.wf, Bool.and_eq_true, decide_eq_true_eq] at h
  omega
theorem getD_u {L : List Int} (h : ∀ y ∈ L, U64 y) (k : Nat) : U64 (L.getD k 0) := by
  rw [List.getD_eq_getElem?_getD]
  by_cases hk : k < L.length
  · rw [List.getElem?_eq_getElem hk]; exact h _ (List.getElem_mem hk)
  · rw [List.getElem?_eq_none (by omega)]; simp [U64]
theorem bytes26 : Try.prog.bytesOf 30 = 8 := by kernel_rfl
theorem cells26V : Try.prog.cellsOf 30 = 1 := by kernel_rfl
theorem cells41 : Try.prog.cellsOf 58 = 16 := by kernel_rfl
theorem cells42 : Try.prog.cellsOf 59 = 1 := by kernel_rfl
theorem cells43 : Try.prog.cellsOf 22 = 1 := by kernel_rfl
theorem cells45 : Try.prog.cellsOf 61 = 19 := by kernel_rfl
section
variable {H : Type} {enc : TypeId × Value → H} {W : World} {base : Nat}
theorem ws_of_trod {fuel : Nat} {cs : List Value} {x : DataW H × List MemPlace} (h : DataW.trod enc Try.prog W base (fun _ => true) true fuel 22 cs = some x) (hs : Small 22 x.1) :
    ∃ sp n cap L, cs = [.slice sp n cap] ∧ MS W.heap.size W sp n cap L ∧ ∀ k, U64 (L.getD k 0) := by
  rcases open_ints Try.underlying22 Try.underlying30 (by kernel_rfl) h with ⟨rfl, _⟩ | ⟨a, len, cap, zs, rfl, _, hl, hm, hz, rfl, hcell, hwz⟩
  · exact ⟨none, 0, 0, [], rfl, MS.nil0 _ _, fun k => by simp [U64]⟩
  · have hz' : zs.length = cap := by simpa using hz
    have hr := hs (((zs.take len).length + (zs.drop len).length) * 8) (by simp [DataW.weights, Try.underlying22, bytes26, lits])
    simp only [List.length_take, List.length_drop, reachBytes] at hr
    refine ⟨some a, len, cap, zs.take len, rfl, ⟨show _ = _ by simp; omega, (fun e => by cases e), hl, by unfold maxLen at hm; omega, by omega, fun h0 => ?_⟩, getD_u fun y hy => u64_wfV (hwz y (List.mem_of_mem_take hy))⟩
    obtain ⟨b, off, rfl, hc⟩ := ints_at hcell (by omega)
    refine ⟨b, off, rfl, block_lt_of_cell (hc 0 (by omega)), fun t ht => ?_⟩
    rw [hc t (by omega)]
    simp [List.getElem?_take_of_lt ht]
theorem rg_of_trod {fuel : Nat} {cs : List Value} {x : DataW H × List MemPlace} (h : DataW.trod enc Try.prog W base (fun _ => true) true fuel 58 cs = some x) : ∃ X : List Int, X.length = 16 ∧ (∀ y ∈ X, U64 y) ∧ cs = by64 X := by
  obtain ⟨xs, m, -, hx, hl, hxs, hi⟩ := DataW.trod_array Try.underlying58 h
  rw [cells41] at hl
  have key : ∀ i, i < 16 → ∃ z, cs[i]? = some (.int .u64 z) ∧ (Lit.int .u64 z).wf = true := fun i hin => by
    have := hi i hin
    rw [List.getElem?_eq_getElem (by omega), cells26V] at this
    obtain ⟨z, hz, -, hw⟩ := DataW.trod_int Try.underlying30 this
    refine ⟨z, ?_, hw⟩
    simp only [Nat.mul_one] at hz
    have h2 : (List.take 1 (List.drop i cs))[0]? = some (.int .u64 z) := by rw [hz]; rfl
    simpa using h2
  refine ⟨cs.map fun v => match v with | .int _ z => z | _ => 0, by simp [hl], fun y hy => ?_, ?_⟩
  · obtain ⟨v, hv, rfl⟩ := List.mem_map.1 hy
    obtain ⟨i, hin, rfl⟩ := List.mem_iff_getElem.1 hv
    obtain ⟨z, hz, hw⟩ := key i (by omega)
    rw [List.getElem?_eq_getElem hin] at hz
    rw [Option.some.inj hz]; exact u64_wfV hw
  · apply List.ext_getElem?
    intro i
    by_cases hin : i < 16
    · obtain ⟨z, hz, -⟩ := key i hin
      simp [by64, hz]
    · rw [List.getElem?_eq_none (by omega), List.getElem?_eq_none (by rw [by64_len]; simp; omega)]
theorem list_parts {cs : List Value} (hl : cs.length = 19) : cs = List.take 1 cs ++ (List.take 16 (List.drop 1 cs) ++ (List.take 1 (List.drop 17 cs) ++ List.take 1 (List.drop 18 cs))) := by
  rw [List.take_of_length_le (l := List.drop 18 cs) (by rw [List.length_drop]; omega), show List.drop 18 cs = List.drop 1 (List.drop 17 cs) by rw [List.drop_drop], List.take_append_drop, show List.drop 17 cs = List.drop 16 (List.drop 1 cs) by rw [List.drop_drop], List.take_append_drop, List.take_append_drop]
set_option maxRecDepth 100000 in
theorem mc_of_trod {fuel : Nat} {cs : List Value} {x : DataW H × List MemPlace} (h : DataW.trod enc Try.prog W base (fun _ => true) true fuel 61 cs = some x) (hs : Small 61 x.1) :
    ∃ m sp n cap, cs = mcL m (.slice sp n cap) ∧ m.ok ∧ MS W.heap.size W sp n cap m.me := by
  obtain ⟨xs, n, rfl, rfl, hl, hxl, hf⟩ := DataW.trod_struct Try.underlying61 h
  rw [cells45] at hl
  simp at hxl
  match xs, hxl with
  | [x0, x1, x2, x3], _ =>
  have f0 := hf 0 _ rfl
  have f1 := hf 1 _ rfl
  have f2 := hf 2 _ rfl
  have f3 := hf 3 _ rfl
  simp [cells26V, cells41, cells42, cells43] at f0 f1 f2 f3
  have s3 : Small 22 x3.1 := fun m hm => hs m (by simp [DataW.weights, Try.underlying61, DataW.weightsEach, hm])
  obtain ⟨pc, e0, -, w0⟩ := DataW.trod_int Try.underlying30 f0
  obtain ⟨X, hX, hU, e1⟩ := rg_of_trod f1
  obtain ⟨st, e2, -, w2⟩ := DataW.trod_int Try.underlying59 f2
  obtain ⟨sp, k, cap, L, e3, hM, hUm⟩ := ws_of_trod f3 s3
  refine ⟨⟨pc, X, st, L⟩, sp, k, cap, ?_, ⟨u64_wfV w0, hX, getD_u hU, u8_wf w2, hUm⟩, hM⟩
  rw [list_parts hl, e0, List.drop_one, e1, e2, e3]
  rfl
/-- A MACHINE THAT CAME IN. -/
theorem open_machine {b0 : Nat} {v : Value} {d : DataW H} {p : List MemPlace} {ts : List TypeId} {ds : List (DataW H)} {j : Nat}
    (hv : Value.okWide Try.prog W .any b0 61 v) (h : DataW.Trod enc Try.prog W base (fun _ => true) true 61 v d p)
    (hsz : (DataW.weightsEach Try.prog ts ds).all (· ≤ reachBytes) = true) (ht : ts[j]? = some 61) (hd : ds[j]? = some d) :
    ∃ m C, v = .agg C ∧ MVV W m C := by
  unfold Value.okWide at hv
  rw [Try.underlying61] at hv
  obtain ⟨cs, rfl, hc, -⟩ := hv
  obtain ⟨fuel, hf⟩ := h
  have hs : Small 61 d := fun n hn => by
    have := List.all_eq_true.1 hsz n (DataW.weights_mem_each ht hd n hn)
    simpa using this
  obtain ⟨m, sp, n, cap, e, hok, hM⟩ := mc_of_trod (x := (d, p)) hf hs
  refine ⟨m, cs, rfl, ⟨sp, n, cap, ?_, hM⟩, hok⟩
  apply Array.toList_inj.1
  exact e
end
end Go.Proofs.Ytndonaebdbbofaa
/- Layer mem: what the layers below give. -/
namespace Go.Proofs.Ytndonaebdbbofaa
open Go.ChangeAt Go.ChangeShapes Go.RowKit Go.WideShapes
set_option maxRecDepth 100000
set_option linter.unusedVariables false
set_option linter.unusedSimpArgs false

section
variable {H : Type} {enc : TypeId × Value → H} {W : World} {base : Nat}
/-- WORDS THAT CAME IN. -/
theorem open_words {b0 : Nat} {v : Value} {d : DataW H} {p : List MemPlace} {ts : List TypeId} {ds : List (DataW H)} {j : Nat}
    (hv : Value.okWide Try.prog W .any b0 22 v) (h : DataW.Trod enc Try.prog W base (fun _ => true) true 22 v d p)
    (hsz : (DataW.weightsEach Try.prog ts ds).all (· ≤ reachBytes) = true) (ht : ts[j]? = some 22) (hd : ds[j]? = some d) :
    ∃ sq k cq L, v = .slice sq k cq ∧ MS W.heap.size W sq k cq L ∧ ∀ t, U64 (L.getD t 0) := by
  obtain ⟨a0, len0, cap0, rfl⟩ := okWide_slice Try.underlying22 hv
  obtain ⟨fuel, hf⟩ := h
  have hs : Small 22 d := fun n hn => by
    have := List.all_eq_true.1 hsz n (DataW.weights_mem_each ht hd n hn)
    simpa using this
  obtain ⟨sq, k, cq, fs, e, hi, hu⟩ := ws_of_trod (x := (d, p)) hf hs
  simp [Value.cells] at e
  obtain ⟨rfl, rfl, rfl⟩ := e
  exact ⟨_, _, _, fs, rfl, hi, hu⟩
end
end Go.Proofs.Ytndonaebdbbofaa
/- Layer mem: what came in. -/
namespace Go.Proofs.Ytndonaebdbbofaa
open Go.RowKit
set_option maxRecDepth 100000
set_option linter.unusedVariables false
set_option linter.unusedSimpArgs false


open Go.ChangeAt Go.ChangeShapes Go.RowKit Go.WideShapes
/-- A call of a script: which, where, what. -/
structure Sc where
  c : Int
  a : Int
  v : Int
def Sc.cells (o : Sc) : List Value := [.int .u8 o.c, .int .u64 o.a, .int .u64 o.v]
/-- A script in memory. -/
structure SC (N : Nat) (w : World) (sp : Option Addr) (n cap : Nat) (os : List Sc) : Prop where
  len : Hid (n = os.length)
  nil : sp = none → n = 0 ∧ cap = 0
  le : n ≤ cap
  big : cap ≤ 9223372036854775807
  small : n ≤ 140737488355328
  at0 : 0 < n → ∃ g off, sp = some ⟨g, off, none⟩ ∧ g < N ∧ ∀ i o, os[i]? = some o → w.rangeAt g (off + i * 3) o.cells
  ok : ∀ o ∈ os, U64 o.a ∧ U64 o.v ∧ 0 ≤ o.c ∧ o.c < 256
theorem SC.below {N : Nat} {w w' : World} {sp : Option Addr} {n cap : Nat} {os : List Sc} (h : SC N w sp n cap os) (hb : Below N w w') : SC N w' sp n cap os :=
  ⟨h.len, h.nil, h.le, h.big, h.small, fun h0 => let ⟨b, off, e, hbN, hB⟩ := h.at0 h0; ⟨b, off, e, hbN, fun i X hX => range_below (hB i X hX) hb hbN⟩, h.ok⟩
theorem cells32 : Try.prog.cellsOf 32 = 3 := by kernel_rfl
theorem bytes32 : Try.prog.bytesOf 32 = 24 := by kernel_rfl
theorem cells30 : Try.prog.cellsOf 30 = 1 := by kernel_rfl
theorem cells52 : Try.prog.cellsOf 52 = 35 := by kernel_rfl
theorem cells36 : Try.prog.cellsOf 36 = 1 := by kernel_rfl
theorem cellsH : Try.prog.cellsOf 43 = 32 := by kernel_rfl
section
variable {H : Type} {enc : TypeId × Value → H} {W : World} {base : Nat}
set_option maxRecDepth 100000 in
theorem sc_of_trod {fuel : Nat} {cs : List Value} {x : DataW H × List MemPlace} (h : DataW.trod enc Try.prog W base (fun _ => true) true fuel 32 cs = some x) :
    ∃ o : Sc, cs = o.cells ∧ U64 o.a ∧ U64 o.v ∧ 0 ≤ o.c ∧ o.c < 256 := by
  obtain ⟨xs, n, rfl, rfl, hl, hxl, hf⟩ := DataW.trod_struct Try.underlying32 h
  rw [cells32] at hl
  simp at hxl
  match xs, hxl with
  | [x0, x1, x2], _ =>
  have f0 := hf 0 _ rfl
  have f1 := hf 1 _ rfl
  have f2 := hf 2 _ rfl
  simp [cells30, cells5] at f0 f1 f2
  obtain ⟨c, e0, -, w0⟩ := DataW.trod_int Try.underlying5 f0
  obtain ⟨a, e1, -, w1⟩ := DataW.trod_int Try.underlying30 f1
  obtain ⟨v, e2, -, w2⟩ := DataW.trod_int Try.underlying30 f2
  refine ⟨⟨c, a, v⟩, ?_, u64_wfV w1, u64_wfV w2, (u8_wf w0).1, (u8_wf w0).2⟩
  match cs, hl with
  | [c0, c1, c2], _ =>
    simp at e0 e1 e2
    subst e0 e1 e2
    rfl
set_option maxRecDepth 100000 in
theorem scs_of_trod {fuel : Nat} {cs : List Value} {x : DataW H × List MemPlace} (h : DataW.trod enc Try.prog W base (fun _ => true) true fuel 23 cs = some x) (hs : Small 23 x.1) :
    ∃ sq k cq es, cs = [.slice sq k cq] ∧ SC W.heap.size W sq k cq es := by
  rcases DataW.trod_slice Try.underlying23 h with ⟨rfl, -⟩ | ⟨a, len, cap, elems, rest, n, rfl, rfl, rfl, hb, hlc, hm, hlen, hel, hsp, -⟩
  · exact ⟨none, 0, 0, [], rfl, ⟨rfl, fun _ => ⟨rfl, rfl⟩, Nat.le_refl _, by omega, by omega, fun h => absurd h (by omega), fun e h => by cases h⟩⟩
  · obtain ⟨hrl, -⟩ := hsp rfl
    have hr := hs ((elems.length + rest.length) * 24) (by simp [DataW.weights, Try.underlying23, bytes32])
    simp only [reachBytes] at hr
    have hstep : ∀ i, i < len → ∃ g off, ∃ e : Sc, a.add (i * 3) = ⟨g, off, none⟩ ∧ W.rangeAt g off e.cells ∧ U64 e.a ∧ U64 e.v ∧ 0 ≤ e.c ∧ e.c < 256 := fun i hi => by
      have h1 := hel i hi
      rw [cells32, List.getElem?_eq_getElem (by omega), Option.bind_eq_some_iff] at h1
      obtain ⟨cs, hcs, ht⟩ := h1
      obtain ⟨g, off, e, hR⟩ := cells_at (by omega) hcs
      obtain ⟨f, hf, ho⟩ := sc_of_trod ht
      subst hf
      exact ⟨g, off, f, e, hR, ho⟩
    by_cases h0 : 0 < len
    · obtain ⟨g, off, -, e, -⟩ := hstep 0 h0
      have ha : a = ⟨g, off, none⟩ := by simpa [Addr.add] using e
      subst ha
      obtain ⟨l, hl, hP⟩ := exists_list (P := fun i (f : Sc) => W.rangeAt g (off + i * 3) f.cells ∧ U64 f.a ∧ U64 f.v ∧ 0 ≤ f.c ∧ f.c < 256) len (fun i hi => by
        obtain ⟨g', off', f, e', h1, ho⟩ := hstep i hi
        rw [Addr.add_mid] at e'
        cases e'
        exact ⟨f, h1, ho⟩)
      refine ⟨some ⟨g, off, none⟩, len, cap, l, rfl, ⟨show _ = _ by simp [hl], (fun e => by cases e), hlc, by unfold maxLen at hm; omega, by omega, fun _ => ⟨g, off, rfl, ?_, fun i f hf => (hP i f hf).1⟩, fun f hf => ?_⟩⟩
      · obtain ⟨p, hp⟩ : ∃ p, l[0]? = some p := ⟨l[0], List.getElem?_eq_getElem (by omega)⟩
        exact block_lt_of_cell ((hP 0 p hp).1 0 _ rfl)
      · obtain ⟨i, hi⟩ := List.mem_iff_getElem?.1 hf
        exact (hP i f hi).2
    · obtain rfl : len = 0 := by omega
      exact ⟨some a, 0, cap, [], rfl, ⟨rfl, (fun e => by cases e), by omega, by unfold maxLen at hm; omega, by omega, fun h => by omega, fun f hf => by simp at hf⟩⟩
/-- A SCRIPT THAT CAME IN. -/
theorem open_script {b0 : Nat} {v : Value} {d : DataW H} {p : List MemPlace} {ts : List TypeId} {ds : List (DataW H)} {j : Nat}
    (hv : Value.okWide Try.prog W .any b0 23 v) (h : DataW.Trod enc Try.prog W base (fun _ => true) true 23 v d p)
    (hsz : (DataW.weightsEach Try.prog ts ds).all (· ≤ reachBytes) = true) (ht : ts[j]? = some 23) (hd : ds[j]? = some d) :
    ∃ sq k cq es, v = .slice sq k cq ∧ SC W.heap.size W sq k cq es := by
  obtain ⟨a0, len0, cap0, rfl⟩ := okWide_slice Try.underlying23 hv
  obtain ⟨fuel, hf⟩ := h
  have hs : Small 23 d := fun n hn => by
    have := List.all_eq_true.1 hsz n (DataW.weights_mem_each ht hd n hn)
    simpa using this
  obtain ⟨sq, k, cq, fs, e, hi⟩ := scs_of_trod (x := (d, p)) hf hs
  simp [Value.cells] at e
  obtain ⟨rfl, rfl, rfl⟩ := e
  exact ⟨_, _, _, fs, rfl, hi⟩
/-- An ask, by value. -/
def askL (x y : Int) (R : List Int) (v : Value) : List Value := .int .u64 x :: .int .u64 y :: (by8 R ++ [v])
theorem ask_parts {cs : List Value} (hl : cs.length = 35) : cs = List.take 1 cs ++ (List.take 1 (List.drop 1 cs) ++ (List.take 32 (List.drop 2 cs) ++ List.take 1 (List.drop 34 cs))) := by
  rw [List.take_of_length_le (l := List.drop 34 cs) (by rw [List.length_drop]; omega), show List.drop 34 cs = List.drop 32 (List.drop 2 cs) by rw [List.drop_drop], List.take_append_drop, show List.drop 2 cs = List.drop 1 (List.drop 1 cs) by rw [List.drop_drop], List.take_append_drop, List.take_append_drop]
set_option maxRecDepth 100000 in
theorem ask_of_trod {fuel : Nat} {cs : List Value} {x : DataW H × List MemPlace} (h : DataW.trod enc Try.prog W base (fun _ => true) true fuel 52 cs = some x) (hs : Small 52 x.1) :
    ∃ x y R sp n cap ls, cs = askL x y R (.slice sp n cap) ∧ U64 x ∧ U64 y ∧ R.length = 32 ∧ HS W.heap.size W sp n cap ls := by
  obtain ⟨xs, n, rfl, rfl, hl, hxl, hf⟩ := DataW.trod_struct Try.underlying52 h
  rw [cells52] at hl
  simp at hxl
  match xs, hxl with
  | [x0, x1, x2, x3], _ =>
  have f0 := hf 0 _ rfl
  have f1 := hf 1 _ rfl
  have f2 := hf 2 _ rfl
  have f3 := hf 3 _ rfl
  simp [cells30, cellsH, cells36] at f0 f1 f2 f3
  have s3 : Small 36 x3.1 := fun m hm => hs m (by simp [DataW.weights, Try.underlying52, DataW.weightsEach, hm])
  obtain ⟨x, e0, -, w0⟩ := DataW.trod_int Try.underlying30 f0
  obtain ⟨y, e1, -, w1⟩ := DataW.trod_int Try.underlying30 f1
  obtain ⟨R, hR, -, e2⟩ := h_of_trod f2
  obtain ⟨sp, k, cap, ls, e3, hH, -⟩ := hs_of_trod f3 s3
  refine ⟨x, y, R, sp, k, cap, ls, ?_, u64_wfV w0, u64_wfV w1, hR, hH⟩
  rw [ask_parts hl, e0, List.drop_one, e1, e2, e3]
  rfl
/-- AN ASK THAT CAME IN. -/
theorem open_ask {b0 : Nat} {v : Value} {d : DataW H} {p : List MemPlace} {ts : List TypeId} {ds : List (DataW H)} {j : Nat}
    (hv : Value.okWide Try.prog W .any b0 52 v) (h : DataW.Trod enc Try.prog W base (fun _ => true) true 52 v d p)
    (hsz : (DataW.weightsEach Try.prog ts ds).all (· ≤ reachBytes) = true) (ht : ts[j]? = some 52) (hd : ds[j]? = some d) :
    ∃ x y R sp n cap ls, v = .agg (askL x y R (.slice sp n cap)).toArray ∧ U64 x ∧ U64 y ∧ R.length = 32 ∧ HS W.heap.size W sp n cap ls := by
  unfold Value.okWide at hv
  rw [Try.underlying52] at hv
  obtain ⟨cs, rfl, hc, -⟩ := hv
  obtain ⟨fuel, hf⟩ := h
  have hs : Small 52 d := fun n hn => by
    have := List.all_eq_true.1 hsz n (DataW.weights_mem_each ht hd n hn)
    simpa using this
  obtain ⟨x, y, R, sp, n, cap, ls, e, r⟩ := ask_of_trod (x := (d, p)) hf hs
  refine ⟨x, y, R, sp, n, cap, ls, ?_, r⟩
  congr 1
  apply Array.toList_inj.1
  exact e
end
end Go.Proofs.Ytndonaebdbbofaa
