/- Mp, My, Sr, Ae, Ak, Ug, Mf. -/
import Derived.Test.YtneihkegipcakaaGreatX01
import Derived.Test.YtneihkegipcakaaGreatX02
import Derived.Test.YtneihkegipcakaaGreatX03
import Derived.Test.YtneihkegipcakaaGreatX05
import Derived.Test.YtneihkegipcakaaGreatX04
import Derived.Test.YtneihkegipcakaaGreatX08
import Derived.BigQuiet
import Derived.BigRegion
import Derived.ChangeKeysEq
import Derived.ChangeOld
import Derived.Deep.DeepCutAuto
import Derived.Deep.DrawnRows
import Derived.Deep.MidRow
import Derived.Deep.QuietTactic
import Derived.Deep.RegionHeld3
import Derived.Deep.RegionLaw
import Derived.Deep.RegionWith
import Derived.Deep.WholeRow
import Derived.Great.BuildSlice
import Derived.Great.FillDense
import Derived.Laws.AppendOwnNone
import Derived.Laws.BitsLemmas
import Derived.Laws.BytesArg
import Derived.Laws.CopyOwn
import Derived.Laws.OwnMore
import Derived.Laws.Tables
import Derived.Lib.SlBytesConst
import Derived.LoopIn
import Derived.LoopNIn
import Derived.Maps.AppendAt
import Derived.OpenShut
import Derived.OwnWalkIn
import Derived.ProofKit
import Derived.RangeFuncBound
import Derived.RangeFuncCalls
import Derived.RangeFuncLeaves
import Derived.RangeFuncNested
import Derived.RangeFuncRecord
import Derived.Shelf.Abstract
import Derived.Shelf.RegionOpen
import Derived.ShutString
import Derived.SizedLaws
import Derived.TacticsInMore
import Derived.WalkKit
import Derived.WalkLawsBesides
import Derived.WalkSpells
import Derived.Laws.CopyRow
import Derived.Laws.MakeOwn
import Derived.Test.YtneihkegipcakaaGreatRows
import Derived.Lib.AppendZeros
import Derived.Test.YtneihkegipcakaaGreatX06
import Derived.Deep.OwnRows
import Derived.DeepKeys3
import Derived.Laws.DeepBits32
import Derived.Laws.ResultCell
import Derived.Recover
import Derived.Test.YtneihkegipcakaaGreatX20
/- Layer trace: what the layers below give. -/
namespace Go.Proofs.YtneihkegipcakaaGreat
open Go.RowKit Go.Shelf
set_option maxRecDepth 100000
set_option linter.unusedVariables false
set_option linter.unusedSimpArgs false

theorem flat32_len {ls : List (List Int)} (h : ∀ x ∈ ls, x.length = 32) : (flat32 ls).length = ls.length * 32 := by
  induction ls with
  | nil => rfl
  | cons a r ih =>
    have := ih (fun x hx => h x (by simp [hx]))
    have ha := h a (by simp)
    simp only [flat32, List.map_cons, List.flatten_cons, List.length_append, by8_len, List.length_cons] at this ⊢
    omega
theorem flat32_at {ls : List (List Int)} (h : ∀ x ∈ ls, x.length = 32) {i : Nat} {X : List Int} (hX : ls[i]? = some X) {j : Nat} {v : Value} (hv : (by8 X)[j]? = some v) : (flat32 ls)[i * 32 + j]? = some v := by
  induction ls generalizing i with
  | nil => simp at hX
  | cons a r ih =>
    have ha := h a (by simp)
    have hj : j < 32 := by
      have := (List.getElem?_eq_some_iff.1 hv).1
      rw [by8_len, h X (List.mem_of_getElem? hX)] at this; exact this
    simp only [flat32, List.map_cons, List.flatten_cons]
    cases i with
    | zero =>
      simp at hX
      subst hX
      rw [List.getElem?_append_left (by rw [by8_len, ha]; omega)]
      simpa using hv
    | succ i =>
      have := ih (fun x hx => h x (by simp [hx])) (i := i) (by simpa using hX)
      rw [List.getElem?_append_right (by rw [by8_len, ha]; omega), by8_len, ha, show (i + 1) * 32 + j - 32 = i * 32 + j by omega]
      exact this
/-- A slice of the call's own, read. -/
theorem own_hs {w : World} {base n : Nat} {v : Value} {ls : List (List Int)} (h : w.ownsRow base 40 32 v n (flat32 ls)) (hl : ∀ x ∈ ls, x.length = 32) (hn : n = ls.length) (hsm : n ≤ 1000000) : ∃ sp cap, v = .slice sp n cap ∧ HS w.heap.size w sp n cap ls ∧ ∀ b off, sp = some ⟨b, off, none⟩ → base ≤ b := by
  obtain ⟨-, h | ⟨g, cap, cur, rfl, hg, hh, hnc, hcm, hc, ht⟩⟩ := h
  · obtain ⟨rfl, rfl⟩ := h
    obtain rfl : ls = [] := List.eq_nil_of_length_eq_zero hn.symm
    exact ⟨none, 0, rfl, HS.nil0 _ _, fun b off e => by cases e⟩
  · refine ⟨_, cap, rfl, ⟨hn, (fun e => by cases e), hnc, by unfold maxLen at hcm; omega, by omega, fun h0 => ⟨g, 0, rfl, (Array.getElem?_eq_some_iff.1 hh).1, fun i X hX j u hu => ?_⟩, hl⟩, fun b off e => by cases e; exact hg⟩
    have hi := (List.getElem?_eq_some_iff.1 hX).1
    have hj : j < 32 := by
      have := (List.getElem?_eq_some_iff.1 hu).1
      rw [by8_len, hl X (List.mem_of_getElem? hX)] at this; exact this
    rw [Nat.zero_add, cell_of_row w g _ cur 40 (0, 0) hh, ← Array.getElem?_toList, ← List.getElem?_take_of_lt (show i * 32 + j < n * 32 by omega), ht]
    exact flat32_at hl hX hu
theorem run_ne24 {X : List Int} (hX : X.length = 32) (w : World) : (binOp .neq 40 (.agg (h8 X)) (.agg (h8 X))).run Tryz.prog w = .ok (.bool false) w := by
  have h := run_eqIn24 hX hX w
  rw [decide_eq_true rfl] at h
  rw [run_neq_struct, h]
  rfl
set_option maxRecDepth 100000 in
set_option maxHeartbeats 1000000 in
theorem same_true (N N' : Nat) (sp sp' : Option Addr) (n cap cap' : Nat) (ls : List (List Int)) (w : World) (hS : HS N w sp n cap ls) (hS' : HS N' w sp' n cap' ls) :
    Calls Tryz.prog 38 #[.slice sp n cap, .slice sp' n cap'] w fun e w' => e = .returned (.bool true) ∧ Below w.heap.size w w' := by
  have hS0 := hS.here
  have hS0' := hS'.here
  have hl := hS.len
  have hsm := hS.small
  have hnn : ((n : Int) != n) = false := by simp
  go_enter Tryz.func38, Tryz.ntmps38
  go_wp2_with fail
  go_loopw [5] (fun q wr => ∃ j : Nat, q = .int .i64 (j : Int) ∧ j ≤ n ∧ Below w.heap.size w wr) (fun q _ => n - (intOf q).toNat)
  case atStart => exact ⟨0, rfl, by omega, Below.refl _ _⟩
  case round =>
    obtain ⟨j, rfl, hj, hbl⟩ := hrel
    have hS := hS0.below hbl
    have hS' := hS0'.below hbl
    by_cases hlt : j < n
    · have hI : (j : Int) < n := by omega
      obtain ⟨g, off, rfl, hgN, hR⟩ := hS.at0 (by omega)
      obtain ⟨g', off', rfl, hgN', hR'⟩ := hS'.at0 (by omega)
      obtain ⟨X, hX⟩ : ∃ X, ls[j]? = some X := ⟨ls[j]'(by rw [← hl.out]; exact hlt), List.getElem?_eq_getElem _⟩
      have hX32 := hS.l32 X (List.mem_of_getElem? hX)
      have h1 := hR j X hX
      have h2 := hR' j X hX
      have hne := run_ne24 hX32
      replace hX := Hid.mk' hX
      go_wp2_with fail
      refine wp_region_held_drew (S := fun u => u.rangeAt g (off + j * 32) (by8 X) ∧ u.rangeAt g' (off' + j * 32) (by8 X)) (by kernel_rfl) ⟨(World.rangeAt_drew _ _ _ _).2 h1, (World.rangeAt_drew _ _ _ _).2 h2⟩ (fun hHeld => ?_)
      refine wpAnyH_take (i := 0) (oi := ⟨_, _, _, _, _, _⟩) (v := ?_) rfl (by kernel_rfl) (by kernel_rfl) (by kernel_rfl) (fun _ _ _ h => h) (Or.inl ⟨by rfl, ?_⟩) (by assumption) ?_
      rotate_left
      · intro u hSw
        go_simp
        try (with_reducible rfl)
      try simp only [Act.put, List.setIfInBounds_toArray, List.set_cons_zero, List.set_cons_succ]
      refine wpAnyH_take (i := 1) (oi := ⟨_, _, _, _, _, _⟩) (v := ?_) rfl (by kernel_rfl) (by kernel_rfl) (by kernel_rfl) (fun _ _ _ h => h) (Or.inl ⟨by rfl, ?_⟩) (by assumption) ?_
      rotate_left
      · intro u hSw
        go_simp
        try (with_reducible rfl)
      try simp only [Act.put, List.setIfInBounds_toArray, List.set_cons_zero, List.set_cons_succ]
      refine wpAnyH_take (i := 2) (oi := ⟨_, _, _, _, _, _⟩) (v := ?_) rfl (by kernel_rfl) (by kernel_rfl) (by kernel_rfl) (fun _ _ _ h => h) (Or.inl ⟨by rfl, ?_⟩) (by assumption) ?_
      rotate_left
      · intro u hSw
        go_simp
        try (with_reducible rfl)
      try simp only [Act.put, List.setIfInBounds_toArray, List.set_cons_zero, List.set_cons_succ]
      refine wpAnyH_take (i := 3) (oi := ⟨_, _, _, _, _, _⟩) rfl (by kernel_rfl) (by kernel_rfl) (by kernel_rfl) (fun _ _ _ h => h) (y24 rfl (.tmp 19) rfl g (off + j * 32) rfl X hX32 (fun u hu => hu.1)) (by assumption) ?_
      try simp only [Act.put, List.setIfInBounds_toArray, List.set_cons_zero, List.set_cons_succ]
      refine wpAnyH_take (i := 4) (oi := ⟨_, _, _, _, _, _⟩) (v := ?_) rfl (by kernel_rfl) (by kernel_rfl) (by kernel_rfl) (fun _ _ _ h => h) (Or.inl ⟨by rfl, ?_⟩) (by assumption) ?_
      rotate_left
      · intro u hSw
        go_simp
        try (with_reducible rfl)
      try simp only [Act.put, List.setIfInBounds_toArray, List.set_cons_zero, List.set_cons_succ]
      refine wpAnyH_take (i := 5) (oi := ⟨_, _, _, _, _, _⟩) (v := ?_) rfl (by kernel_rfl) (by kernel_rfl) (by kernel_rfl) (fun _ _ _ h => h) (Or.inl ⟨by rfl, ?_⟩) (by assumption) ?_
      rotate_left
      · intro u hSw
        go_simp
        try (with_reducible rfl)
      try simp only [Act.put, List.setIfInBounds_toArray, List.set_cons_zero, List.set_cons_succ]
      refine wpAnyH_take (i := 6) (oi := ⟨_, _, _, _, _, _⟩) (v := ?_) rfl (by kernel_rfl) (by kernel_rfl) (by kernel_rfl) (fun _ _ _ h => h) (Or.inl ⟨by rfl, ?_⟩) (by assumption) ?_
      rotate_left
      · intro u hSw
        go_simp
        try (with_reducible rfl)
      try simp only [Act.put, List.setIfInBounds_toArray, List.set_cons_zero, List.set_cons_succ]
      refine wpAnyH_take (i := 7) (oi := ⟨_, _, _, _, _, _⟩) rfl (by kernel_rfl) (by kernel_rfl) (by kernel_rfl) (fun _ _ _ h => h) (y24 rfl (.tmp 23) rfl g' (off' + j * 32) rfl X hX32 (fun u hu => hu.2)) (by assumption) ?_
      try simp only [Act.put, List.setIfInBounds_toArray, List.set_cons_zero, List.set_cons_succ]
      refine wpAnyH_take (i := 8) (oi := ⟨_, _, _, _, _, _⟩) (v := ?_) rfl (by kernel_rfl) (by kernel_rfl) (by kernel_rfl) (fun _ _ _ h => h) (Or.inl ⟨by rfl, ?_⟩) (by assumption) ?_
      rotate_left
      · intro u hSw
        go_simp
        try (with_reducible rfl)
      try simp only [Act.put, List.setIfInBounds_toArray, List.set_cons_zero, List.set_cons_succ]
      refine wpAnyH_done (by kernel_rfl) ?_ _
      go_wp2_with fail
      go_roundw
      case rel => exact ⟨j + 1, by go_num, by omega, hbl.drew⟩
      case measure => simp [intOf]; omega
    · obtain rfl : j = n := by omega
      have hI : ¬ (j : Int) < j := by omega
      go_wp2
      go_ret
      exact ⟨rfl, hbl⟩
theorem wp_bld2 {o : Oper} {a : Act} {w : World} {K : Act → World → Prop} {Q : Exit → Act → World → Prop} (x y : Operand) (ho : o.op = .buildSlice 95 2 #[(0, x), (1, y)]) (X Y : List Int) (hx : a.eval x = .agg (h8 X)) (hy : a.eval y = .agg (h8 Y)) (hX : X.length = 32) (hY : Y.length = 32)
    (h : K (a.put o.dst (.slice (some ⟨w.heap.size, 0, none⟩) 2 2)) (w.alloc (.cells (flat32 [X, Y]).toArray 40))) : o.wp Tryz.prog a w K Q := by
  obtain ⟨i0, hi0, hz0, hz1, hz2⟩ := info_parts info24
  refine wp_buildSlice 95 40 2 _ ho (flat32 [X, Y]).toArray i0 (.agg (h8 Z32)) Tryz.underlying95 hi0 hz0 (by rw [hz1]; omega) (by rw [hz1]; omega) ?_ h
  have e : (#[(0, x), (1, y)].map fun (p : Nat × Operand) => (p.1, a.eval p.2)).toList = ([Value.agg (h8 X), Value.agg (h8 Y)].zipIdx 0).map fun x => (x.2, x.1) := by simp [hx, hy]
  rw [hz1]
  refine Eq.trans (congrArg _ e) ?_
  rw [Great.fill_whole (s := 32) (by omega) [.agg (h8 X), .agg (h8 Y)] _ (fun v hv => by
    simp only [List.mem_cons, List.not_mem_nil, or_false] at hv
    rcases hv with rfl | rfl
    · show (h8 X).size = 32; rw [h8_size, hX]
    · show (h8 Y).size = 32; rw [h8_size, hY]) (by simp)]
  simp [Value.cells, h8, flat32]
/-- A literal's slice. -/
theorem hs_lit {w : World} {g : Nat} {ls : List (List Int)} {m : Nat} (h : Arr w g 40 (flat32 ls).toArray) (hl : ∀ x ∈ ls, x.length = 32) (hm : m = ls.length) (hsm : m ≤ 1000) : HS w.heap.size w (some ⟨g, 0, none⟩) m m ls :=
  ⟨hm, (fun e => by cases e), Nat.le_refl _, by omega, by omega, fun h0 => ⟨g, 0, rfl, h.lt, fun i X hX j u hu => by
    rw [Nat.zero_add, h.cell]
    simpa using flat32_at hl hX hu⟩, hl⟩
theorem sum1 (b : Int) (w : World) (g : Nat) (hg : g = w.heap.size) : Calls Tryz.prog 72 #[.slice (some ⟨g, 0, none⟩) 1 1] (w.alloc (.cells #[.int .u8 b] 5)) fun e w' => e = .returned (.agg (h8 (shl [b]))) ∧ Below w.heap.size w w' := by
  subst hg
  refine (refSum_any (some ⟨w.heap.size, 0, none⟩) 1 1 [b] _ rfl (fun h => by cases h) (Arr.sl (Arr.new w 5 _)) (by omega)).mono ?_
  rintro e w' ⟨he, hb⟩
  rw [sha_h8] at he
  exact ⟨he, (alloc_bel' w _).trans (hb.mono (by simp))⟩
end Go.Proofs.YtneihkegipcakaaGreat
/- Layer trace: what the layers below give. -/
namespace Go.Proofs.YtneihkegipcakaaGreat
open Go.RowKit Go.Shelf
set_option maxRecDepth 100000
set_option linter.unusedVariables false
set_option linter.unusedSimpArgs false

theorem grown_below {B : Nat} {a w w' : World} {r : Option Nat} (h : Below B a w) (hg : w.grownBy w' r) (hr : ∀ k, r = some k → B ≤ k) (hB : B ≤ w.heap.size) : Below B a w' :=
  h.trans ⟨hg.os, hg.tape, hg.output, hg.size, fun k hk => hg.block k (by omega) (fun e => by have := hr k e.symm; omega)⟩
end Go.Proofs.YtneihkegipcakaaGreat
/- Layer trace: what the layers below give. -/
namespace Go.Proofs.YtneihkegipcakaaGreat
open Go.RowKit
set_option maxRecDepth 100000
set_option linter.unusedVariables false
set_option linter.unusedSimpArgs false

/-- Is it this operation? -/
theorem atA {P : Program} {ops : Array Oper} {rest : List Oper} {a : Act} {w : World} {Q : Exit → Act → World → Prop} (x y : Operand) {t u : TypeId} {d} {ty} {pos} {af} {g} (h : wpList P ops Q (⟨d, .call { callee := .builtin .append, args := #[x, y], argTypes := #[t, u] }, ty, pos, af, g⟩ :: rest) a w) : wpList P ops Q (⟨d, .call { callee := .builtin .append, args := #[x, y], argTypes := #[t, u] }, ty, pos, af, g⟩ :: rest) a w := h
end Go.Proofs.YtneihkegipcakaaGreat
/- Layer trace: what the layers below give. -/
namespace Go.Proofs.YtneihkegipcakaaGreat
open Go.RowKit
set_option maxRecDepth 100000
set_option linter.unusedVariables false
set_option linter.unusedSimpArgs false

/-- A sum is appended. -/
theorem wp_ag43 {o : Oper} {a : Act} {w : World} {K : Act → World → Prop} {Q : Exit → Act → World → Prop} (s x : Operand) (ho : o.op = .call { callee := .builtin .append, args := #[s, x], argTypes := #[95, 95] })
    (base k : Nat) (v : Value) (ls : List (List Int)) (X : List Int) (hs : a.eval s = v) (hown : w.ownsRow base 40 32 v k (flat32 ls))
    (gx c : Nat) (hx : a.eval x = .slice (some ⟨gx, 0, none⟩) 1 c) (hA : Arr w gx 40 (h8 X)) (hX : X.length = 32) (hk : k ≤ 100000) (hbase : base ≤ w.heap.size)
    (h : ∀ v' w', w'.ownsRow base 40 32 v' (k + 1) (flat32 (ls ++ [X])) → w.grownBy w' v.ownBlock → K (a.put o.dst v') w') : o.wp Tryz.prog a w K Q := by
  obtain ⟨i0, hi0, hz0, hz1, hz2⟩ := info_parts info24
  refine wp_append_own w s x 95 ho base 40 i0 (.agg (h8 Z32)) 32 32 Tryz.underlying95 hi0 hz0 hz1 hz2 (by show (h8 Z32).size = 32; rw [h8_size, Z32_len]) (by omega) v k _ hs hown ⟨gx, 0, none⟩ 1 c (by8 X) hx (by rw [by8_len, hX]) (fun j u hj => by
    rw [Addr.add_mid]; exact hA.range j u hj) (by8_one X) (by unfold maxLen; omega) (by omega) hbase (fun v' w' h1 h2 _ => h v' w' (by rw [flat32_app]; exact h1) h2)
theorem ag43 {ops : Array Oper} {rest : List Oper} {o : Oper} {a : Act} {w : World} {Q : Exit → Act → World → Prop} (hgd : o.guard = none) (s x : Operand) (ho : o.op = .call { callee := .builtin .append, args := #[s, x], argTypes := #[95, 95] })
    (base k : Nat) (v : Value) (ls : List (List Int)) (X : List Int) (hs : a.eval s = v) (hown : w.ownsRow base 40 32 v k (flat32 ls))
    (gx c : Nat) (hx : a.eval x = .slice (some ⟨gx, 0, none⟩) 1 c) (hA : Arr w gx 40 (h8 X)) (hX : X.length = 32) (hk : k ≤ 100000) (hbase : base ≤ w.heap.size)
    (h : ∀ v' w', w'.ownsRow base 40 32 v' (k + 1) (flat32 (ls ++ [X])) → w.grownBy w' v.ownBlock → wpList Tryz.prog ops Q rest (a.put o.dst v') w') : wpList Tryz.prog ops Q (o :: rest) a w :=
  wpList_plain hgd fun _ hK => wp_ag43 s x ho base k v ls X hs hown gx c hx hA hX hk hbase (fun v' w' h1 h2 => hK _ _ (h v' w' h1 h2))
theorem b43 {ops : Array Oper} {rest : List Oper} {o : Oper} {a : Act} {w : World} {Q : Exit → Act → World → Prop} (hgd : o.guard = none) (x : Operand) (ho : o.op = .buildSlice 95 1 #[(0, x)]) (X : List Int) (hx : a.eval x = .agg (h8 X)) (hX : X.length = 32)
    (h : wpList Tryz.prog ops Q rest (a.put o.dst (.slice (some ⟨w.heap.size, 0, none⟩) 1 1)) (w.alloc (.cells (h8 X) 40))) : wpList Tryz.prog ops Q (o :: rest) a w :=
  wpList_plain hgd fun _ hK => wp_bld1 x ho X hx hX (hK _ _ h)
end Go.Proofs.YtneihkegipcakaaGreat
/- Layer trace: what the layers below give. -/
namespace Go.Proofs.YtneihkegipcakaaGreat
open Go.RowKit
set_option maxRecDepth 100000
set_option linter.unusedVariables false
set_option linter.unusedSimpArgs false

theorem rR_okM {m : Nat} (hm : m ≤ 12) {ls : List (List Int)} (h : ls.length = 2 ^ m) : rE m ls.length = 0 ∧ rR m ls = tr m ls := by
  have e : rE m ls.length = 0 := by unfold rE; rw [if_pos ⟨by omega, by omega⟩, if_pos (by rw [h]; simp)]
  refine ⟨e, ?_⟩
  unfold rR
  rw [if_pos e]; simp
theorem lvs_take {L : List Int} {j n : Nat} (hL : L.length = n) (hj : j < n) : (lvs L).take (j + 1) = (lvs L).take j ++ [lw (L.getD j 0)] := by
  rw [take_snoc (by rw [lvs_len, hL]; exact hj), tat_lvs (by rw [hL]; exact hj)]
set_option maxHeartbeats 2000000 in
theorem rootM_ok (sp : Option Addr) (n cap d : Nat) (L : List Int) (N : Nat) (w : World) (hM : MS N w sp n cap L) (hU : ∀ k, U64 (L.getD k 0)) (hd : d ≤ 12) (hn : Hid (n = 2 ^ d)) :
    Calls Tryz.prog 84 #[.slice sp n cap] w fun e w' => e = .returned (.tuple #[.agg (h8 (rW L)), .int .i64 0]) ∧ Below w.heap.size w w' := by
  obtain ⟨i0, hi0, hz0, hz1, hz2⟩ := info_parts info24
  have hsz : szB L.length = true := by rw [← hM.len.out, hn.out]; exact pow_szB hd
  have hmb := fun w hM => mayBe_any sp n cap L w.heap.size w hM hU
  rw [hsz] at hmb
  clear hsz
  have hn4 : n ≤ 4096 := by rw [hn.out]; exact pow12 hd
  have hn0 : 0 < n := by rw [hn.out]; exact Nat.pow_pos (by omega)
  have hMh := hM.here
  have hL : Hid (L.length = n) := Hid.mk' hM.len.out.symm
  have hle := hM.le
  obtain ⟨g, off, rfl, -⟩ := hM.at0 hn0
  clear hM
  have hdep := fun w => depthOf_any d n hd hn w
  have hR := rW_pow (L := L) hd (by rw [hL.out, hn.out])
  have hrt := fun (s : Option Addr) (c : Nat) (U : World) (h : HS U.heap.size U s n c (lvs L)) => root_any (d : Int) U.heap.size s n c (lvs L) U h
  have hrr := rR_okM hd (show (lvs L).length = 2 ^ d by rw [lvs_len, hL.out, hn.out])
  rw [hrr.1, hrr.2, ← hR.1] at hrt
  have hRl := rW_len L
  clear hrr hR
  generalize rW L = R at *
  have A0 := Arr.new w 40 (h8 Z32)
  have hb0 := alloc_bel' w (.cells (h8 Z32) 40)
  have hM0 := (hMh.below hb0).mono (show w.heap.size ≤ (w.alloc (.cells (h8 Z32) 40)).heap.size by simp)
  rw [h8_Z] at A0 hb0 hM0
  go_enter Tryz.func84, Tryz.ntmps84
  go_upto_region 4 with (first
    | (go_at_call 88; go_must (refine (hmb _ hM0).mono ?_; rintro e w1 ⟨rfl, hb1⟩; have hs1 := hb1.size; simp at hs1; have A1 := A0.below hb1 (by simp); have hB1 := hb0.trans (hb1.mono (by simp))))
    | (at_make; go_must (refine wpList_make_own _ (by rfl) (.const (.int .i64 0)) (.tmp 12) 95 (by rfl) w1.heap.size 40 i0 (.agg (h8 Z32)) 32 Tryz.underlying95 hi0 hz0 hz1 .i64 .i64 _ n (by rfl) (by rfl) (by omega) (by rw [hz2]; omega) (by unfold maxLen; omega) (Nat.le_refl _) ?_; intro w2 hown2 hg2)))
  have hB2 : Below w1.heap.size w1 w2 := (Below.refl _ _).grown hg2 (Nat.le_refl _) (by simp)
  have hown2' : w2.ownsRow w1.heap.size 40 32 (.slice (some ⟨w1.heap.size, 0, none⟩) 0 n) 0 (flat32 []) := by simpa [flat32] using hown2
  clear hown2 hg2 hmb hM0
  go_wp2_with fail
  go_loopw [4, 16] (fun v q wr => ∃ (j : Nat), q = .int .i64 (j : Int) ∧ j ≤ n ∧ Below w1.heap.size w1 wr ∧ wr.ownsRow w1.heap.size 40 32 v j (flat32 ((lvs L).take j))) (fun _ q _ => n - (intOf q).toNat)
  case atStart => exact ⟨0, rfl, by omega, hB2, by simpa using hown2'⟩
  case round =>
    clear hB2 hown2'
    obtain ⟨j, rfl, hj, hbl, hown⟩ := hrel
    have hbs := hbl.size
    have hbw := hB1.trans (hbl.mono (by omega))
    by_cases hlt : j < n
    · have hI : (j : Int) < n := by omega
      obtain ⟨g', off', e', -, hC⟩ := (hMh.below hbw).at0 hn0
      cases e'
      have hc := hC j hlt
      clear hC
      have hjc : j < cap := by omega
      have htk : Hid ((lvs L).take (j + 1) = (lvs L).take j ++ [lw (L.getD j 0)]) := Hid.mk' (lvs_take hL.out hlt)
      generalize L.getD j 0 = x at *
      have hx32 := lw_len x
      have hlf := fun w => leafOf_any x w
      generalize lw x = X at *
      generalize (lvs L).take j = T at *
      go_wp2_with (first
        | (go_at_call 90; go_must (refine (hlf _).mono ?_; rintro e w3 ⟨rfl, hb3⟩; have hs3 := hb3.size; have own3 := own_same hown (fun k hk => hb3.block k (hown.lt k hk).2)))
        | (refine b43 (by rfl) (.tmp 22) (by rfl) X (by rfl) hx32 ?_)
        | (refine atA (.tmp 20) (.tmp 23) ?_; go_must (refine ag43 (by rfl) (.tmp 20) (.tmp 23) (by rfl) w1.heap.size j _ T X (by rfl) (own3.alloc _) w3.heap.size 1 (by rfl) (Arr.new w3 40 (h8 X)) hx32 (by omega) (by simp; omega) ?_; intro v' w4 hown4 hg4)))
      go_roundw
      case rel => exact ⟨j + 1, by go_num, by omega, grown_below ((hbl.trans (hb3.mono hbs)).alloc (by omega) _) hg4 (fun k hk => (hown.lt k hk).1) (by simp; omega), by rw [htk.out]; exact hown4⟩
      case measure => simp [intOf]; omega
    · obtain rfl : j = n := by omega
      have hI : ¬ (j : Int) < j := by omega
      have htk : Hid ((lvs L).take j = lvs L) := Hid.mk' (List.take_of_length_le (by rw [lvs_len, hL.out]; exact Nat.le_refl _))
      rw [htk.out] at hown
      obtain ⟨s, c, rfl, hH, -⟩ := own_hs hown (lvs_l32 L) (by rw [lvs_len, hL.out]) (by omega)
      have A4 := A1.below hbl A1.lt
      clear htk
      go_wp2_with (first
        | (go_at_call 86; go_must (refine (hdep _).mono ?_; rintro e w5 ⟨rfl, h⟩; replace h := h.symm; subst h))
        | (go_at_call 111; go_must (refine (hrt _ _ _ hH).mono ?_; rintro e w6 ⟨rfl, hb6⟩; have A6 := A4.below hb6 A4.lt))
        | (refine st24 (by rfl) _ _ (by rfl) w.heap.size R Z32 (by rfl) (by rfl) hRl Z32_len A6 ?_))
      exact bodyPost_ret (v := .tuple #[.agg (h8 R), .int .i64 0]) (resP Tryz.results84 rfl rfl hRl (A6.setRow _)) rfl ⟨rfl, below_setRow (hbw.trans (hb6.mono (by omega))) (Nat.le_refl _) _⟩
set_option maxHeartbeats 1000000 in
theorem rootM_no (sp : Option Addr) (n cap : Nat) (L : List Int) (N : Nat) (w : World) (hM : MS N w sp n cap L) (hU : ∀ k, U64 (L.getD k 0)) (h : szB L.length = false) :
    Calls Tryz.prog 84 #[.slice sp n cap] w fun e w' => e = .returned (.tuple #[.agg (h8 Z32), .int .i64 2]) ∧ Below w.heap.size w w' := by
  have A0 := Arr.new w 40 (h8 Z32)
  have hb0 := alloc_bel' w (.cells (h8 Z32) 40)
  have hmb := mayBe_any sp n cap L w.heap.size _ (hM.here.below hb0) hU
  rw [h] at hmb
  rw [h8_Z] at A0 hb0 hmb
  clear h hM
  go_enter Tryz.func84, Tryz.ntmps84
  go_wp2_with (first
    | (go_at_call 88; go_must (refine hmb.mono ?_; rintro e w1 ⟨rfl, hb1⟩; have A1 := A0.below hb1 (by simp); have hB1 := hb0.trans (hb1.mono (by simp))))
    | (refine st24 (by rfl) _ _ (by rfl) w.heap.size Z32 Z32 (by rfl) (by rfl) Z32_len Z32_len A1 ?_))
  exact bodyPost_ret (v := .tuple #[.agg (h8 Z32), .int .i64 2]) (resP Tryz.results84 rfl rfl Z32_len (A1.setRow _)) rfl ⟨rfl, below_setRow hB1 (Nat.le_refl _) _⟩
/-- mem.Root, of whatever words. -/
theorem rootM_any (sp : Option Addr) (n cap : Nat) (L : List Int) (N : Nat) (w : World) (hM : MS N w sp n cap L) (hU : ∀ k, U64 (L.getD k 0)) :
    Calls Tryz.prog 84 #[.slice sp n cap] w fun e w' => e = .returned (.tuple #[.agg (h8 (rW L)), .int .i64 (eW L)]) ∧ Below w.heap.size w w' := by
  cases h : szB L.length with
  | true =>
    obtain ⟨d, hd, e⟩ := szB_pow h
    rw [(rW_pow hd e).2]
    exact rootM_ok sp n cap d L N w hM hU hd (Hid.mk' (by rw [hM.len.out, e]))
  | false =>
    rw [(rW_no h).1, (rW_no h).2]
    exact rootM_no sp n cap L N w hM hU h
set_option maxHeartbeats 1000000 in
/-- The document's depth. -/
theorem refDepth_any (d n : Nat) (hd : d ≤ 12) (hn : Hid (n = 2 ^ d)) (w : World) : Calls Tryz.prog 47 #[.int .i64 (n : Int)] w fun e w' => e = .returned (.int .i64 d) ∧ w' = w := by
  go_enter Tryz.func47, Tryz.ntmps47
  go_wp2_with fail
  go_loopw [3] (fun q wr => ∃ (k : Nat), q = .int .i64 (k : Int) ∧ k ≤ d ∧ wr = w) (fun q _ => d - (intOf q).toNat)
  case atStart => exact ⟨0, rfl, by omega, rfl⟩
  case round =>
    obtain ⟨k, rfl, hk, hw⟩ := hrel
    subst hw
    have hk16 : k ≤ 16 := by omega
    have hwp := wrap_pow hk16
    have hku : (k : Int) % 18446744073709551616 = k := by omega
    have hcmp : Hid (k < d → 2 ^ k < n) := Hid.mk' (fun h => by rw [hn.out]; exact Nat.pow_lt_pow_right (by omega) h)
    have hcmp2 : Hid (¬ k < d → ¬ 2 ^ k < n) := Hid.mk' (fun h => by rw [hn.out, show k = d by omega]; omega)
    obtain ⟨p, hp⟩ : ∃ p : Nat, p = 2 ^ k := ⟨_, rfl⟩
    rw [← hp] at hwp hcmp hcmp2
    replace hp := Hid.mk' hp
    by_cases hlt : k < d
    · have h1 : (p : Int) < n := by have := hcmp.out hlt; omega
      go_wp2_with fail
      go_roundw
      case rel => exact ⟨k + 1, by go_num, by omega, by first | trivial | rfl⟩
      case measure => simp [intOf]; omega
    · have h1 : ¬ (p : Int) < n := by have := hcmp2.out hlt; omega
      obtain rfl : k = d := by omega
      go_wp2_with fail
      go_ret
      exact ⟨rfl, rfl⟩
set_option maxHeartbeats 2000000 in
/-- The document's leaves. -/
theorem refLeaves_anyM (sp : Option Addr) (n cap : Nat) (L : List Int) (N : Nat) (w : World) (hM : MS N w sp n cap L) (hn4 : n ≤ 4096) :
    Calls Tryz.prog 80 #[.slice sp n cap] w fun e w' => ∃ s c, e = .returned (.slice s n c) ∧ HS w'.heap.size w' s n c (lvs L) ∧ Below w.heap.size w w' := by
  have hMh := hM.here
  have hL : Hid (L.length = n) := Hid.mk' hM.len.out.symm
  have hle := hM.le
  clear hM
  go_enter Tryz.func80, Tryz.ntmps80
  go_wp2_with fail
  go_loopw [3, 4] (fun v q wr => ∃ (j : Nat), q = .int .i64 (j : Int) ∧ j ≤ n ∧ Below w.heap.size w wr ∧ wr.ownsRow w.heap.size 40 32 v j (flat32 ((lvs L).take j))) (fun _ q _ => n - (intOf q).toNat)
  case atStart => exact ⟨0, rfl, by omega, Below.refl _ _, by simpa [flat32] using World.ownsRow_nil w w.heap.size 40 32⟩
  case round =>
    obtain ⟨j, rfl, hj, hbl, hown⟩ := hrel
    have hbs := hbl.size
    by_cases hlt : j < n
    · have hI : (j : Int) < n := by omega
      obtain ⟨g', off', rfl, -, hC⟩ := (hMh.below hbl).at0 (by omega)
      have hc := hC j hlt
      clear hC
      have hjc : j < cap := by omega
      have htk : Hid ((lvs L).take (j + 1) = (lvs L).take j ++ [lw (L.getD j 0)]) := Hid.mk' (lvs_take hL.out hlt)
      generalize L.getD j 0 = x at *
      have hx32 := lw_len x
      have hlf := fun w => refLeafW_any x w
      generalize lw x = X at *
      generalize (lvs L).take j = T at *
      go_wp2_with (first
        | (go_at_call 106; go_must (refine (hlf _).mono ?_; rintro e w3 ⟨rfl, hb3⟩; have hs3 := hb3.size; have own3 := own_same hown (fun k hk => hb3.block k (hown.lt k hk).2)))
        | (refine b43 (by rfl) (.tmp 16) (by rfl) X (by rfl) hx32 ?_)
        | (refine atA (.tmp 11) (.tmp 17) ?_; go_must (refine ag43 (by rfl) (.tmp 11) (.tmp 17) (by rfl) w.heap.size j _ T X (by rfl) (own3.alloc _) w3.heap.size 1 (by rfl) (Arr.new w3 40 (h8 X)) hx32 (by omega) (by simp; omega) ?_; intro v' w4 hown4 hg4)))
      go_roundw
      case rel => exact ⟨j + 1, by go_num, by omega, grown_below ((hbl.trans (hb3.mono hbs)).alloc (by omega) _) hg4 (fun k hk => (hown.lt k hk).1) (by simp; omega), by rw [htk.out]; exact hown4⟩
      case measure => simp [intOf]; omega
    · obtain rfl : j = n := by omega
      have hI : ¬ (j : Int) < j := by omega
      rw [List.take_of_length_le (by rw [lvs_len, hL.out]; exact Nat.le_refl _)] at hown
      obtain ⟨s, c, rfl, hH, -⟩ := own_hs hown (lvs_l32 L) (by rw [lvs_len, hL.out]) (by omega)
      go_wp2_with fail
      go_ret
      exact ⟨s, c, rfl, hH, hbl⟩
end Go.Proofs.YtneihkegipcakaaGreat
/- Layer trace: what the layers below give. -/
namespace Go.Proofs.YtneihkegipcakaaGreat
open Go.RowKit
set_option maxRecDepth 100000
set_option linter.unusedVariables false
set_option linter.unusedSimpArgs false

theorem Arr.storeSha {w : World} {g t : Nat} {Z : Array Value} (h : Arr w g t Z) (hZ : Z.size = 32) (M : List Int) : (storeCells ⟨g, 0, none⟩ (sha M).toList).run Tryz.prog w = .ok () (w.setRow g (sha M)) := by
  have := run_storeCells_from (P := Tryz.prog) g t (sha M).toList 0 Z w h (by simp [sha_size, hZ]) (fun v hv => (Array.all_eq_true_iff_forall_mem.1 (sha_one M)) v (by simpa using hv))
  have e : (Z.toList.drop (sha M).size) = [] := by rw [sha_size]; exact List.drop_eq_nil_of_le (by simp [hZ])
  simpa [e] using this
set_option maxRecDepth 100000 in
set_option maxHeartbeats 1000000 in
theorem refPair_any (X Y : List Int) (w : World) (hX : X.length = 32) (hY : Y.length = 32) :
    Calls Tryz.prog 130 #[.agg (h8 X), .agg (h8 Y)] w fun e w' => e = .returned (.agg (sha (1 :: (X ++ Y)))) ∧ Below w.heap.size w w' := by
  have HX := Hid.mk' hX
  have HY := Hid.mk' hY
  clear hX hY
  go_enter Tryz.func130, Tryz.ntmps130
  go_upto_region 1 with fail
  obtain ⟨W, hWe⟩ : ∃ W : World, W = ((w.alloc (.cells (h8 X) 40)).alloc (.cells (h8 Y) 40)).alloc (.cells #[.int .u8 0, .int .u8 0, .int .u8 0, .int .u8 0, .int .u8 0, .int .u8 0, .int .u8 0, .int .u8 0, .int .u8 0, .int .u8 0, .int .u8 0, .int .u8 0, .int .u8 0, .int .u8 0, .int .u8 0, .int .u8 0, .int .u8 0, .int .u8 0, .int .u8 0, .int .u8 0, .int .u8 0, .int .u8 0, .int .u8 0, .int .u8 0, .int .u8 0, .int .u8 0, .int .u8 0, .int .u8 0, .int .u8 0, .int .u8 0, .int .u8 0, .int .u8 0] 40) := ⟨_, rfl⟩
  rw [← hWe]
  have hX0 : Arr W w.heap.size 40 (h8 X) := by rw [hWe]; exact ((Arr.new _ _ _).alloc _).alloc _
  have hY0 : Arr W (w.heap.size + 1) 40 (h8 Y) := by rw [hWe]; exact (show Arr ((w.alloc _).alloc _) (w.heap.size + 1) 40 (h8 Y) from (by simpa using Arr.new (w.alloc (.cells (h8 X) 40)) 40 (h8 Y))).alloc _
  have hZ0 : ∃ Z : Array Value, Z.size = 32 ∧ Arr W (w.heap.size + 2) 40 Z := by
    refine ⟨_, ?_, by rw [hWe]; exact Arr.new3 w _ _ 40 _⟩
    rfl
  have hB0 : Below w.heap.size w W := by rw [hWe]; exact (((Below.refl _ _).alloc (Nat.le_refl _) _).alloc (by simp) _).alloc (by simp; omega) _
  have hz0 : W.heap.size = w.heap.size + 3 := by rw [hWe]; simp
  clear hWe
  obtain ⟨Z, hZs, hZ0⟩ := hZ0
  have hlit : (W.alloc (.cells #[.int .u8 1] 5)).drew.ownsRow (w.heap.size + 3) 5 1 (.slice (some ⟨W.heap.size, 0, none⟩) 1 1) 1 (by8 [1]) := World.ownsRow_lit _ _ _ (by rw [hz0]; exact Nat.le_refl _) (by unfold maxLen; omega) rfl
  have HZ0 := Hid.mk' hz0
  clear hz0
  have hsz := sha_size (1 :: (X ++ Y))
  go_region_law ((first
    | (refine step_append_bytes (by rfl) (.tmp 5) (.tmp 6) (by rfl) (w.heap.size + 3) _ 1 [1] (by rfl) hlit (some ⟨w.heap.size, 0, none⟩) 32 32 X (by rfl) HX.out.symm (fun h => by cases h) (Arr.sl (hX0.alloc _)) (by omega) (by simp [HZ0.out]) ?_; intro v2 w2 hown2 hg2)
    | (refine step_append_bytes (by rfl) (.tmp 7) (.tmp 8) (by rfl) (w.heap.size + 3) _ 33 ([1] ++ X) (by rfl) hown2 (some ⟨w.heap.size + 1, 0, none⟩) 32 32 Y (by rfl) HY.out.symm (fun h => by cases h) (Arr.sl ((hY0.alloc _).drew.grown hg2 (ne_own hlit (by omega)))) (by omega) (by have := hg2.size; simp [HZ0.out] at this; omega) ?_; intro v3 w3 hown3 hg3; obtain ⟨g, c3, rfl, hn3, hc3, hgg, hBy, -⟩ := own_slice hown3 (by omega); have hZ3 := (((hZ0.alloc (.cells #[.int .u8 1] 5)).drew.grown hg2 (ne_own hlit (by omega))).grown hg3 (ne_own hown2 (by omega))))
    | (go_simp; go_at_call 72; refine (refSum_any (some ⟨g, 0, none⟩) 65 c3 (1 :: (X ++ Y)) _ hn3.out (fun h => by cases h) (fun _ => ⟨g, 0, rfl, hBy⟩) (by omega)).mono ?_; rintro e w4 ⟨rfl, hb4⟩; have hZ4 := hZ3.below hb4 hZ3.lt; have hst := hZ4.storeSha hZs (1 :: (X ++ Y)); go_simp)))
  go_wp2_with fail
  have hg2s := hg2.size
  simp [HZ0.out] at hg2s
  have hB3 : Below w.heap.size w w3 := ((hB0.alloc hB0.size _).drew.grown hg2 (by simp [HZ0.out]; omega) (fun k e => by have := own_ge hlit k e; omega)).grown hg3 (by omega) (fun k e => by have := own_ge hown2 k e; omega)
  exact bodyPost_ret (v := .agg (sha (1 :: (X ++ Y)))) (results_cell_row Tryz.results130 _ _ (w.heap.size + 2) 40 _ (0, 0) _ rfl (hZ4.setRow _) Tryz.underlying40 rfl (s24sha _)) rfl ⟨rfl, below_setRow (hB3.trans (hb4.mono hB3.size)) (by omega) _⟩
end Go.Proofs.YtneihkegipcakaaGreat
/- Layer trace: what the layers below give. -/
namespace Go.Proofs.YtneihkegipcakaaGreat
open Go.RowKit
set_option maxRecDepth 100000
set_option linter.unusedVariables false
set_option linter.unusedSimpArgs false

theorem refPair_h (X Y : List Int) (w : World) (hX : X.length = 32) (hY : Y.length = 32) :
    Calls Tryz.prog 130 #[.agg (h8 X), .agg (h8 Y)] w fun e w' => e = .returned (.agg (h8 (pr X Y))) ∧ Below w.heap.size w w' := by
  have h := refPair_any X Y w hX hY
  rw [sha_h8] at h
  exact h
end Go.Proofs.YtneihkegipcakaaGreat
