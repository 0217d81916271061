/- Sr, ZVt, ZZTo, ZWd, Ab, Mv, ZWe, YNc, Ac, Ad. -/
import Derived.Test.YtndonaebdbbofaaRows
import Derived.BigQuiet
import Derived.BigRegion
import Derived.ChangeKeysEq
import Derived.Deep.DeepCutAuto
import Derived.Deep.DrawnRows
import Derived.Deep.MidRow
import Derived.Deep.QuietTactic
import Derived.Deep.RegionHeld3
import Derived.Deep.RegionLaw
import Derived.Deep.RegionWith
import Derived.Deep.WholeRow
import Derived.Great.BuildSlice
import Derived.Great.FillDense
import Derived.Laws.AppendOwnNone
import Derived.Laws.BitsLemmas
import Derived.Laws.BytesArg
import Derived.Laws.CopyOwn
import Derived.Laws.CopyRow
import Derived.Laws.MakeOwn
import Derived.Laws.OwnMore
import Derived.Laws.Tables
import Derived.Lib.AppendZeros
import Derived.Lib.SlBytesConst
import Derived.LoopIn
import Derived.LoopNIn
import Derived.Maps.AppendAt
import Derived.OwnWalkIn
import Derived.RangeFuncBound
import Derived.RangeFuncCalls
import Derived.RangeFuncLeaves
import Derived.RangeFuncNested
import Derived.RangeFuncRecord
import Derived.Shelf.Abstract
import Derived.Shelf.RegionOpen
import Derived.TacticsInMore
import Derived.WalkKit
import Derived.WalkLawsBesides
import Derived.WalkSpells
import Derived.Test.YtndonaebdbbofaaX01
import Derived.Test.YtndonaebdbbofaaX03
import Derived.Test.YtndonaebdbbofaaX06
import Derived.Test.YtndonaebdbbofaaX07
import Derived.Test.YtndonaebdbbofaaX10
import Derived.Test.YtndonaebdbbofaaX11
import Derived.Test.YtndonaebdbbofaaX13
import Derived.Test.YtndonaebdbbofaaX16
import Derived.DeepKeys3
import Derived.Laws.ResultCell
import Derived.Recover
import Derived.Deep.OwnRows
import Derived.Laws.DeepBits32
/- Layer mem: what the layers below give. -/
namespace Go.Proofs.Ytndonaebdbbofaa
open Go.RowKit
set_option maxRecDepth 100000
set_option linter.unusedVariables false
set_option linter.unusedSimpArgs false

/-- Is it this operation? -/
theorem atA {P : Program} {ops : Array Oper} {rest : List Oper} {a : Act} {w : World} {Q : Exit → Act → World → Prop} (x y : Operand) {t u : TypeId} {d} {ty} {pos} {af} {g} (h : wpList P ops Q (⟨d, .call { callee := .builtin .append, args := #[x, y], argTypes := #[t, u] }, ty, pos, af, g⟩ :: rest) a w) : wpList P ops Q (⟨d, .call { callee := .builtin .append, args := #[x, y], argTypes := #[t, u] }, ty, pos, af, g⟩ :: rest) a w := h
theorem atL {P : Program} {ops : Array Oper} {rest : List Oper} {a : Act} {w : World} {Q : Exit → Act → World → Prop} (t : TypeId) (x : Operand) {d} {ty} {pos} {af} {g} (h : wpList P ops Q (⟨d, .load t x, ty, pos, af, g⟩ :: rest) a w) : wpList P ops Q (⟨d, .load t x, ty, pos, af, g⟩ :: rest) a w := h
theorem atS {P : Program} {ops : Array Oper} {rest : List Oper} {a : Act} {w : World} {Q : Exit → Act → World → Prop} (t : TypeId) (x y : Operand) {d} {ty} {pos} {af} {g} (h : wpList P ops Q (⟨d, .store t x y, ty, pos, af, g⟩ :: rest) a w) : wpList P ops Q (⟨d, .store t x y, ty, pos, af, g⟩ :: rest) a w := h
end Go.Proofs.Ytndonaebdbbofaa
/- Layer mem: what the layers below give. -/
namespace Go.Proofs.Ytndonaebdbbofaa
open Go.RowKit
set_option maxRecDepth 100000
set_option linter.unusedVariables false
set_option linter.unusedSimpArgs false

theorem info26 : (Try.prog.info? 30).map (fun i => (i.zero, i.size, i.bytes)) = some (some (.int .u64 0), 1, 8) := by kernel_rfl
theorem by64_one (L : List Int) : ∀ v ∈ by64 L, v.oneCell' = true := by
  intro v hv
  simp only [by64, List.mem_map] at hv
  obtain ⟨x, -, rfl⟩ := hv
  rfl
theorem append_words {N : Nat} {ops : Array Oper} {rest : List Oper} {o : Oper} {a : Act} {w : World} {Q : Exit → Act → World → Prop} (hgd : Region.wanted o (yielded ops a.tmps) = true) (s x : Operand)
    (ho : o.op = .call { callee := .builtin .append, args := #[s, x], argTypes := #[22, 22] })
    (base : Nat) (v : Value) (hs : a.eval s = v) (hown : w.ownsRow base 30 1 v 0 (by64 []))
    (sp : Option Addr) (n c : Nat) (L : List Int) (hx : a.eval x = .slice sp n c) (hS : MS N w sp n c L) (hbase : base ≤ w.heap.size)
    (h : ∀ v' w', w'.ownsRow base 30 1 v' n (by64 L) → w.grownBy w' v.ownBlock → wpList Try.prog ops Q rest (a.put o.dst v') w') : wpList Try.prog ops Q (o :: rest) a w := by
  obtain ⟨i0, hi, hz0, hz1, hz2⟩ := info_parts info26
  refine wpList_want hgd fun K hK => ?_
  have hl := hS.len.out
  cases sp with
  | none =>
    obtain ⟨rfl, rfl⟩ := hS.nil rfl
    obtain rfl : L = [] := List.eq_nil_of_length_eq_zero hl.symm
    have hrun := run_append_owned_none (P := Try.prog) (w := w) base 22 o.type 30 i0 1 Try.underlying22 hi v 0 _ hown
    unfold Oper.wp
    simp [execOp, ho, resolve, invoke, builtin, hs, hx, hrun, Result.andThen]
    exact hK _ _ (h v w hown ⟨rfl, rfl, rfl, Nat.le_refl _, fun _ _ _ => rfl⟩)
  | some ad =>
    have hsm := hS.small
    refine wp_append_own w s x 22 ho base 30 i0 (.int .u64 0) 1 8 Try.underlying22 hi hz0 hz1 hz2 rfl (by omega) v 0 _ hs hown ad n c (by64 L) hx (by rw [by64_len]; omega) ?_ (by64_one L) (by unfold maxLen; omega) (by omega) hbase ?_
    · intro j u hj
      have hjl : j < L.length := by have := (List.getElem?_eq_some_iff.1 hj).1; rwa [by64_len] at this
      obtain ⟨b, off, e, -, hB⟩ := hS.at0 (by omega)
      obtain rfl := Option.some.inj e
      rw [by64_get hjl] at hj
      rw [Addr.add_mid, hB j (by omega)]; exact hj
    · intro v' w' h1 h2 _
      exact hK _ _ (h v' w' (by simpa [by64] using h1) h2)
theorem own64 {w : World} {base n : Nat} {v : Value} {L : List Int} (h : w.ownsRow base 30 1 v n (by64 L)) (h0 : 0 < n) :
    ∃ gm cap, v = .slice (some ⟨gm, 0, none⟩) n cap ∧ n = L.length ∧ base ≤ gm ∧ n ≤ cap ∧ cap ≤ 9223372036854775807 ∧ MW w gm L := by
  obtain ⟨hl, h | ⟨g, cap, cur, rfl, hg, hh, hn, hm, hc, ht⟩⟩ := h
  · omega
  · rw [by64_len, Nat.mul_one] at hl
    subst hl
    refine ⟨g, cap, rfl, rfl, hg, hn, by unfold maxLen at hm; omega, cur, hh, fun t htl => ?_⟩
    rw [← Array.getElem?_toList, ← List.getElem?_take_of_lt (show t < L.length * 1 by omega), ht, by64_get htl]
set_option maxHeartbeats 400000 in
theorem clone64_any (sp : Option Addr) (n cap : Nat) (L : List Int) (N : Nat) (w : World) (hS : MS N w sp n cap L) (h0 : 0 < n) :
    Calls Try.prog 30 #[.slice sp n cap] w fun e w' => ∃ gm cap', e = .returned (.slice (some ⟨gm, 0, none⟩) n cap') ∧ w.heap.size ≤ gm ∧ n ≤ cap' ∧ cap' ≤ 9223372036854775807 ∧ MW w' gm L ∧ Below w.heap.size w w' := by
  have q22 : ∀ (w : World) (a : Option Addr) (n c n' c' : Nat), (binOp .eql 22 (.slice a n c) (.slice none n' c')).run Try.prog w = .ok (.bool a.isNone) w := fun w a n c n' c' => Lib.run_eql_slice_nil w _ _ a n c n' c' Try.underlying22
  obtain ⟨g, off, rfl, -⟩ := hS.at0 h0
  have hlit : (w.alloc (.cells #[] 30)).ownsRow w.heap.size 30 1 (.slice (some ⟨w.heap.size, 0, none⟩) 0 0) 0 (by64 []) := World.ownsRow_lit _ _ _ (Nat.le_refl _) (by unfold maxLen; omega) rfl
  have hS' := hS.here.below (alloc_bel' w (.cells #[] 30))
  go_enter Try.func30, Try.ntmps30
  go_wp2_with (at_builtin; go_must (refine append_words (by rfl) (.tmp 5) (.tmp 6) (by rfl) w.heap.size _ (by rfl) hlit (some ⟨g, off, none⟩) n cap L (by rfl) hS' (by simp) ?_; intro v1 w1 hown1 hg1))
  obtain ⟨gm, cap', rfl, -, hb, hc1, hc2, hM⟩ := own64 hown1 h0
  go_ret
  exact ⟨gm, cap', rfl, hb, hc1, hc2, hM, ((Below.refl _ _).alloc (Nat.le_refl _) _).grown hg1 (by simp) (fun k e => by simp [Value.ownBlock] at e; omega)⟩
end Go.Proofs.Ytndonaebdbbofaa
/- Layer mem: what the layers below give. -/
namespace Go.Proofs.Ytndonaebdbbofaa
open Go.RowKit
set_option maxRecDepth 100000
set_option linter.unusedVariables false
set_option linter.unusedSimpArgs false

theorem wrap64_of {x : Int} (h : 0 ≤ x) (h2 : x < 18446744073709551616) : IntKind.u64.wrap x = x := by
  simp only [IntKind.wrap, IntKind.bits, IntKind.signed]; simp; omega
end Go.Proofs.Ytndonaebdbbofaa
/- Layer mem: what the layers below give. -/
namespace Go.Proofs.Ytndonaebdbbofaa
open Go.RowKit
set_option maxRecDepth 100000
set_option linter.unusedVariables false
set_option linter.unusedSimpArgs false

set_option maxHeartbeats 1000000 in
theorem refSize_any (x : Int) (w : World) (hx : -9223372036854775808 ≤ x ∧ x ≤ 9223372036854775807) : Calls Try.prog 10 #[.int .i64 x] w fun e w' => e = .returned (.bool (szI x)) ∧ w' = w := by
  go_enter Try.func10, Try.ntmps10
  go_wp2_with fail
  go_loopw [3] (fun q wr => wr = w ∧ ∃ (k : Nat), q = .int .i64 (k : Int) ∧ k ≤ 13 ∧ Hid (∀ j, j < k → x ≠ ((2 ^ j : Nat) : Int)))
    (fun q _ => 13 - (intOf q).toNat)
  case atStart => exact ⟨rfl, 0, rfl, by omega, Hid.mk' (fun j hj => by omega)⟩
  case round =>
    obtain ⟨rfl, k, rfl, hk, hno⟩ := hrel
    by_cases hlt : k ≤ 12
    · have hI : (k : Int) ≤ 12 := by omega
      have hk0 : (0 : Int) ≤ k := by omega
      obtain ⟨p, hp0⟩ : ∃ p : Int, p = ((2 ^ k : Nat) : Int) := ⟨_, rfl⟩
      have hw1 : wrap64 ((2 : Int) ^ k) = p := by rw [wrap_pow (by omega), hp0]
      replace hp0 := Hid.mk' hp0
      have hw3 : IntKind.u64.wrap (k : Int) = k := wrap64_of (by omega) (by omega)
      by_cases he : x = p
      · have he' : (x == p) = true := by simpa using he
        have hf : Hid (szI x = true) := Hid.mk' (by rw [he, hp0.out, szI_nat]; unfold szB; rw [List.any_eq_true]; exact ⟨k, by simp; omega, by simp⟩)
        replace he := Hid.mk' he
        go_wp2_with fail
        go_ret
        exact ⟨by rw [hf.out]; rfl, rfl⟩
      · have he' : (x == p) = false := by simpa using he
        have hn2 : Hid (∀ j, j < k + 1 → x ≠ ((2 ^ j : Nat) : Int)) := Hid.mk' (fun j hj => by
          by_cases e : j = k
          · subst e; rw [← hp0.out]; exact he
          · exact hno.out j (by omega))
        replace he := Hid.mk' he
        go_wp2_with fail
        go_roundw
        case rel => exact ⟨by trivial, k + 1, by go_num, by omega, hn2⟩
        case measure => simp [intOf]; omega
    · obtain rfl : k = 13 := by omega
      have hf : Hid (szI x = false) := Hid.mk' (by
        cases h : szI x with
        | false => rfl
        | true =>
          unfold szI szB at h
          rw [Bool.and_eq_true, List.any_eq_true] at h
          obtain ⟨h0, j, hj, e⟩ := h
          have h0 := of_decide_eq_true h0
          simp at hj e
          exact absurd (show x = ((2 ^ j : Nat) : Int) by omega) (hno.out j hj))
      go_wp2_with fail
      go_ret
      exact ⟨by rw [hf.out]; rfl, rfl⟩
set_option maxHeartbeats 400000 in
theorem refMay_anyV (m : Mc) (sp : Option Addr) (n cap : Nat) (w : World) (hok : m.ok) (hl : Hid (n = m.me.length)) (hn : n ≤ 17592186044416) :
    Calls Try.prog 50 #[.agg (mcA m sp n cap)] w fun e w' => e = .returned (.bool (mayM m)) ∧ Below w.heap.size w w' := by
  have A0 := Arr.new w 61 (mcA m sp n cap)
  have c17 := (A0.cell 17).trans (mcA_17 hok.r16 sp n cap)
  have c18 := (A0.cell 18).trans (mcA_18 hok.r16 sp n cap)
  have hz : szI (n : Int) = szB m.me.length := by rw [szI_nat, hl.out]
  have hz := Hid.mk' hz
  unfold mayM
  generalize szB m.me.length = b at *
  generalize mcA m sp n cap = C at *
  cases b
  · go_enter Try.func50, Try.ntmps50
    go_wp2_with (go_at_call 10; go_must (refine (refSize_any _ _ (by omega)).mono ?_; rintro e w1 ⟨rfl, h⟩; subst h; rw [hz.out]))
    go_ret
    exact ⟨rfl, alloc_bel' _ _⟩
  · go_enter Try.func50, Try.ntmps50
    go_wp2_with (go_at_call 10; go_must (refine (refSize_any _ _ (by omega)).mono ?_; rintro e w1 ⟨rfl, h⟩; subst h; rw [hz.out]))
    go_ret
    exact ⟨rfl, alloc_bel' _ _⟩
end Go.Proofs.Ytndonaebdbbofaa
/- Layer mem: the small functions. -/
namespace Go.Proofs.Ytndonaebdbbofaa
open Go.RowKit
set_option maxRecDepth 100000
set_option linter.unusedVariables false
set_option linter.unusedSimpArgs false


theorem pow12 {d : Nat} (h : d ≤ 12) : 2 ^ d ≤ 4096 := Nat.pow_le_pow_right (n := 2) (by omega) h
set_option maxHeartbeats 1000000 in
theorem len64_any (d : Nat) (hd : d ≤ 12) (w : World) : Calls Try.prog 80 #[.int .u64 (2 ^ d : Nat)] w fun e w' => e = .returned (.int .i64 ((d : Int) + 1)) ∧ w' = w := by
  rcases (show d = 0 ∨ d = 1 ∨ d = 2 ∨ d = 3 ∨ d = 4 ∨ d = 5 ∨ d = 6 ∨ d = 7 ∨ d = 8 ∨ d = 9 ∨ d = 10 ∨ d = 11 ∨ d = 12 by omega) with rfl | rfl | rfl | rfl | rfl | rfl | rfl | rfl | rfl | rfl | rfl | rfl | rfl
  all_goals
    simp only [Nat.reducePow]
    go_enter Try.func80, Try.ntmps80
    go_wp2
    go_ret
    exact ⟨by kernel_rfl, rfl⟩
set_option maxHeartbeats 400000 in
theorem depthOf_any (d n : Nat) (hd : d ≤ 12) (hn : Hid (n = 2 ^ d)) (w : World) : Calls Try.prog 44 #[.int .i64 (n : Int)] w fun e w' => e = .returned (.int .i64 d) ∧ w' = w := by
  have h4 := pow12 hd
  have hl : ∀ w, Calls Try.prog 80 #[.int .u64 (n : Int)] w fun e w' => e = .returned (.int .i64 ((d : Int) + 1)) ∧ w' = w := fun w => by rw [hn.out]; exact len64_any d hd w
  rw [← hn.out] at h4
  have hlen : ∀ w, Calls Try.prog 65 #[.int .u64 (n : Int)] w fun e w' => e = .returned (.int .i64 ((d : Int) + 1)) ∧ w' = w := fun w => by
    go_enter Try.func65, Try.ntmps65
    go_wp2_with (go_at_call 80; go_must (refine (hl _).mono ?_; rintro e w1 ⟨rfl, h⟩; replace h := h.symm; subst h))
    go_ret
    exact ⟨rfl, rfl⟩
  have hwd : wrap64 ((d : Int) + 1 - 1) = d := by unfold wrap64; omega
  have hwd2 : (d : Int) + 1 - 1 = d := by omega
  have hun : (n : Int) % 18446744073709551616 = n := by omega
  go_enter Try.func44, Try.ntmps44
  go_wp2_with (go_at_call 65; go_must (refine (hlen _).mono ?_; rintro e w1 ⟨rfl, h⟩; replace h := h.symm; subst h))
  go_ret
  exact ⟨by first | rfl | (simp only [hwd]; rfl) | (simp only [hwd2]; rfl), rfl⟩
set_option maxHeartbeats 400000 in
theorem mayDepthM_any (x : Int) (w : World) : Calls Try.prog 45 #[.int .i64 x] w fun e w' => e = .returned (.bool (decide (0 ≤ x ∧ x ≤ 12))) ∧ w' = w := by
  have hD : ∀ w, Calls Try.prog 44 #[.int .i64 4096] w fun e w' => e = .returned (.int .i64 12) ∧ w' = w := fun w => depthOf_any 12 4096 (by omega) (Hid.mk' (by rfl)) w
  by_cases h1 : 0 ≤ x
  · by_cases h2 : x ≤ 12
    · rw [decide_eq_true ⟨h1, h2⟩]
      go_enter Try.func45, Try.ntmps45
      go_wp2_with (go_at_call 44; go_must (refine (hD _).mono ?_; rintro e w1 ⟨rfl, h⟩; replace h := h.symm; subst h))
      go_ret
      exact ⟨rfl, rfl⟩
    · rw [decide_eq_false (fun h => h2 h.2)]
      go_enter Try.func45, Try.ntmps45
      go_wp2_with (go_at_call 44; go_must (refine (hD _).mono ?_; rintro e w1 ⟨rfl, h⟩; replace h := h.symm; subst h))
      go_ret
      exact ⟨by first | rfl | simp [h2], rfl⟩
  · rw [decide_eq_false (fun h => h1 h.1)]
    go_enter Try.func45, Try.ntmps45
    go_wp2_with (go_at_call 44; go_must (refine (hD _).mono ?_; rintro e w1 ⟨rfl, h⟩; replace h := h.symm; subst h))
    go_ret
    exact ⟨rfl, rfl⟩
theorem zmc_ok (L : List Int) (hU : ∀ k, U64 (L.getD k 0)) : (⟨0, List.replicate 16 0, 0, L⟩ : Mc).ok := by
  refine ⟨by simp [U64], by simp, fun k => ?_, ⟨Int.le_refl 0, show (0 : Int) < 256 by decide⟩, hU⟩
  show U64 ((List.replicate 16 (0 : Int)).getD k 0)
  have : (List.replicate 16 (0 : Int)).getD k 0 = 0 := by
    rw [List.getD_eq_getElem?_getD]
    by_cases hk : k < 16
    · rw [List.getElem?_replicate_of_lt hk]; rfl
    · rw [List.getElem?_eq_none (by rw [List.length_replicate]; omega)]; rfl
  rw [this]
  simp [U64]
set_option maxHeartbeats 400000 in
theorem mayBe_any (sp : Option Addr) (n cap : Nat) (L : List Int) (N : Nat) (w : World) (hM : MS N w sp n cap L) (hU : ∀ k, U64 (L.getD k 0)) :
    Calls Try.prog 28 #[.slice sp n cap] w fun e w' => e = .returned (.bool (szB L.length)) ∧ Below w.heap.size w w' := by
  have hm := fun w => may_anyV ⟨0, List.replicate 16 0, 0, L⟩ sp n cap w (zmc_ok L hU) hM.len hM.small
  have hb : mayM ⟨0, List.replicate 16 0, 0, L⟩ = szB L.length := by simp [mayM]
  rw [hb] at hm
  generalize szB L.length = b at *
  have hC : mcA ⟨0, List.replicate 16 0, 0, L⟩ sp n cap = #[.int .u64 0, .int .u64 0, .int .u64 0, .int .u64 0, .int .u64 0, .int .u64 0, .int .u64 0, .int .u64 0, .int .u64 0, .int .u64 0, .int .u64 0, .int .u64 0, .int .u64 0, .int .u64 0, .int .u64 0, .int .u64 0, .int .u64 0, .int .u8 0, .slice sp n cap] := rfl
  rw [hC] at hm
  clear hM hC hb
  go_enter Try.func28, Try.ntmps28
  go_wp2_with (go_at_call 49; go_must (refine (hm _).mono ?_; rintro e w1 ⟨rfl, hb1⟩))
  go_ret
  exact ⟨rfl, hb1⟩
set_option maxHeartbeats 1000000 in
theorem appW_any (base m : Nat) (v : Value) (L : List Int) (n : Int) (w : World) (hown : w.ownsRow base 5 1 v m (by8 L)) (hbase : base ≤ w.heap.size) (hm : m ≤ 1000) :
    Calls Try.prog 51 #[v, .int .u64 n] w fun e w' => ∃ v', e = .returned v' ∧ w'.ownsRow base 5 1 v' (m + 8) (by8 (L ++ e8 n)) ∧ Below base w w' := by
  go_enter Try.func51, Try.ntmps51
  go_wp2_with fail
  go_loopw [0, 5] (fun u q wr => ∃ j : Nat, q = .int .i64 (56 - 8 * (j : Int)) ∧ j ≤ 8 ∧ wr.ownsRow base 5 1 u (m + j) (by8 (L ++ (e8 n).take j)) ∧ Below base w wr ∧ base ≤ wr.heap.size) (fun _ q _ => (intOf q + 8).toNat)
  case atStart => exact ⟨0, rfl, by omega, by simpa using hown, Below.refl _ _, hbase⟩
  case round =>
    obtain ⟨j, rfl, hj, hou, hbl, hsz⟩ := hrel
    clear hown
    by_cases hlt : j < 8
    · have hs0 : (0 : Int) ≤ 56 - 8 * (j : Int) := by omega
      have het : Hid ((e8 n).take (j + 1) = (e8 n).take j ++ [n / 2 ^ (56 - 8 * j) % 256]) := Hid.mk' (e8_take hlt)
      go_wp2_with (at_builtin; go_must (refine append_bytes (by rfl) (.tmp 10) (.tmp 15) (by rfl) base _ (m + j) (L ++ (e8 n).take j) (by rfl) (hou.alloc _) (some ⟨wr.heap.size, 0, none⟩) 1 1 [n / 2 ^ (56 - 8 * j) % 256] (by rfl) (by rfl) (fun h => by cases h) (Arr.sl (Arr.new wr 5 _)) (by omega) (by simp; omega) ?_; intro v2 w2 hown2 hg2; have hB2 := (hbl.alloc hsz _).grown hg2 (by simp; omega) (fun k e => own_ge hou k e); have hs2 : base ≤ w2.heap.size := (by have := hg2.size; simp at this; omega)))
      go_roundw
      case rel => exact ⟨j + 1, by go_num, by omega, by rw [het.out, ← List.append_assoc]; exact hown2, hB2, hs2⟩
      case measure => simp [intOf]; omega
    · obtain rfl : j = 8 := by omega
      have e8' : Hid ((e8 n).take 8 = e8 n) := Hid.mk' (List.take_of_length_le (by rw [e8_len]; exact Nat.le_refl _))
      go_wp2_with fail
      go_ret
      exact ⟨_, rfl, by rw [← e8'.out]; exact hou, hbl⟩
theorem e8_bts (n : Int) : Bts (e8 n) := by
  intro x hx
  simp only [e8, List.mem_map] at hx
  obtain ⟨j, -, rfl⟩ := hx
  omega

set_option maxHeartbeats 1000000 in
theorem leafOf_any (x : Int) (w : World) : Calls Try.prog 31 #[.int .u64 x] w fun e w' => e = .returned (.agg (h8 (lw x))) ∧ Below w.heap.size w w' := by
  obtain ⟨i0, hi, hz0, hz1, hz2⟩ := info_parts info5
  have A0 := Arr.new w 43 (h8 Z32)
  have hb0 := alloc_bel' w (.cells (h8 Z32) 43)
  have hlf := lw_len x
  have hleaf := fun (s : Option Addr) (k c : Nat) (U : World) (h : BS U.heap.size U s k c (e8 x)) => leaf_bs s k c U.heap.size (e8 x) U h
  rw [show lf (e8 x) = lw x from rfl] at hleaf
  generalize lw x = Y at *
  rw [h8_Z] at A0 hb0
  go_enter Try.func31, Try.ntmps31
  go_wp2_with (first
    | (at_make; go_must (refine wpList_make_own _ (by rfl) (.const (.int .i64 0)) (.const (.int .i64 8)) 79 (by rfl) (w.heap.size + 1) 5 i0 (.int .u8 0) 1 Try.underlying79 hi hz0 hz1 .i64 .i64 _ 8 (by rfl) (by rfl) (by omega) (by rw [hz2]; omega) (Nat.le_trans (by omega) maxLen_ge) (by simp) ?_; intro w1 hown1 hg1; have hown1 : w1.ownsRow (w.heap.size + 1) 5 1 (.slice (some ⟨w.heap.size + 1, 0, none⟩) 0 8) 0 (by8 []) := (by simpa [by8] using hown1); have hs1 : w.heap.size + 1 ≤ w1.heap.size := (by have := hg1.size; simpa using this); have A1 : Arr w1 w.heap.size 43 _ := (hg1.block w.heap.size (by simp) (by simp)).trans A0; have hB1 : Below w.heap.size w w1 := hb0.grown hg1 (by simp) (by simp)))
    | (go_at_call 51; go_must (refine (appW_any (w.heap.size + 1) 0 _ [] x _ hown1 hs1 (by omega)).mono ?_; rintro e w2 ⟨v2, rfl, hown2, hb2⟩; obtain ⟨s2, c2, rfl, hS2, hsp2⟩ := own_bs hown2 (by simpa using e8_bts x) (by omega); have A2 := A1.below hb2 (by omega); have hB2 := hB1.trans (hb2.mono (by omega)); have hS2 := hS2.here))
    | (go_at_call 56; go_must (refine (hleaf _ _ _ _ (by simpa using hS2)).mono ?_; rintro e w3 ⟨rfl, hb3⟩; have A3 := A2.below hb3 A2.lt; have hB3 := hB2.trans (hb3.mono (by have := A2.lt; omega))))
    | (refine st24 (by rfl) _ _ (by rfl) w.heap.size Y Z32 (by rfl) (by rfl) hlf Z32_len A3 ?_))
  exact bodyPost_ret (v := .agg (h8 Y)) (res24 Try.results31 rfl hlf (A3.setRow _)) rfl ⟨rfl, below_setRow hB3 (Nat.le_refl _) _⟩
set_option maxHeartbeats 1000000 in
theorem refLeafW_any (x : Int) (w : World) : Calls Try.prog 48 #[.int .u64 x] w fun e w' => e = .returned (.agg (h8 (lw x))) ∧ Below w.heap.size w w' := by
  have A0 := Arr.new w 43 (h8 Z32)
  have hb0 := alloc_bel' w (.cells (h8 Z32) 43)
  have hlf := lw_len x
  have hleaf := fun (s : Option Addr) (c : Nat) (U : World) (h : BS U.heap.size U s 8 c (e8 x)) => refLeaf_bs s 8 c U.heap.size (e8 x) U h (by omega)
  rw [show lf (e8 x) = lw x from rfl] at hleaf
  generalize lw x = Y at *
  rw [h8_Z] at A0 hb0
  go_enter Try.func48, Try.ntmps48
  go_wp2_with (first
    | (go_at_call 53; go_must (refine (eight_any x _).mono ?_; rintro e w2 ⟨v2, rfl, hown2, hb2⟩; obtain ⟨s2, c2, rfl, hS2, hsp2⟩ := own_bs hown2 (e8_bts x) (by omega); have A2 := A0.below hb2 (by simp); have hB2 := hb0.trans (hb2.mono (by simp)); have hS2 := hS2.here))
    | (go_at_call 32; go_must (refine (hleaf _ _ _ hS2).mono ?_; rintro e w3 ⟨rfl, hb3⟩; have A3 := A2.below hb3 A2.lt; have hB3 := hB2.trans (hb3.mono (by have := A2.lt; omega))))
    | (refine st24 (by rfl) _ _ (by rfl) w.heap.size Y Z32 (by rfl) (by rfl) hlf Z32_len A3 ?_))
  exact bodyPost_ret (v := .agg (h8 Y)) (res24 Try.results48 rfl hlf (A3.setRow _)) rfl ⟨rfl, below_setRow hB3 (Nat.le_refl _) _⟩
end Go.Proofs.Ytndonaebdbbofaa
/- Layer mem: what the layers below give. -/
namespace Go.Proofs.Ytndonaebdbbofaa
open Go.RowKit Go.Shelf
set_option maxRecDepth 100000
set_option linter.unusedVariables false
set_option linter.unusedSimpArgs false

theorem HS.other {N : Nat} {w : World} {sp : Option Addr} {n cap : Nat} {ls : List (List Int)} (h : HS N w sp n cap ls) (g o : Nat) (vs : List Value) (hne : ∀ b off, sp = some ⟨b, off, none⟩ → b ≠ g) : HS N (w.setCells g o vs) sp n cap ls :=
  ⟨h.len, h.nil, h.le, h.big, h.small, fun h0 => by
    obtain ⟨b, off, e, hb, hR⟩ := h.at0 h0
    exact ⟨b, off, e, hb, fun i X hX => World.rangeAt_setCells_apart (hR i X hX) _ _ _ (.inl (hne b off e))⟩, h.l32⟩
end Go.Proofs.Ytndonaebdbbofaa
/- Layer mem: what the layers below give. -/
namespace Go.Proofs.Ytndonaebdbbofaa
open Go.RowKit
set_option maxRecDepth 100000
set_option linter.unusedVariables false
set_option linter.unusedSimpArgs false

/-- A machine by value, and its memory. -/
structure MVV (w : World) (m : Mc) (C : Array Value) : Prop where
  ex : ∃ sp n cap, C = mcA m sp n cap ∧ MS w.heap.size w sp n cap m.me
  ok : m.ok
theorem MVV.size {w : World} {m : Mc} {C : Array Value} (h : MVV w m C) : C.size = 19 := by
  obtain ⟨sp, n, cap, rfl, -⟩ := h.ex
  exact mcA_size h.ok.r16 _ _ _
end Go.Proofs.Ytndonaebdbbofaa
/- Layer mem: what the layers below give. -/
namespace Go.Proofs.Ytndonaebdbbofaa
open Go.RowKit Go.Shelf
set_option maxRecDepth 100000
set_option linter.unusedVariables false
set_option linter.unusedSimpArgs false

theorem own_hs2 {w : World} {base n : Nat} {v : Value} {ls : List (List Int)} (h : w.ownsRow base 43 32 v n (flat32 ls)) (hl : ∀ x ∈ ls, x.length = 32) (hn : n = ls.length) (hsm : n ≤ 140737488355328) : ∃ sp cap, v = .slice sp n cap ∧ HS w.heap.size w sp n cap ls ∧ ∀ b off, sp = some ⟨b, off, none⟩ → base ≤ b := by
  obtain ⟨-, h | ⟨g, cap, cur, rfl, hg, hh, hnc, hcm, hc, ht⟩⟩ := h
  · obtain ⟨rfl, rfl⟩ := h
    obtain rfl : ls = [] := List.eq_nil_of_length_eq_zero hn.symm
    exact ⟨none, 0, rfl, HS.nil0 _ _, fun b off e => by cases e⟩
  · refine ⟨_, cap, rfl, ⟨hn, (fun e => by cases e), hnc, by unfold maxLen at hcm; omega, by omega, fun h0 => ⟨g, 0, rfl, (Array.getElem?_eq_some_iff.1 hh).1, fun i X hX j u hu => ?_⟩, hl⟩, fun b off e => by cases e; exact hg⟩
    have hi := (List.getElem?_eq_some_iff.1 hX).1
    have hj : j < 32 := by
      have := (List.getElem?_eq_some_iff.1 hu).1
      rw [by8_len, hl X (List.mem_of_getElem? hX)] at this; exact this
    rw [Nat.zero_add, cell_of_row w g _ cur 43 (0, 0) hh, ← Array.getElem?_toList, ← List.getElem?_take_of_lt (show i * 32 + j < n * 32 by omega), ht]
    exact flat32_at hl hX hu
theorem own_there {w : World} {base n cap : Nat} {sp : Option Addr} {xs : List Value} (h : w.ownsRow base 43 32 (.slice sp n cap) n xs) (h0 : 0 < n) : ∃ g, sp = some ⟨g, 0, none⟩ ∧ base ≤ g ∧ w.there g 0 (n * 32) := by
  obtain ⟨-, h | ⟨g, cap', cur, e, hg, hh, hnc, hcm, hc, ht⟩⟩ := h
  · have := h.2; omega
  · cases e
    refine ⟨g, rfl, hg, fun j hj => ⟨?_, ?_⟩⟩
    · rw [Nat.zero_add, cell_of_row w g _ cur 43 (0, 0) hh, Array.getElem?_eq_getElem (by have := Nat.mul_le_mul_right 32 hnc; omega)]
      rfl
    · simp [World.frozen?, hh]
end Go.Proofs.Ytndonaebdbbofaa
/- Layer mem: a tree in memory. -/
namespace Go.Proofs.Ytndonaebdbbofaa
open Go.RowKit
set_option maxRecDepth 100000
set_option linter.unusedVariables false
set_option linter.unusedSimpArgs false


theorem i64_andNot1 (x : Nat) (hx : x < 4611686018427387904) : bits .andNot .i64 (x : Int) 1 = ((2 * (x / 2) : Nat) : Int) := by
  have e1 : (BitVec.ofInt 64 (x : Int)).toNat = x := by rw [BitVec.ofInt_natCast, BitVec.toNat_ofNat]; exact Nat.mod_eq_of_lt (by omega)
  have h1 : (BitVec.ofInt 64 1).toNat = 1 := by decide
  have key : x &&& 18446744073709551614 = 2 * (x / 2) := by
    have a : (x &&& 18446744073709551614) / 2 = x / 2 := by
      rw [Nat.and_div_two, show 18446744073709551614 / 2 = 2 ^ 63 - 1 by decide, Nat.and_two_pow_sub_one_eq_mod]
      exact Nat.mod_eq_of_lt (by omega)
    have b : (x &&& 18446744073709551614) % 2 = 0 := by
      have h := Nat.and_mod_two_pow (a := x) (b := 18446744073709551614) (n := 1)
      simp only [Nat.pow_one] at h
      rw [h]; simp
    omega
  show IntKind.i64.wrap ((BitVec.ofInt 64 (x : Int) &&& ~~~BitVec.ofInt 64 1).toNat : Int) = _
  rw [BitVec.toNat_and, BitVec.toNat_not, e1, h1, show 2 ^ 64 - 1 - 1 = 18446744073709551614 by decide, key, IntKind.wrap_i64]
  omega
/-- Sums in block g, from its head on. -/
structure HB (w : World) (g : Nat) (T : List (List Int)) : Prop where
  arr : ∃ C, Arr w g 43 C
  sum : ∀ i X, T[i]? = some X → w.rangeAt g (i * 32) (by8 X)
  l32 : ∀ X ∈ T, X.length = 32
theorem HB.below {w w' : World} {g B : Nat} {T : List (List Int)} (h : HB w g T) (hb : Below B w w') (hg : g < B) : HB w' g T :=
  ⟨let ⟨C, hC⟩ := h.arr; ⟨C, hC.below hb hg⟩, fun i X hX => range_below (h.sum i X hX) hb hg, h.l32⟩
theorem HB.lt {w : World} {g : Nat} {T : List (List Int)} (h : HB w g T) : g < w.heap.size := let ⟨_, hC⟩ := h.arr; hC.lt
theorem HB.at {w : World} {g i : Nat} {T : List (List Int)} (h : HB w g T) (hi : i < T.length) : w.rangeAt g (i * 32) (by8 (tat T i)) := h.sum i _ (tat_get hi)
theorem HB.block {w w' : World} {g : Nat} {T : List (List Int)} (h : HB w g T) (hb : w'.heap[g]? = w.heap[g]?) : HB w' g T :=
  ⟨let ⟨C, hC⟩ := h.arr; ⟨C, hb.trans hC⟩, fun i X hX j v hv => (World.cell?_of_block (a := ⟨g, i * 32 + j, none⟩) hb).trans (h.sum i X hX j v hv), h.l32⟩
theorem MW.block' {w w' : World} {g : Nat} {L : List Int} (h : MW w g L) (hb : w'.heap[g]? = w.heap[g]?) : MW w' g L :=
  let ⟨C, hC, h2⟩ := h; ⟨C, hb.trans hC, h2⟩
theorem HB.there {w : World} {g i : Nat} {T : List (List Int)} (h : HB w g T) (hi : i < T.length) : w.there g (i * 32) 32 := fun j hj => by
  obtain ⟨C, hC⟩ := h.arr
  have hX := h.at hi
  have hl := tat_l32 h.l32 hi
  exact ⟨by rw [hX j _ (by8_get (by omega))]; rfl, hC.frozen _⟩
theorem arr_setCells {g ty : Nat} : ∀ (vs : List Value) (o : Nat) (w : World), (∃ C, Arr w g ty C) → ∃ C, Arr (w.setCells g o vs) g ty C
  | [], _, _, h => h
  | v :: r, o, w, ⟨C, h⟩ => by rw [World.setCells]; exact arr_setCells r (o + 1) _ ⟨_, h.set o v⟩
/-- A sum is set. -/
theorem HB.set {w : World} {g i : Nat} {T : List (List Int)} (h : HB w g T) (hi : i < T.length) {X : List Int} (hX : X.length = 32) : HB (w.setCells g (i * 32) (by8 X)) g (T.set i X) := by
  have hth := h.there hi
  refine ⟨arr_setCells _ _ _ h.arr, fun j Y hY => ?_, fun Y hY => ?_⟩
  · by_cases e : i = j
    · subst e
      rw [List.getElem?_set_self hi] at hY
      cases hY
      exact World.rangeAt_setCells_same _ _ _ _ (by rw [by8_len, hX]; exact hth)
    · rw [List.getElem?_set_ne e] at hY
      refine World.rangeAt_setCells_apart (h.sum j Y hY) _ _ _ (.inr ?_)
      rw [by8_len, by8_len, hX, h.l32 Y (List.mem_of_getElem? hY)]
      omega
  · rcases mem_set_or hY with rfl | hY
    · exact hX
    · exact h.l32 Y hY
/-- A word is set. -/
theorem MW.set {w : World} {g i : Nat} {L : List Int} (h : MW w g L) (hi : i < L.length) (x : Int) : MW (w.setCell ⟨g, i, none⟩ (.int .u64 x)) g (L.set i x) := by
  obtain ⟨C, hA, hC⟩ := h
  refine ⟨_, hA.set i _, fun t ht => ?_⟩
  rw [List.length_set] at ht
  have hs : i < C.size := (Array.getElem?_eq_some_iff.1 (hC i hi)).1
  by_cases e : i = t
  · subst e
    rw [Array.getElem?_setIfInBounds_self_of_lt hs]
    simp [List.getD_eq_getElem?_getD, hi]
  · rw [Array.getElem?_setIfInBounds_ne e, hC t ht]
    simp [List.getD_eq_getElem?_getD, List.getElem?_set_ne e]
theorem MW.frozen {w : World} {g i : Nat} {L : List Int} (h : MW w g L) : w.frozen? ⟨g, i, none⟩ = false := by
  obtain ⟨C, hA, hC⟩ := h
  exact hA.frozen i
/-- The function that a tree sums by. -/
def fL : Value := .func (Fn.func 31) #[] #[]
/-- A tree in memory: its three parts, its words, its sums. -/
structure MF (w : World) (g n m : Nat) (L : List Int) (T : List (List Int)) (gt ct gl cl : Nat) : Prop where
  c0 : w.cell? ⟨g, 0, none⟩ = some fL
  c1 : w.cell? ⟨g, 1, none⟩ = some (.slice (some ⟨gt, 0, none⟩) n ct)
  c2 : w.cell? ⟨g, 2, none⟩ = some (.slice (some ⟨gl, 0, none⟩) m cl)
  words : MW w gt L
  sums : HB w gl T
  hL : Hid (L.length = n)
  hT : Hid (T.length = m)
  hm : Hid (m + 1 = 2 * n)
  n0 : 0 < n
  n4 : n ≤ 4096
  ct1 : n ≤ ct
  ct2 : ct ≤ 9223372036854775807
  cl1 : m ≤ cl
  cl2 : cl ≤ 9223372036854775807
  ne1 : g ≠ gt
  ne2 : g ≠ gl
  ne3 : gt ≠ gl
theorem MF.lt {w : World} {g n m : Nat} {L : List Int} {T : List (List Int)} {gt ct gl cl : Nat} (h : MF w g n m L T gt ct gl cl) : g < w.heap.size ∧ gt < w.heap.size ∧ gl < w.heap.size :=
  ⟨block_lt_of_cell h.c0, h.words.lt, h.sums.lt⟩
theorem MF.block {w w' : World} {g n m : Nat} {L : List Int} {T : List (List Int)} {gt ct gl cl : Nat} (h : MF w g n m L T gt ct gl cl) (hb : ∀ k, k = g ∨ k = gt ∨ k = gl → w'.heap[k]? = w.heap[k]?) : MF w' g n m L T gt ct gl cl :=
  { h with
    c0 := (World.cell?_of_block (a := ⟨g, 0, none⟩) (hb g (.inl rfl))).trans h.c0
    c1 := (World.cell?_of_block (a := ⟨g, 1, none⟩) (hb g (.inl rfl))).trans h.c1
    c2 := (World.cell?_of_block (a := ⟨g, 2, none⟩) (hb g (.inl rfl))).trans h.c2
    words := h.words.block' (hb gt (.inr (.inl rfl)))
    sums := h.sums.block (hb gl (.inr (.inr rfl))) }
theorem MF.keep {w w' : World} {g n m : Nat} {L : List Int} {T : List (List Int)} {gt ct gl cl : Nat} (h : MF w g n m L T gt ct gl cl) (hb : Below w.heap.size w w') : MF w' g n m L T gt ct gl cl :=
  h.block (fun k hk => hb.block k (by have := h.lt; rcases hk with rfl | rfl | rfl <;> omega))
theorem MF.below {w w' : World} {B g n m : Nat} {L : List Int} {T : List (List Int)} {gt ct gl cl : Nat} (h : MF w g n m L T gt ct gl cl) (hb : Below B w w') (h1 : g < B) (h2 : gt < B) (h3 : gl < B) : MF w' g n m L T gt ct gl cl :=
  h.block (fun k hk => hb.block k (by rcases hk with rfl | rfl | rfl <;> assumption))
theorem MF.setWord {w : World} {g n m i : Nat} {L : List Int} {T : List (List Int)} {gt ct gl cl : Nat} (h : MF w g n m L T gt ct gl cl) (hi : i < n) (x : Int) : MF (w.setCell ⟨gt, i, none⟩ (.int .u64 x)) g n m (L.set i x) T gt ct gl cl := by
  have e : ∀ k, k ≠ gt → (w.setCell ⟨gt, i, none⟩ (.int .u64 x)).heap[k]? = w.heap[k]? := fun k hk => Below.heap_setCell _ _ _ _ hk
  exact { h with
    c0 := (World.cell?_of_block (a := ⟨g, 0, none⟩) (e g h.ne1)).trans h.c0
    c1 := (World.cell?_of_block (a := ⟨g, 1, none⟩) (e g h.ne1)).trans h.c1
    c2 := (World.cell?_of_block (a := ⟨g, 2, none⟩) (e g h.ne1)).trans h.c2
    words := h.words.set (by rw [h.hL.out]; exact hi) x
    sums := h.sums.block (e gl h.ne3.symm)
    hL := Hid.mk' (by rw [List.length_set]; exact h.hL.out) }
theorem MF.setSum {w : World} {g n m i : Nat} {L : List Int} {T : List (List Int)} {gt ct gl cl : Nat} (h : MF w g n m L T gt ct gl cl) (hi : i < m) {X : List Int} (hX : X.length = 32) : MF (w.setCells gl (i * 32) (by8 X)) g n m L (T.set i X) gt ct gl cl := by
  have e : ∀ k, k ≠ gl → (w.setCells gl (i * 32) (by8 X)).heap[k]? = w.heap[k]? := fun k hk => heap_setCells_other hk _ _ _
  exact { h with
    c0 := (World.cell?_of_block (a := ⟨g, 0, none⟩) (e g h.ne2)).trans h.c0
    c1 := (World.cell?_of_block (a := ⟨g, 1, none⟩) (e g h.ne2)).trans h.c1
    c2 := (World.cell?_of_block (a := ⟨g, 2, none⟩) (e g h.ne2)).trans h.c2
    words := h.words.block' (e gt h.ne3)
    sums := h.sums.set (by rw [h.hT.out]; exact hi) hX
    hT := Hid.mk' (by rw [List.length_set]; exact h.hT.out) }
theorem Chg.setCells' {S : Nat → Prop} {a b : World} {g : Nat} (h : Chg S a b) (hg : S g) : ∀ (vs : List Value) (o : Nat), Chg S a (b.setCells g o vs) := by
  intro vs o
  have hb := below_setCells (Below.refl 0 b) (Nat.zero_le g) vs o
  refine ⟨hb.os.trans h.os, hb.tape.trans h.tape, hb.output.trans h.output, by rw [size_setCells]; exact h.size, fun k hk hS => ?_⟩
  have hne : k ≠ g := by rintro rfl; exact hS hg
  rw [heap_setCells_other hne]; exact h.block k hk hS
theorem Chg.setCell' {S : Nat → Prop} {a b : World} {g o : Nat} (h : Chg S a b) (hg : S g) (v : Value) : Chg S a (b.setCell ⟨g, o, none⟩ v) := Chg.setCells' h hg [v] o
theorem Chg.belowS {S : Nat → Prop} {a b c : World} (h : Chg S a b) (hb : Below b.heap.size b c) : Chg S a c := h.trans (Chg.of_below hb)
/-- A memory: the tree's list is the tree. -/
structure ME (w : World) (g d n m : Nat) (L : List Int) (gt ct gl cl : Nat) : Prop where
  ex : ∃ T, MF w g n m L T gt ct gl cl ∧ TI n (lvs L) T (fun _ => True)
  hd : d ≤ 12
  hn : Hid (n = 2 ^ d)
end Go.Proofs.Ytndonaebdbbofaa
/- Layer mem: top, above, pair. -/
namespace Go.Proofs.Ytndonaebdbbofaa
open Go.RowKit
set_option maxRecDepth 100000
set_option linter.unusedVariables false
set_option linter.unusedSimpArgs false


set_option maxHeartbeats 400000 in
theorem top_any (g m cl gl : Nat) (t : Nat) (w : World) (c2 : w.cell? ⟨g, 2, none⟩ = some (.slice (some ⟨gl, 0, none⟩) m cl)) (hm : m ≤ 10000) (ht : Hid (m = t + 1)) :
    Calls Try.prog 42 #[.pointer (some ⟨g, 0, none⟩)] w fun e w' => e = .returned (.int .i64 (t : Int)) ∧ w' = w := by
  have h1 : (m : Int) - 1 = t := by have := ht.out; omega
  go_enter Try.func42, Try.ntmps42
  go_wp2
  go_ret
  exact ⟨by first | rfl | (simp only [h1]; rfl), rfl⟩
set_option maxHeartbeats 400000 in
theorem above_any (g n ct gt a b : Nat) (w : World) (c1 : w.cell? ⟨g, 1, none⟩ = some (.slice (some ⟨gt, 0, none⟩) n ct)) (hn : n ≤ 10000) (ha : a ≤ 10000) (hb : Hid (b = n + a / 2)) :
    Calls Try.prog 57 #[.pointer (some ⟨g, 0, none⟩), .int .i64 (a : Int)] w fun e w' => e = .returned (.int .i64 (b : Int)) ∧ w' = w := by
  have h1 : (n : Int) + (a : Int) / 2 = b := by have := hb.out; omega
  have h2 : wrap64 ((n : Int) + (a : Int) / 2) = b := by rw [h1]; unfold wrap64; have := hb.out; omega
  go_enter Try.func57, Try.ntmps57
  go_wp2
  go_ret
  exact ⟨by first | rfl | (simp only [h1]; rfl) | (simp only [h2]; rfl), rfl⟩
set_option maxHeartbeats 1000000 in
theorem pair_anyM (g m cl gl a q : Nat) (T : List (List Int)) (w : World) (c2 : w.cell? ⟨g, 2, none⟩ = some (.slice (some ⟨gl, 0, none⟩) m cl)) (hs : HB w gl T) (hT : Hid (T.length = m)) (hm : m ≤ 10000) (hcl : m ≤ cl) (hq : Hid (q = a / 2)) (hqm : 2 * q + 1 < m) (ha : a ≤ 10000) :
    Calls Try.prog 55 #[.pointer (some ⟨g, 0, none⟩), .int .i64 (a : Int)] w fun e w' => e = .returned (.agg (h8 (pr (tat T (2 * q)) (tat T (2 * q + 1))))) ∧ Below w.heap.size w w' := by
  obtain ⟨f, hf⟩ : ∃ f : Nat, f = 2 * q := ⟨_, rfl⟩
  have hbits : bits .andNot .i64 (a : Int) 1 = (f : Int) := by rw [i64_andNot1 a (by omega), hf, hq.out]
  rw [← hf] at hqm ⊢
  have hx := hs.at (i := f) (by rw [hT.out]; omega)
  have hy := hs.at (i := f + 1) (by rw [hT.out]; omega)
  have hx32 := tat_l32 hs.l32 (i := f) (by rw [hT.out]; omega)
  have hy32 := tat_l32 hs.l32 (i := f + 1) (by rw [hT.out]; omega)
  have hP := pr_len (tat T f) (tat T (f + 1))
  have hpair := fun w => pair_h (tat T f) (tat T (f + 1)) w hx32 hy32
  clear hf
  generalize pr (tat T f) (tat T (f + 1)) = R at *
  generalize tat T f = X at *
  generalize tat T (f + 1) = Y at *
  have A0 := Arr.new w 43 (h8 Z32)
  have hb0 := alloc_bel' w (.cells (h8 Z32) 43)
  have hgl := hs.lt
  have d2 : (w.alloc (.cells (h8 Z32) 43)).cell? ⟨g, 2, none⟩ = some (.slice (some ⟨gl, 0, none⟩) m cl) := (hb0.cell (p := ⟨g, 2, none⟩) (block_lt_of_cell c2)).trans c2
  have rx := range_below hx hb0 hgl
  have ry := range_below hy hb0 hgl
  have hfc : f < m := by omega
  have hfI : (f : Int) < m := by omega
  have hf1I : (f : Int) + 1 < m := by omega
  have hf10 : 0 ≤ (f : Int) + 1 := by omega
  have hw1 : IntKind.i64.wrap ((f : Int) + 1) = (f : Int) + 1 := by rw [IntKind.wrap_i64]; omega
  have hfn : ((f : Int) + 1).toNat = f + 1 := by omega
  rw [h8_Z] at A0 hb0 d2 rx ry
  go_enter Try.func55, Try.ntmps55
  go_upto_region 2 with fail
  try simp only [hbits]
  generalize hV : w.alloc (.cells _ 43) = V at *
  have hVs : w.heap.size < V.heap.size := by rw [← hV]; simp
  clear hV
  refine wp_region_held_drew (S := fun u => Below w.heap.size V u ∧ u.cell? ⟨g, 2, none⟩ = some (.slice (some ⟨gl, 0, none⟩) m cl) ∧ u.rangeAt gl (f * 32) (by8 X) ∧ u.rangeAt gl ((f + 1) * 32) (by8 Y)) (by kernel_rfl) ⟨(Below.refl _ _).drew, d2, (World.rangeAt_drew _ _ _ _).2 rx, (World.rangeAt_drew _ _ _ _).2 ry⟩ (fun hHeld => ?_)
  refine wpAnyH_take (i := 0) (oi := ⟨_, _, _, _, _, _⟩) (v := ?_) rfl (by kernel_rfl) (by kernel_rfl) (by kernel_rfl) (fun _ _ _ h => h) (Or.inl ⟨by rfl, ?_⟩) (by assumption) ?_
  rotate_left
  · intro u hSw
    go_simp
    try (with_reducible rfl)
  try simp only [Act.put, List.setIfInBounds_toArray, List.set_cons_zero, List.set_cons_succ]
  refine wpAnyH_take (i := 1) (oi := ⟨_, _, _, _, _, _⟩) (v := ?_) rfl (by kernel_rfl) (by kernel_rfl) (by kernel_rfl) (fun _ _ _ h => h) (Or.inl ⟨by rfl, ?_⟩) (by assumption) ?_
  rotate_left
  · intro u hSw
    go_simp
    try (with_reducible rfl)
  try simp only [Act.put, List.setIfInBounds_toArray, List.set_cons_zero, List.set_cons_succ]
  refine wpAnyH_take (i := 2) (oi := ⟨_, _, _, _, _, _⟩) (v := ?_) rfl (by kernel_rfl) (by kernel_rfl) (by kernel_rfl) (fun _ _ _ h => h) (Or.inl ⟨by rfl, ?_⟩) (by assumption) ?_
  rotate_left
  · intro u hSw
    go_simp
    try (with_reducible rfl)
  try simp only [Act.put, List.setIfInBounds_toArray, List.set_cons_zero, List.set_cons_succ]
  refine wpAnyH_take (i := 3) (oi := ⟨_, _, _, _, _, _⟩) (v := ?_) rfl (by kernel_rfl) (by kernel_rfl) (by kernel_rfl) (fun _ _ _ h => h) (Or.inl ⟨by rfl, ?_⟩) (by assumption) ?_
  rotate_left
  · intro u hSw
    obtain ⟨-, hc, -, -⟩ := hSw
    go_simp
    try (with_reducible rfl)
  try simp only [Act.put, List.setIfInBounds_toArray, List.set_cons_zero, List.set_cons_succ]
  refine wpAnyH_take (i := 4) (oi := ⟨_, _, _, _, _, _⟩) (v := ?_) rfl (by kernel_rfl) (by kernel_rfl) (by kernel_rfl) (fun _ _ _ h => h) (Or.inl ⟨by rfl, ?_⟩) (by assumption) ?_
  rotate_left
  · intro u hSw
    go_simp
    try (with_reducible rfl)
  try simp only [Act.put, List.setIfInBounds_toArray, List.set_cons_zero, List.set_cons_succ]
  refine wpAnyH_take (i := 5) (oi := ⟨_, _, _, _, _, _⟩) (v := ?_) rfl (by kernel_rfl) (by kernel_rfl) (by kernel_rfl) (fun _ _ _ h => h) (Or.inl ⟨by rfl, ?_⟩) (by assumption) ?_
  rotate_left
  · intro u hSw
    go_simp
    try (with_reducible rfl)
  try simp only [Act.put, List.setIfInBounds_toArray, List.set_cons_zero, List.set_cons_succ]
  refine wpAnyH_take (i := 6) (oi := ⟨_, _, _, _, _, _⟩) rfl (by kernel_rfl) (by kernel_rfl) (by kernel_rfl) (fun _ _ _ h => h) (y24 (by rfl) (.tmp 13) rfl (gl) (f * 32) rfl X hx32 (fun u hu => hu.2.2.1)) (by assumption) ?_
  try simp only [Act.put, List.setIfInBounds_toArray, List.set_cons_zero, List.set_cons_succ]
  refine wpAnyH_take (i := 7) (oi := ⟨_, _, _, _, _, _⟩) (v := ?_) rfl (by kernel_rfl) (by kernel_rfl) (by kernel_rfl) (fun _ _ _ h => h) (Or.inl ⟨by rfl, ?_⟩) (by assumption) ?_
  rotate_left
  · intro u hSw
    go_simp
    try (with_reducible rfl)
  try simp only [Act.put, List.setIfInBounds_toArray, List.set_cons_zero, List.set_cons_succ]
  refine wpAnyH_take (i := 8) (oi := ⟨_, _, _, _, _, _⟩) (v := ?_) rfl (by kernel_rfl) (by kernel_rfl) (by kernel_rfl) (fun _ _ _ h => h) (Or.inl ⟨by rfl, ?_⟩) (by assumption) ?_
  rotate_left
  · intro u hSw
    go_simp
    try (with_reducible rfl)
  try simp only [Act.put, List.setIfInBounds_toArray, List.set_cons_zero, List.set_cons_succ]
  refine wpAnyH_take (i := 9) (oi := ⟨_, _, _, _, _, _⟩) (v := ?_) rfl (by kernel_rfl) (by kernel_rfl) (by kernel_rfl) (fun _ _ _ h => h) (Or.inl ⟨by rfl, ?_⟩) (by assumption) ?_
  rotate_left
  · intro u hSw
    go_simp
    try (with_reducible rfl)
  try simp only [Act.put, List.setIfInBounds_toArray, List.set_cons_zero, List.set_cons_succ]
  refine wpAnyH_take (i := 10) (oi := ⟨_, _, _, _, _, _⟩) (v := ?_) rfl (by kernel_rfl) (by kernel_rfl) (by kernel_rfl) (fun _ _ _ h => h) (Or.inl ⟨by rfl, ?_⟩) (by assumption) ?_
  rotate_left
  · intro u hSw
    obtain ⟨-, hc, -, -⟩ := hSw
    go_simp
    try (with_reducible rfl)
  try simp only [Act.put, List.setIfInBounds_toArray, List.set_cons_zero, List.set_cons_succ]
  refine wpAnyH_take (i := 11) (oi := ⟨_, _, _, _, _, _⟩) (v := ?_) rfl (by kernel_rfl) (by kernel_rfl) (by kernel_rfl) (fun _ _ _ h => h) (Or.inl ⟨by rfl, ?_⟩) (by assumption) ?_
  rotate_left
  · intro u hSw
    go_simp
    try (with_reducible rfl)
  try simp only [Act.put, List.setIfInBounds_toArray, List.set_cons_zero, List.set_cons_succ]
  refine wpAnyH_take (i := 12) (oi := ⟨_, _, _, _, _, _⟩) (v := ?_) rfl (by kernel_rfl) (by kernel_rfl) (by kernel_rfl) (fun _ _ _ h => h) (Or.inl ⟨by rfl, ?_⟩) (by assumption) ?_
  rotate_left
  · intro u hSw
    go_simp
    try (with_reducible rfl)
  try simp only [Act.put, List.setIfInBounds_toArray, List.set_cons_zero, List.set_cons_succ]
  refine wpAnyH_take (i := 13) (oi := ⟨_, _, _, _, _, _⟩) (v := ?_) rfl (by kernel_rfl) (by kernel_rfl) (by kernel_rfl) (fun _ _ _ h => h) (Or.inl ⟨by rfl, ?_⟩) (by assumption) ?_
  rotate_left
  · intro u hSw
    go_simp
    try (with_reducible rfl)
  try simp only [Act.put, List.setIfInBounds_toArray, List.set_cons_zero, List.set_cons_succ]
  refine wpAnyH_take (i := 14) (oi := ⟨_, _, _, _, _, _⟩) rfl (by kernel_rfl) (by kernel_rfl) (by kernel_rfl) (fun _ _ _ h => h) (y24 (by rfl) (.tmp 21) rfl (gl) ((f + 1) * 32) rfl Y hy32 (fun u hu => hu.2.2.2)) (by assumption) ?_
  try simp only [Act.put, List.setIfInBounds_toArray, List.set_cons_zero, List.set_cons_succ]
  refine wpAnyH_ready (rs := [15]) (by kernel_rfl) (by simp) ?_
  refine AllReadyH.cons (o := ⟨_, _, _, _, _, _⟩) rfl (fun K hK => ?_) AllReadyH.nil
  go_simp
  refine (hpair _).mono ?_; rintro e u1 ⟨rfl, hb1⟩; have hB1 : Below w.heap.size V u1 := ((Below.refl w.heap.size V).drew).trans (hb1.mono (by have := hVs; simp; omega)); have A1 := A0.drew.below hb1 (by simpa using hVs)
  go_wp2_with fail
  refine hK.out _ _ ⟨hB1, (hB1.cell (p := ⟨g, 2, none⟩) (block_lt_of_cell c2)).trans d2, range_below rx hB1 hgl, range_below ry hB1 hgl⟩ (fun hHeld => ?_)
  clear hK K
  try simp only [Act.put, List.setIfInBounds_toArray, List.set_cons_zero, List.set_cons_succ]
  refine wpAnyH_ready (rs := [16]) (by kernel_rfl) (by simp) ?_
  refine AllReadyH.cons (o := ⟨_, _, _, _, _, _⟩) rfl (fun K hK => ?_) AllReadyH.nil
  refine step_want rfl (wp_store_row 43 (.tmp 4) (.tmp 23) rfl w.heap.size (h8 R) rfl rfl 43 _ A1 (s24h8 hP) (by rw [h8_size, hP]; rfl) (h8_one R) ?_)
  have hB2 := below_setRow hB1 (Nat.le_refl _) (h8 R)
  refine hK.out _ _ ⟨hB2, (hB2.cell (p := ⟨g, 2, none⟩) (block_lt_of_cell c2)).trans d2, range_below rx hB2 hgl, range_below ry hB2 hgl⟩ (fun hHeld => ?_)
  clear hK K
  try simp only [Act.put, List.setIfInBounds_toArray, List.set_cons_zero, List.set_cons_succ]
  refine wpAnyH_done (by kernel_rfl) ?_ _
  go_wp2_with fail
  exact bodyPost_ret (v := .agg (h8 R)) (res24 Try.results55 rfl hP (A1.setRow _)) rfl ⟨rfl, hb0.trans (below_setRow hB1 (Nat.le_refl _) _)⟩
end Go.Proofs.Ytndonaebdbbofaa
