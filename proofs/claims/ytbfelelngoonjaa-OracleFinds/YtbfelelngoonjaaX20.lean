/- Mp, Mq, Mm, Mu. -/
import Derived.Test.YtbfelelngoonjaaX01
import Derived.Test.YtbfelelngoonjaaX02
import Derived.Test.YtbfelelngoonjaaX03
import Derived.Test.YtbfelelngoonjaaX04
import Derived.Test.YtbfelelngoonjaaX05
import Derived.Test.YtbfelelngoonjaaX06
import Derived.Test.YtbfelelngoonjaaX12
import Derived.Test.YtbfelelngoonjaaX13
import Derived.Test.YtbfelelngoonjaaX14
import Derived.Test.YtbfelelngoonjaaX17
import Derived.Test.YtbfelelngoonjaaX18
import Derived.BigQuiet
import Derived.BigRegion
import Derived.ChangeKeysEq
import Derived.Deep.DeepCutAuto
import Derived.Deep.DrawnRows
import Derived.Deep.MidRow
import Derived.Deep.QuietTactic
import Derived.Deep.RegionHeld3
import Derived.Deep.RegionLaw
import Derived.Deep.RegionWith
import Derived.Deep.WholeRow
import Derived.Great.BuildSlice
import Derived.Great.FillDense
import Derived.Laws.AppendOwnNone
import Derived.Laws.BitsLemmas
import Derived.Laws.BytesArg
import Derived.Laws.CopyOwn
import Derived.Laws.OwnMore
import Derived.Lib.SlBytesConst
import Derived.LoopIn
import Derived.LoopNIn
import Derived.OwnWalkIn
import Derived.RangeFuncBound
import Derived.RangeFuncCalls
import Derived.RangeFuncLeaves
import Derived.RangeFuncNested
import Derived.RangeFuncRecord
import Derived.Shelf.Abstract
import Derived.Shelf.RegionOpen
import Derived.TacticsInMore
import Derived.WalkKit
import Derived.WalkLawsBesides
import Derived.WalkSpells
import Derived.Test.YtbfelelngoonjaaX15
import Derived.Test.YtbfelelngoonjaaX16
import Derived.Test.YtbfelelngoonjaaX10
import Derived.Laws.CopyRow
import Derived.Laws.MakeOwn
/- Layer oracle: what the layers below give. -/
namespace Go.Proofs.Ytbfelelngoonjaa
open Go.RowKit Go.Shelf
set_option maxRecDepth 100000
set_option linter.unusedVariables false
set_option linter.unusedSimpArgs false

theorem flat32_len {ls : List (List Int)} (h : ∀ x ∈ ls, x.length = 32) : (flat32 ls).length = ls.length * 32 := by
  induction ls with
  | nil => rfl
  | cons a r ih =>
    have := ih (fun x hx => h x (by simp [hx]))
    have ha := h a (by simp)
    simp only [flat32, List.map_cons, List.flatten_cons, List.length_append, by8_len, List.length_cons] at this ⊢
    omega
theorem flat32_at {ls : List (List Int)} (h : ∀ x ∈ ls, x.length = 32) {i : Nat} {X : List Int} (hX : ls[i]? = some X) {j : Nat} {v : Value} (hv : (by8 X)[j]? = some v) : (flat32 ls)[i * 32 + j]? = some v := by
  induction ls generalizing i with
  | nil => simp at hX
  | cons a r ih =>
    have ha := h a (by simp)
    have hj : j < 32 := by
      have := (List.getElem?_eq_some_iff.1 hv).1
      rw [by8_len, h X (List.mem_of_getElem? hX)] at this; exact this
    simp only [flat32, List.map_cons, List.flatten_cons]
    cases i with
    | zero =>
      simp at hX
      subst hX
      rw [List.getElem?_append_left (by rw [by8_len, ha]; omega)]
      simpa using hv
    | succ i =>
      have := ih (fun x hx => h x (by simp [hx])) (i := i) (by simpa using hX)
      rw [List.getElem?_append_right (by rw [by8_len, ha]; omega), by8_len, ha, show (i + 1) * 32 + j - 32 = i * 32 + j by omega]
      exact this
/-- A slice of the call's own, read. -/
theorem own_hs {w : World} {base n : Nat} {v : Value} {ls : List (List Int)} (h : w.ownsRow base 32 32 v n (flat32 ls)) (hl : ∀ x ∈ ls, x.length = 32) (hn : n = ls.length) (hsm : n ≤ 1000000) : ∃ sp cap, v = .slice sp n cap ∧ HS w.heap.size w sp n cap ls ∧ ∀ b off, sp = some ⟨b, off, none⟩ → base ≤ b := by
  obtain ⟨-, h | ⟨g, cap, cur, rfl, hg, hh, hnc, hcm, hc, ht⟩⟩ := h
  · obtain ⟨rfl, rfl⟩ := h
    obtain rfl : ls = [] := List.eq_nil_of_length_eq_zero hn.symm
    exact ⟨none, 0, rfl, HS.nil0 _ _, fun b off e => by cases e⟩
  · refine ⟨_, cap, rfl, ⟨hn, (fun e => by cases e), hnc, by unfold maxLen at hcm; omega, by omega, fun h0 => ⟨g, 0, rfl, (Array.getElem?_eq_some_iff.1 hh).1, fun i X hX j u hu => ?_⟩, hl⟩, fun b off e => by cases e; exact hg⟩
    have hi := (List.getElem?_eq_some_iff.1 hX).1
    have hj : j < 32 := by
      have := (List.getElem?_eq_some_iff.1 hu).1
      rw [by8_len, hl X (List.mem_of_getElem? hX)] at this; exact this
    rw [Nat.zero_add, cell_of_row w g _ cur 32 (0, 0) hh, ← Array.getElem?_toList, ← List.getElem?_take_of_lt (show i * 32 + j < n * 32 by omega), ht]
    exact flat32_at hl hX hu
theorem wp_bld2 {o : Oper} {a : Act} {w : World} {K : Act → World → Prop} {Q : Exit → Act → World → Prop} (x y : Operand) (ho : o.op = .buildSlice 90 2 #[(0, x), (1, y)]) (X Y : List Int) (hx : a.eval x = .agg (h8 X)) (hy : a.eval y = .agg (h8 Y)) (hX : X.length = 32) (hY : Y.length = 32)
    (h : K (a.put o.dst (.slice (some ⟨w.heap.size, 0, none⟩) 2 2)) (w.alloc (.cells (flat32 [X, Y]).toArray 32))) : o.wp Try.prog a w K Q := by
  obtain ⟨i0, hi0, hz0, hz1, hz2⟩ := info_parts info24
  refine wp_buildSlice 90 32 2 _ ho (flat32 [X, Y]).toArray i0 (.agg (h8 Z32)) Try.underlying90 hi0 hz0 (by rw [hz1]; omega) (by rw [hz1]; omega) ?_ h
  have e : (#[(0, x), (1, y)].map fun (p : Nat × Operand) => (p.1, a.eval p.2)).toList = ([Value.agg (h8 X), Value.agg (h8 Y)].zipIdx 0).map fun x => (x.2, x.1) := by simp [hx, hy]
  rw [hz1]
  refine Eq.trans (congrArg _ e) ?_
  rw [Great.fill_whole (s := 32) (by omega) [.agg (h8 X), .agg (h8 Y)] _ (fun v hv => by
    simp only [List.mem_cons, List.not_mem_nil, or_false] at hv
    rcases hv with rfl | rfl
    · show (h8 X).size = 32; rw [h8_size, hX]
    · show (h8 Y).size = 32; rw [h8_size, hY]) (by simp)]
  simp [Value.cells, h8, flat32]
/-- A literal's slice. -/
theorem hs_lit {w : World} {g : Nat} {ls : List (List Int)} {m : Nat} (h : Arr w g 32 (flat32 ls).toArray) (hl : ∀ x ∈ ls, x.length = 32) (hm : m = ls.length) (hsm : m ≤ 1000) : HS w.heap.size w (some ⟨g, 0, none⟩) m m ls :=
  ⟨hm, (fun e => by cases e), Nat.le_refl _, by omega, by omega, fun h0 => ⟨g, 0, rfl, h.lt, fun i X hX j u hu => by
    rw [Nat.zero_add, h.cell]
    simpa using flat32_at hl hX hu⟩, hl⟩
end Go.Proofs.Ytbfelelngoonjaa
/- Layer oracle: what the layers below give. -/
namespace Go.Proofs.Ytbfelelngoonjaa
open Go.RowKit Go.Shelf
set_option maxRecDepth 100000
set_option linter.unusedVariables false
set_option linter.unusedSimpArgs false

theorem b1L {ops : Array Oper} {rest : List Oper} {o : Oper} {a : Act} {w : World} {Q : Exit → Act → World → Prop} (hgd : Region.wanted o (yielded ops a.tmps) = true) (x : Operand) (ho : o.op = .buildSlice 90 1 #[(0, x)]) (X : List Int) (hx : a.eval x = .agg (h8 X)) (hX : X.length = 32)
    (h : wpList Try.prog ops Q rest (a.put o.dst (.slice (some ⟨w.heap.size, 0, none⟩) 1 1)) (w.alloc (.cells (h8 X) 32))) : wpList Try.prog ops Q (o :: rest) a w :=
  wpList_want hgd fun _ hK => wp_bld1 x ho X hx hX (hK _ _ h)
end Go.Proofs.Ytbfelelngoonjaa
/- Layer oracle: what the layers below give. -/
namespace Go.Proofs.Ytbfelelngoonjaa
open Go.RowKit Go.Shelf
set_option maxRecDepth 100000
set_option linter.unusedVariables false
set_option linter.unusedSimpArgs false

/-- Levels that nothing waits at. -/
def zz : Array Value := arr 544 fun _ => .int .u8 0
theorem zz_get {t : Nat} (h : t < 544) : zz[t]? = some (.int .u8 0) := arr_get h
theorem bat_Z (j : Nat) : bat Z32 j = 0 := by
  unfold bat Z32
  rw [List.getD_eq_getElem?_getD, List.getElem?_replicate]
  split <;> rfl
theorem lv_new {w : World} {g ty : Nat} (h : Arr w g ty zz) : LV w g (fun _ => Z32) := by
  refine ⟨fun k hk j v hv => ?_, fun _ => Z32_len, fun j hj => ⟨?_, h.frozen _⟩⟩
  · have hj : j < 32 := by
      have := (List.getElem?_eq_some_iff.1 hv).1
      rw [by8_len, Z32_len] at this; exact this
    rw [h.cell, zz_get (by omega), ← hv, by8_get (by rw [Z32_len]; exact hj), bat_Z]
  · rw [h.cell, zz_get (by omega)]; rfl
theorem zero72 : (Try.prog.info? 149).map (·.zero) = some (some (.agg zz)) := by kernel_rfl
theorem zeroValue72 (w : World) : (zeroValue 149).run Try.prog w = .ok (.agg zz) w := by
  have h := zero72
  cases hq : Try.prog.info? 149 with
  | none => rw [hq] at h; cases h
  | some i =>
    rw [hq] at h
    have hz : i.zero = some (.agg zz) := by simpa using h
    simp [zeroValue, typeInfo, hq, hz]
set_option maxRecDepth 100000 in
set_option maxHeartbeats 1000000 in
theorem build_any (d N : Nat) (sp : Option Addr) (n cap : Nat) (ls : List (List Int)) (w : World) (hd : d ≤ 16) (hS : HS N w sp n cap ls) (hn : n ≤ 2 ^ d) :
    Calls Try.prog 106 #[.int .i64 d, .slice sp n cap, .func (Fn.func 107) #[] #[]] w fun e w' => e = .returned (.agg (h8 (tr d ls))) ∧ Below w.heap.size w w' := by
  have hS := hS.here
  have hl := hS.len
  have hsm := hS.small
  have h16 := pow16 hd
  have hn16 : n ≤ 65536 := by omega
  clear h16
  have hwd := width_any d hd
  obtain ⟨p, hp⟩ : ∃ p : Nat, p = 2 ^ d := ⟨_, rfl⟩
  rw [← hp] at hwd hn
  replace hp := Hid.mk' hp
  have hz72 := zeroValue72
  have A0 := (Arr.new w 32 (h8 Z32)).alloc (.cells zz 149)
  have A1 := Arr.new (w.alloc (.cells (h8 Z32) 32)) 149 zz
  rw [World.size_alloc] at A1
  have hb0 : Below w.heap.size w ((w.alloc (.cells (h8 Z32) 32)).alloc (.cells zz 149)) := (alloc_bel' w _).alloc (by simp) _
  have L0 := lv_new A1
  have hl32 := hS.l32
  go_enter Try.func106, Try.ntmps106
  go_wp2_with fail

  go_loopw [12] (fun q wr => ∃ (j : Nat) (W : Nat → List Int), q = .int .i64 (j : Int) ∧ j ≤ n ∧ Below w.heap.size w wr ∧ w.heap.size + 2 ≤ wr.heap.size ∧ Arr wr w.heap.size 32 (h8 Z32) ∧ LV wr (w.heap.size + 1) W ∧ Hid (Wt ls j W))
    (fun q _ => n - (intOf q).toNat)
  case atStart => exact ⟨0, fun _ => Z32, rfl, by omega, hb0, by simp, A0, L0, Hid.mk' (wt_zero ls _)⟩
  case round =>
    clear A0 A1 hb0 L0 hz72
    obtain ⟨j, W, rfl, hj, hbl, hsz, R0, R1, hW⟩ := hrel
    by_cases hlt : j < n
    · have hI : (j : Int) < n := by omega
      have hSr := hS.below hbl
      obtain ⟨g, off, rfl, hgN, hR⟩ := hSr.at0 (by omega)
      obtain ⟨X, hX⟩ : ∃ X, ls[j]? = some X := ⟨ls[j]'(by rw [← hl.out]; exact hlt), List.getElem?_eq_getElem _⟩
      have hX32 := hl32 X (List.mem_of_getElem? hX)
      have hRX := hR j X hX
      have X1 := Arr.new wr 32 (h8 X)
      have R0' := R0.alloc (.cells (h8 X) 32)
      have hbX := hbl.alloc (by omega) (.cells (h8 X) 32)
      have R1' := R1.below (alloc_bel' wr (.cells (h8 X) 32)) (by omega)
      replace hX := Hid.mk' hX
      go_wp2_with (first
        | (refine ld24 (by rfl) _ (by rfl) g (off + j * 32) (by rfl) X hX32 hRX ?_)
        | (refine st24n (by rfl) _ _ (by rfl) wr wr.heap.size rfl (by rfl) X (by rfl) (by rfl) hX32 ?_)
        | (refine ld24 (by rfl) _ (by rfl) wr.heap.size 0 (by rfl) X hX32 X1.range ?_)
        | (go_at_call 107; go_must (refine (itself_any X hX32 _).mono ?_; rintro e w2 ⟨rfl, hb2⟩; have hs2 := hb2.size; simp at hs2; have S0 := R0'.below hb2 (by simp <;> omega); have S1 := R1'.below hb2 (by simp <;> omega); have hb2w := hbX.trans (hb2.mono (by simp <;> omega))))
        | (go_at_call 108; go_must (refine (put_any ls j X W (w.heap.size + 1) _ hX32 hX.out (by omega) S1 hW.out).mono ?_; rintro e w3 ⟨⟨v3, rfl⟩, w4, k, r, hb4, hk, hr, rfl, hW4⟩; have hs4 := hb4.size)))
      go_roundw
      case rel =>
        have T1 := (S1.below hb4 (by omega)).set hk hr
        exact ⟨j + 1, _, by go_num, by omega, below_setCells (hb2w.trans (hb4.mono (by omega))) (by omega) _ _, by rw [size_setCells]; omega, (S0.below hb4 (by omega)).setCellsOther (by omega) _ _, T1, Hid.mk' hW4⟩
      case measure => simp [intOf]; omega
    · obtain rfl : j = n := by omega
      have hI : ¬ (j : Int) < j := by omega
      by_cases hall : j = p
      · have hallI : ((j : Int) == p) = true := by rw [beq_iff_eq]; omega
        have hW1 : W d = tr d ls := by
          have h := hW.out
          rw [hall, hp.out] at h
          exact wt_all h
        have hRd := R1.rg d (by omega)
        have hd32 := R1.l32 d
        have hdI : (d : Int) < 17 := by omega
        have hd0 : (0 : Int) ≤ d := by omega
        replace hW1 := Hid.mk' hW1
        replace hall := Hid.mk' hall
        go_wp2_with (first
          | (go_at_call 105; go_must (refine (hwd _).mono ?_; rintro e w2 ⟨rfl, rfl⟩))
          | (refine ld24 (by rfl) _ (by rfl) (w.heap.size + 1) (d * 32) (by rfl) (W d) hd32 hRd ?_)
          | (refine st24 (by rfl) _ _ (by rfl) w.heap.size (W d) Z32 (by rfl) (by rfl) hd32 Z32_len R0 ?_))
        exact bodyPost_ret (v := .agg (h8 (W d))) (res24 Try.results106 rfl hd32 (R0.setRow _)) rfl ⟨by rw [hW1.out], below_setRow hbl (Nat.le_refl _) _⟩
      · have hallI : ((j : Int) == p) = false := by rw [beq_eq_false_iff_ne]; omega
        have hlt2 : j < 2 ^ d := by rw [← hp.out]; omega
        have hfill := fill_any ls W (w.heap.size + 1) d j _ hl32 hd R1 hl.out hW.out hlt2
        have ht32 := tr_len d ls hl32
        replace hlt2 := Hid.mk' hlt2
        replace hall := Hid.mk' hall
        go_wp2_with (first
          | (go_at_call 105; go_must (refine (hwd _).mono ?_; rintro e w2 ⟨rfl, rfl⟩))
          | (go_at_call 109; go_must (refine hfill.mono ?_; rintro e w3 ⟨rfl, hb3⟩; have S0 := R0.below hb3 (by omega)))
          | (refine st24 (by rfl) _ _ (by rfl) w.heap.size (tr d ls) Z32 (by rfl) (by rfl) ht32 Z32_len S0 ?_))
        exact bodyPost_ret (v := .agg (h8 (tr d ls))) (res24 Try.results106 rfl ht32 (S0.setRow _)) rfl ⟨rfl, below_setRow (hbl.trans (hb3.mono (by omega))) (Nat.le_refl _) _⟩
end Go.Proofs.Ytbfelelngoonjaa
/- Layer oracle: what the layers below give. -/
namespace Go.Proofs.Ytbfelelngoonjaa
open Go.RowKit
set_option maxRecDepth 100000
set_option linter.unusedVariables false
set_option linter.unusedSimpArgs false

theorem zeros32 (k : Nat) : ∀ x ∈ List.replicate k Z32, x.length = 32 := fun x hx => by rw [(List.mem_replicate.1 hx).2]; exact Z32_len
theorem made24 (k : Nat) : madeCells (Value.agg (h8 Z32)).cells (k * 32) = (flat32 (List.replicate k Z32)).toArray := by
  apply Array.ext_getElem?
  intro j
  by_cases hj : j < k * 32
  · have hd : j / 32 < k := by omega
    have hm : j % 32 < 32 := Nat.mod_lt _ (by omega)
    have h1 : (flat32 (List.replicate k Z32))[j / 32 * 32 + j % 32]? = some (.int .u8 0) := flat32_at (zeros32 k) (X := Z32) (by rw [List.getElem?_replicate, if_pos hd]) (by rw [by8_get (by rw [Z32_len]; exact hm), bat_Z])
    rw [Nat.div_add_mod' j 32] at h1
    have h2 : (h8 Z32)[j % 32]? = some (.int .u8 0) := by rw [h8_get (by rw [Z32_len]; exact hm), bat_Z]
    have h3 : (h8 Z32)[j % (h8 Z32).size]! = .int .u8 0 := by
      rw [h8_size, Z32_len, getElem!_def, h2]
    have h4 : (flat32 (List.replicate k Z32)).toArray[j]? = some (.int .u8 0) := by simpa using h1
    rw [h4]
    simp only [madeCells, Value.cells]
    rw [Array.getElem?_map, Array.getElem?_eq_getElem (by simpa using hj)]
    simp only [Array.getElem_range, Option.map_some]
    rw [h3]
  · rw [Array.getElem?_eq_none (by rw [size_madeCells]; omega), Array.getElem?_eq_none (by rw [List.size_toArray, flat32_len (zeros32 k), List.length_replicate]; omega)]
theorem flat32_of {ls : List (List Int)} (hl : ∀ x ∈ ls, x.length = 32) {j : Nat} {v : Value} (h : (flat32 ls)[j]? = some v) : ∃ X, ls[j / 32]? = some X ∧ (by8 X)[j % 32]? = some v := by
  have hj := (List.getElem?_eq_some_iff.1 h).1
  rw [flat32_len hl] at hj
  have hd : j / 32 < ls.length := by omega
  obtain ⟨X, hX⟩ : ∃ X, ls[j / 32]? = some X := ⟨ls[j / 32], List.getElem?_eq_getElem hd⟩
  have h32 := hl X (List.mem_of_getElem? hX)
  have hm : j % 32 < 32 := Nat.mod_lt _ (by omega)
  have h1 := flat32_at hl hX (by8_get (L := X) (t := j % 32) (by omega))
  rw [Nat.div_add_mod' j 32, h] at h1
  refine ⟨X, hX, ?_⟩
  rw [by8_get (by omega)]
  exact h1.symm
theorem flat32_append (a b : List (List Int)) : flat32 (a ++ b) = flat32 a ++ flat32 b := by simp [flat32]
/-- copy of sums over noughts. -/
theorem run_copy24 (w : World) (g k N : Nat) (sp : Option Addr) (n cap : Nat) (ls : List (List Int)) (ty : TypeId) (hS : HS N w sp n cap ls) (hA : Arr w g 32 (flat32 (List.replicate k Z32)).toArray) (hn : n ≤ k) :
    (Builtin.copy_ #[90, 90] ty #[.slice (some ⟨g, 0, none⟩) k k, .slice sp n cap]).run Try.prog w = .ok (goInt n) (w.setRow g (flat32 (ls ++ List.replicate (k - n) Z32)).toArray) := by
  have hln := hS.len.out
  have hlen := flat32_len hS.l32
  obtain ⟨i0, hi0, hz0, hz1, hz2⟩ := info_parts info24
  by_cases h0 : n = 0
  · subst h0
    obtain rfl : ls = [] := List.eq_nil_of_length_eq_zero hln.symm
    have e : w.setRow g (flat32 ([] ++ List.replicate (k - 0) Z32)).toArray = w := by
      simp only [List.nil_append, Nat.sub_zero]
      exact setRow_self w g _ 32 (0, 0) hA
    rw [e]
    cases sp with
    | none => simp [Builtin.copy_, run_underlying Try.underlying90, Builtin.lenOf, Builtin.firstCells, sizeOf, typeInfo, hi0, storeCells]
    | some ad => simp [Builtin.copy_, run_underlying Try.underlying90, Builtin.lenOf, Builtin.firstCells, sizeOf, typeInfo, hi0, loadCells, loadCellsFrom, storeCells]
  · obtain ⟨b, off, rfl, -, hR⟩ := hS.at0 (by omega)
    have hl := run_loadCells_list (P := Try.prog) w ⟨b, off, none⟩ (flat32 ls) (fun j v hv => by
      obtain ⟨X, hX, hv'⟩ := flat32_of hS.l32 hv
      have := hR _ X hX _ v hv'
      rw [Addr.add_mid]
      rwa [Nat.add_assoc, Nat.div_add_mod' j 32] at this)
    have hst := run_storeCells_at Try.prog g 0 32 (flat32 ls) 0 _ w hA (by rw [List.size_toArray, flat32_len (zeros32 k), List.length_replicate, hlen]; omega) (fun v hv => by
      obtain ⟨L, hL, hv'⟩ := List.mem_flatten.1 hv
      obtain ⟨X, -, rfl⟩ := List.mem_map.1 hL
      exact by8_one X v hv')
    have e : (List.take (0 + 0) (flat32 (List.replicate k Z32)).toArray.toList ++ flat32 ls ++ List.drop (0 + 0 + (flat32 ls).length) (flat32 (List.replicate k Z32)).toArray.toList) = flat32 (ls ++ List.replicate (k - n) Z32) := by
      rw [flat32_append]
      simp only [Nat.add_zero, Nat.zero_add, List.take_zero, List.nil_append]
      congr 1
      have hsplit : List.replicate k Z32 = List.replicate n Z32 ++ List.replicate (k - n) Z32 := by rw [List.replicate_append_replicate]; congr 1; omega
      rw [hsplit, flat32_append]
      rw [List.drop_append_of_le_length (by rw [hlen, flat32_len (zeros32 n), List.length_replicate, hln]; exact Nat.le_refl _), List.drop_eq_nil_of_le (by rw [hlen, flat32_len (zeros32 n), List.length_replicate, hln]; exact Nat.le_refl _)]
      rfl
    rw [e] at hst
    rw [hlen, ← hln] at hl
    have hmin : Nat.min n k = n := Nat.min_eq_left hn
    simp [Builtin.copy_, run_underlying Try.underlying90, Builtin.lenOf, Builtin.firstCells, sizeOf, typeInfo, hi0, hz1, hmin, hl, hst]
end Go.Proofs.Ytbfelelngoonjaa
