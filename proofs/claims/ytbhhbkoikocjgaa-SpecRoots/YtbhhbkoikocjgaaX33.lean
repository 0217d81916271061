/- ZMp, ZMm, ZMn, ZMq, ZMv, ZMy. -/
import Derived.Test.YtbhhbkoikocjgaaX01
import Derived.Test.YtbhhbkoikocjgaaX02
import Derived.Test.YtbhhbkoikocjgaaX03
import Derived.Test.YtbhhbkoikocjgaaX04
import Derived.Test.YtbhhbkoikocjgaaX05
import Derived.Test.YtbhhbkoikocjgaaX06
import Derived.Test.YtbhhbkoikocjgaaX07
import Derived.Test.YtbhhbkoikocjgaaX30
import Derived.Test.YtbhhbkoikocjgaaX32
import Derived.BigQuiet
import Derived.BigRegion
import Derived.ChangeKeysEq
import Derived.Deep.DeepCutAuto
import Derived.Deep.DrawnRows
import Derived.Deep.MidRow
import Derived.Deep.QuietTactic
import Derived.Deep.RegionHeld3
import Derived.Deep.RegionLaw
import Derived.Deep.RegionWith
import Derived.Deep.WholeRow
import Derived.Great.BuildSlice
import Derived.Great.FillDense
import Derived.Laws.AppendOwnNone
import Derived.Laws.BitsLemmas
import Derived.Laws.BytesArg
import Derived.Laws.CopyOwn
import Derived.Laws.OwnMore
import Derived.Lib.SlBytesConst
import Derived.LoopIn
import Derived.LoopNIn
import Derived.OwnWalkIn
import Derived.RangeFuncBound
import Derived.RangeFuncCalls
import Derived.RangeFuncLeaves
import Derived.RangeFuncNested
import Derived.RangeFuncRecord
import Derived.Shelf.Abstract
import Derived.Shelf.RegionOpen
import Derived.TacticsInMore
import Derived.WalkKit
import Derived.WalkLawsBesides
import Derived.WalkSpells
import Derived.Test.YtbhhbkoikocjgaaX08
import Derived.Test.YtbhhbkoikocjgaaX26
import Derived.Test.YtbhhbkoikocjgaaX14
import Derived.Test.YtbhhbkoikocjgaaX27
import Derived.Test.YtbhhbkoikocjgaaX31
import Derived.Laws.CopyRow
import Derived.Laws.MakeOwn
/- Layer spec: what the layers below give. -/
namespace Go.Proofs.Ytbhhbkoikocjgaa
set_option linter.unusedSectionVars false
set_option maxHeartbeats 1000000
open Go.RowKit Go.Shelf
set_option maxRecDepth 100000
set_option linter.unusedVariables false
set_option linter.unusedSimpArgs false

variable [DecidableEq Ac] [DecidableEq Ou] [DecidableEq Mg]
theorem flat32_len {ls : List (List Int)} (h : ∀ x ∈ ls, x.length = 32) : (flat32 ls).length = ls.length * 32 := by
  induction ls with
  | nil => rfl
  | cons a r ih =>
    have := ih (fun x hx => h x (by simp [hx]))
    have ha := h a (by simp)
    simp only [flat32, List.map_cons, List.flatten_cons, List.length_append, by8_len, List.length_cons] at this ⊢
    omega
theorem flat32_at {ls : List (List Int)} (h : ∀ x ∈ ls, x.length = 32) {i : Nat} {X : List Int} (hX : ls[i]? = some X) {j : Nat} {v : Value} (hv : (by8 X)[j]? = some v) : (flat32 ls)[i * 32 + j]? = some v := by
  induction ls generalizing i with
  | nil => simp at hX
  | cons a r ih =>
    have ha := h a (by simp)
    have hj : j < 32 := by
      have := (List.getElem?_eq_some_iff.1 hv).1
      rw [by8_len, h X (List.mem_of_getElem? hX)] at this; exact this
    simp only [flat32, List.map_cons, List.flatten_cons]
    cases i with
    | zero =>
      simp at hX
      subst hX
      rw [List.getElem?_append_left (by rw [by8_len, ha]; omega)]
      simpa using hv
    | succ i =>
      have := ih (fun x hx => h x (by simp [hx])) (i := i) (by simpa using hX)
      rw [List.getElem?_append_right (by rw [by8_len, ha]; omega), by8_len, ha, show (i + 1) * 32 + j - 32 = i * 32 + j by omega]
      exact this
/-- A slice of the call's own, read. -/
theorem own_hs {w : World} {base n : Nat} {v : Value} {ls : List (List Int)} (h : w.ownsRow base 24 32 v n (flat32 ls)) (hl : ∀ x ∈ ls, x.length = 32) (hn : n = ls.length) (hsm : n ≤ 1000000) : ∃ sp cap, v = .slice sp n cap ∧ HS w.heap.size w sp n cap ls ∧ ∀ b off, sp = some ⟨b, off, none⟩ → base ≤ b := by
  obtain ⟨-, h | ⟨g, cap, cur, rfl, hg, hh, hnc, hcm, hc, ht⟩⟩ := h
  · obtain ⟨rfl, rfl⟩ := h
    obtain rfl : ls = [] := List.eq_nil_of_length_eq_zero hn.symm
    exact ⟨none, 0, rfl, HS.nil0 _ _, fun b off e => by cases e⟩
  · refine ⟨_, cap, rfl, ⟨hn, (fun e => by cases e), hnc, by unfold maxLen at hcm; omega, by omega, fun h0 => ⟨g, 0, rfl, (Array.getElem?_eq_some_iff.1 hh).1, fun i X hX j u hu => ?_⟩, hl⟩, fun b off e => by cases e; exact hg⟩
    have hi := (List.getElem?_eq_some_iff.1 hX).1
    have hj : j < 32 := by
      have := (List.getElem?_eq_some_iff.1 hu).1
      rw [by8_len, hl X (List.mem_of_getElem? hX)] at this; exact this
    rw [Nat.zero_add, cell_of_row w g _ cur 24 (0, 0) hh, ← Array.getElem?_toList, ← List.getElem?_take_of_lt (show i * 32 + j < n * 32 by omega), ht]
    exact flat32_at hl hX hu
theorem wp_bld2 {o : Oper} {a : Act} {w : World} {K : Act → World → Prop} {Q : Exit → Act → World → Prop} (x y : Operand) (ho : o.op = .buildSlice 49 2 #[(0, x), (1, y)]) (X Y : List Int) (hx : a.eval x = .agg (h8 X)) (hy : a.eval y = .agg (h8 Y)) (hX : X.length = 32) (hY : Y.length = 32)
    (h : K (a.put o.dst (.slice (some ⟨w.heap.size, 0, none⟩) 2 2)) (w.alloc (.cells (flat32 [X, Y]).toArray 24))) : o.wp Try.prog a w K Q := by
  obtain ⟨i0, hi0, hz0, hz1, hz2⟩ := info_parts info24
  refine wp_buildSlice 49 24 2 _ ho (flat32 [X, Y]).toArray i0 (.agg (h8 Z32)) Try.underlying49 hi0 hz0 (by rw [hz1]; omega) (by rw [hz1]; omega) ?_ h
  have e : (#[(0, x), (1, y)].map fun (p : Nat × Operand) => (p.1, a.eval p.2)).toList = ([Value.agg (h8 X), Value.agg (h8 Y)].zipIdx 0).map fun x => (x.2, x.1) := by simp [hx, hy]
  rw [hz1]
  refine Eq.trans (congrArg _ e) ?_
  rw [Great.fill_whole (s := 32) (by omega) [.agg (h8 X), .agg (h8 Y)] _ (fun v hv => by
    simp only [List.mem_cons, List.not_mem_nil, or_false] at hv
    rcases hv with rfl | rfl
    · show (h8 X).size = 32; rw [h8_size, hX]
    · show (h8 Y).size = 32; rw [h8_size, hY]) (by simp)]
  simp [Value.cells, h8, flat32]
/-- A literal's slice. -/
theorem hs_lit {w : World} {g : Nat} {ls : List (List Int)} {m : Nat} (h : Arr w g 24 (flat32 ls).toArray) (hl : ∀ x ∈ ls, x.length = 32) (hm : m = ls.length) (hsm : m ≤ 1000) : HS w.heap.size w (some ⟨g, 0, none⟩) m m ls :=
  ⟨hm, (fun e => by cases e), Nat.le_refl _, by omega, by omega, fun h0 => ⟨g, 0, rfl, h.lt, fun i X hX j u hu => by
    rw [Nat.zero_add, h.cell]
    simpa using flat32_at hl hX hu⟩, hl⟩
end Go.Proofs.Ytbhhbkoikocjgaa
/- Layer spec: what the layers below give. -/
namespace Go.Proofs.Ytbhhbkoikocjgaa
set_option linter.unusedSectionVars false
set_option maxHeartbeats 1000000
open Go.RowKit Go.Shelf
set_option maxRecDepth 100000
set_option linter.unusedVariables false
set_option linter.unusedSimpArgs false

variable [DecidableEq Ac] [DecidableEq Ou] [DecidableEq Mg]
/-- Levels that nothing waits at. -/
def zz : Array Value := arr 544 fun _ => .int .u8 0
theorem zz_get {t : Nat} (h : t < 544) : zz[t]? = some (.int .u8 0) := arr_get h
theorem lv_new {w : World} {g ty : Nat} (h : Arr w g ty zz) : LV w g (fun _ => Z32) := by
  refine ⟨fun k hk j v hv => ?_, fun _ => Z32_len, fun j hj => ⟨?_, h.frozen _⟩⟩
  · have hj : j < 32 := by
      have := (List.getElem?_eq_some_iff.1 hv).1
      rw [by8_len, Z32_len] at this; exact this
    rw [h.cell, zz_get (by omega), ← hv, by8_get (by rw [Z32_len]; exact hj), bat_Z]
  · rw [h.cell, zz_get (by omega)]; rfl
theorem zero72 : (Try.prog.info? 175).map (·.zero) = some (some (.agg zz)) := by kernel_rfl
theorem zeroValue72 (w : World) : (zeroValue 175).run Try.prog w = .ok (.agg zz) w := by
  have h := zero72
  cases hq : Try.prog.info? 175 with
  | none => rw [hq] at h; cases h
  | some i =>
    rw [hq] at h
    have hz : i.zero = some (.agg zz) := by simpa using h
    simp [zeroValue, typeInfo, hq, hz]
set_option maxRecDepth 100000 in
set_option maxHeartbeats 1000000 in
theorem build_any (d N : Nat) (sp : Option Addr) (n cap : Nat) (ls : List (List Int)) (w : World) (hd : d ≤ 16) (hS : HS N w sp n cap ls) (hn : n ≤ 2 ^ d) :
    Calls Try.prog 98 #[.int .i64 d, .slice sp n cap, .func (Fn.func 99) #[] #[]] w fun e w' => e = .returned (.agg (h8 (tr d ls))) ∧ Below w.heap.size w w' := by
  have hS := hS.here
  have hl := hS.len
  have hsm := hS.small
  have h16 := pow16 hd
  have hn16 : n ≤ 65536 := by omega
  clear h16
  have hwd := width_any d hd
  obtain ⟨p, hp⟩ : ∃ p : Nat, p = 2 ^ d := ⟨_, rfl⟩
  rw [← hp] at hwd hn
  replace hp := Hid.mk' hp
  have hz72 := zeroValue72
  have A0 := (Arr.new w 24 (h8 Z32)).alloc (.cells zz 175)
  have A1 := Arr.new (w.alloc (.cells (h8 Z32) 24)) 175 zz
  rw [World.size_alloc] at A1
  have hb0 : Below w.heap.size w ((w.alloc (.cells (h8 Z32) 24)).alloc (.cells zz 175)) := (alloc_bel' w _).alloc (by simp) _
  have L0 := lv_new A1
  have hl32 := hS.l32
  go_enter Try.func98, Try.ntmps98
  go_wp2_with fail

  go_loopw [12] (fun q wr => ∃ (j : Nat) (W : Nat → List Int), q = .int .i64 (j : Int) ∧ j ≤ n ∧ Below w.heap.size w wr ∧ w.heap.size + 2 ≤ wr.heap.size ∧ Arr wr w.heap.size 24 (h8 Z32) ∧ LV wr (w.heap.size + 1) W ∧ Hid (Wt ls j W))
    (fun q _ => n - (intOf q).toNat)
  case atStart => exact ⟨0, fun _ => Z32, rfl, by omega, hb0, by simp, A0, L0, Hid.mk' (wt_zero ls _)⟩
  case round =>
    clear A0 A1 hb0 L0 hz72
    obtain ⟨j, W, rfl, hj, hbl, hsz, R0, R1, hW⟩ := hrel
    by_cases hlt : j < n
    · have hI : (j : Int) < n := by omega
      have hSr := hS.below hbl
      obtain ⟨g, off, rfl, hgN, hR⟩ := hSr.at0 (by omega)
      obtain ⟨X, hX⟩ : ∃ X, ls[j]? = some X := ⟨ls[j]'(by rw [← hl.out]; exact hlt), List.getElem?_eq_getElem _⟩
      have hX32 := hl32 X (List.mem_of_getElem? hX)
      have hRX := hR j X hX
      have X1 := Arr.new wr 24 (h8 X)
      have R0' := R0.alloc (.cells (h8 X) 24)
      have hbX := hbl.alloc (by omega) (.cells (h8 X) 24)
      have R1' := R1.below (alloc_bel' wr (.cells (h8 X) 24)) (by omega)
      replace hX := Hid.mk' hX
      go_wp2_with (first
        | (refine ld24 (by rfl) _ (by rfl) g (off + j * 32) (by rfl) X hX32 hRX ?_)
        | (refine st24n (by rfl) _ _ (by rfl) wr wr.heap.size rfl (by rfl) X (by rfl) (by rfl) hX32 ?_)
        | (refine ld24 (by rfl) _ (by rfl) wr.heap.size 0 (by rfl) X hX32 X1.range ?_)
        | (go_at_call 99; go_must (refine (itself_any X hX32 _).mono ?_; rintro e w2 ⟨rfl, hb2⟩; have hs2 := hb2.size; simp at hs2; have S0 := R0'.below hb2 (by simp <;> omega); have S1 := R1'.below hb2 (by simp <;> omega); have hb2w := hbX.trans (hb2.mono (by simp <;> omega))))
        | (go_at_call 110; go_must (refine (put_any ls j X W (w.heap.size + 1) _ hX32 hX.out (by omega) S1 hW.out).mono ?_; rintro e w3 ⟨⟨v3, rfl⟩, w4, k, r, hb4, hk, hr, rfl, hW4⟩; have hs4 := hb4.size)))
      go_roundw
      case rel =>
        have T1 := (S1.below hb4 (by omega)).set hk hr
        exact ⟨j + 1, _, by go_num, by omega, below_setCells (hb2w.trans (hb4.mono (by omega))) (by omega) _ _, by rw [size_setCells]; omega, (S0.below hb4 (by omega)).setCellsOther (by omega) _ _, T1, Hid.mk' hW4⟩
      case measure => simp [intOf]; omega
    · obtain rfl : j = n := by omega
      have hI : ¬ (j : Int) < j := by omega
      by_cases hall : j = p
      · have hallI : ((j : Int) == p) = true := by rw [beq_iff_eq]; omega
        have hW1 : W d = tr d ls := by
          have h := hW.out
          rw [hall, hp.out] at h
          exact wt_all h
        have hRd := R1.rg d (by omega)
        have hd32 := R1.l32 d
        have hdI : (d : Int) < 17 := by omega
        have hd0 : (0 : Int) ≤ d := by omega
        replace hW1 := Hid.mk' hW1
        replace hall := Hid.mk' hall
        go_wp2_with (first
          | (go_at_call 94; go_must (refine (hwd _).mono ?_; rintro e w2 ⟨rfl, rfl⟩))
          | (refine ld24 (by rfl) _ (by rfl) (w.heap.size + 1) (d * 32) (by rfl) (W d) hd32 hRd ?_)
          | (refine st24 (by rfl) _ _ (by rfl) w.heap.size (W d) Z32 (by rfl) (by rfl) hd32 Z32_len R0 ?_))
        exact bodyPost_ret (v := .agg (h8 (W d))) (res24 Try.results98 rfl hd32 (R0.setRow _)) rfl ⟨by rw [hW1.out], below_setRow hbl (Nat.le_refl _) _⟩
      · have hallI : ((j : Int) == p) = false := by rw [beq_eq_false_iff_ne]; omega
        have hlt2 : j < 2 ^ d := by rw [← hp.out]; omega
        have hfill := fill_any ls W (w.heap.size + 1) d j _ hl32 hd R1 hl.out hW.out hlt2
        have ht32 := tr_len d ls hl32
        replace hlt2 := Hid.mk' hlt2
        replace hall := Hid.mk' hall
        go_wp2_with (first
          | (go_at_call 94; go_must (refine (hwd _).mono ?_; rintro e w2 ⟨rfl, rfl⟩))
          | (go_at_call 111; go_must (refine hfill.mono ?_; rintro e w3 ⟨rfl, hb3⟩; have S0 := R0.below hb3 (by omega)))
          | (refine st24 (by rfl) _ _ (by rfl) w.heap.size (tr d ls) Z32 (by rfl) (by rfl) ht32 Z32_len S0 ?_))
        exact bodyPost_ret (v := .agg (h8 (tr d ls))) (res24 Try.results98 rfl ht32 (S0.setRow _)) rfl ⟨rfl, below_setRow (hbl.trans (hb3.mono (by omega))) (Nat.le_refl _) _⟩
end Go.Proofs.Ytbhhbkoikocjgaa
/- Layer spec: what the layers below give. -/
namespace Go.Proofs.Ytbhhbkoikocjgaa
set_option linter.unusedSectionVars false
set_option maxHeartbeats 1000000
open Go.RowKit Go.Shelf
set_option maxRecDepth 100000
set_option linter.unusedVariables false
set_option linter.unusedSimpArgs false

variable [DecidableEq Ac] [DecidableEq Ou] [DecidableEq Mg]
/-- Why a tree may not be. -/
def rE (d : Int) (n : Nat) : Int := if 0 ≤ d ∧ d ≤ 16 then (if n ≤ 2 ^ d.toNat then 0 else 4) else 2
/-- A root, or the zero sum. -/
def rR (d : Int) (ls : List (List Int)) : List Int := if rE d ls.length = 0 then tr d.toNat ls else Z32
theorem rR_len {d : Int} {ls : List (List Int)} (h : ∀ x ∈ ls, x.length = 32) : (rR d ls).length = 32 := by
  unfold rR; split
  · exact tr_len _ _ h
  · exact Z32_len
set_option maxRecDepth 100000 in
set_option maxHeartbeats 1000000 in
theorem root_any (d : Int) (N : Nat) (sp : Option Addr) (n cap : Nat) (ls : List (List Int)) (w : World) (hS : HS N w sp n cap ls) :
    Calls Try.prog 75 #[.int .i64 d, .slice sp n cap] w fun e w' => e = .returned (.tuple #[.agg (h8 (rR d ls)), .int .i64 (rE d ls.length)]) ∧ Below w.heap.size w w' := by
  have A0 := Arr.new w 24 (h8 Z32)
  have hb0 := alloc_bel' w (.cells (h8 Z32) 24)
  have hS0 := hS.here.below hb0
  have hsm := hS.small
  have hln := hS.len
  have hmd := mayDepth_any d
  unfold rR rE
  by_cases h1 : 0 ≤ d ∧ d ≤ 16
  · rw [decide_eq_true h1] at hmd
    simp only [if_pos h1]
    obtain ⟨m, rfl⟩ : ∃ m : Nat, d = m := ⟨d.toNat, by omega⟩
    have hm : m ≤ 16 := by omega
    simp only [Int.toNat_natCast]
    have hwd := width_any m hm
    rw [← hln.out]
    by_cases h2 : n ≤ 2 ^ m
    · simp only [if_pos h2, if_true]
      have hbd := fun w hS => build_any m w.heap.size sp n cap ls w hm hS h2
      obtain ⟨p, hp⟩ : ∃ p : Nat, p = 2 ^ m := ⟨_, rfl⟩
      rw [← hp] at hwd h2
      have h3 : ¬ (p : Int) < n := by omega
      have ht32 := tr_len m ls hS.l32
      clear hp
      go_enter Try.func75, Try.ntmps75
      go_wp2_with (first
        | (go_at_call 69; go_must (refine (hmd _).mono ?_; rintro e w2 ⟨rfl, rfl⟩))
        | (go_at_call 94; go_must (refine (hwd _).mono ?_; rintro e w2 ⟨rfl, rfl⟩))
        | (go_at_call 98; go_must (refine (hbd _ (hS0.mono (by simp))).mono ?_; rintro e w3 ⟨rfl, hb3⟩; have S0 := A0.below hb3 (by simp)))
        | (refine st24 (by rfl) _ _ (by rfl) w.heap.size (tr m ls) Z32 (by rfl) (by rfl) ht32 Z32_len S0 ?_))
      exact bodyPost_ret (v := .tuple #[.agg (h8 (tr m ls)), .int .i64 0]) (resP Try.results75 rfl rfl ht32 (S0.setRow _)) rfl ⟨rfl, below_setRow (hb0.trans (hb3.mono (by simp))) (Nat.le_refl _) _⟩
    · simp only [if_neg h2]
      obtain ⟨p, hp⟩ : ∃ p : Nat, p = 2 ^ m := ⟨_, rfl⟩
      rw [← hp] at hwd h2
      have h3 : (p : Int) < n := by omega
      clear hp
      go_enter Try.func75, Try.ntmps75
      go_wp2_with (first
        | (go_at_call 69; go_must (refine (hmd _).mono ?_; rintro e w2 ⟨rfl, rfl⟩))
        | (go_at_call 94; go_must (refine (hwd _).mono ?_; rintro e w2 ⟨rfl, rfl⟩))
        | (refine st24 (by rfl) _ _ (by rfl) w.heap.size Z32 Z32 (by rfl) (by rfl) Z32_len Z32_len A0 ?_))
      exact bodyPost_ret (v := .tuple #[.agg (h8 Z32), .int .i64 4]) (resP Try.results75 rfl rfl Z32_len (A0.setRow _)) rfl ⟨rfl, below_setRow hb0 (Nat.le_refl _) _⟩
  · rw [decide_eq_false h1] at hmd
    simp only [if_neg h1]
    go_enter Try.func75, Try.ntmps75
    go_wp2_with (first
      | (go_at_call 69; go_must (refine (hmd _).mono ?_; rintro e w2 ⟨rfl, rfl⟩))
      | (refine st24 (by rfl) _ _ (by rfl) w.heap.size Z32 Z32 (by rfl) (by rfl) Z32_len Z32_len A0 ?_))
    exact bodyPost_ret (v := .tuple #[.agg (h8 Z32), .int .i64 2]) (resP Try.results75 rfl rfl Z32_len (A0.setRow _)) rfl ⟨rfl, below_setRow hb0 (Nat.le_refl _) _⟩
end Go.Proofs.Ytbhhbkoikocjgaa
/- Layer spec: what the layers below give. -/
namespace Go.Proofs.Ytbhhbkoikocjgaa
set_option linter.unusedSectionVars false
set_option maxHeartbeats 1000000
open Go.RowKit Go.Shelf
set_option maxRecDepth 100000
set_option linter.unusedVariables false
set_option linter.unusedSimpArgs false

variable [DecidableEq Ac] [DecidableEq Ou] [DecidableEq Mg]
theorem b1L {ops : Array Oper} {rest : List Oper} {o : Oper} {a : Act} {w : World} {Q : Exit → Act → World → Prop} (hgd : Region.wanted o (yielded ops a.tmps) = true) (x : Operand) (ho : o.op = .buildSlice 49 1 #[(0, x)]) (X : List Int) (hx : a.eval x = .agg (h8 X)) (hX : X.length = 32)
    (h : wpList Try.prog ops Q rest (a.put o.dst (.slice (some ⟨w.heap.size, 0, none⟩) 1 1)) (w.alloc (.cells (h8 X) 24))) : wpList Try.prog ops Q (o :: rest) a w :=
  wpList_want hgd fun _ hK => wp_bld1 x ho X hx hX (hK _ _ h)
end Go.Proofs.Ytbhhbkoikocjgaa
/- Layer spec: what the layers below give. -/
namespace Go.Proofs.Ytbhhbkoikocjgaa
set_option linter.unusedSectionVars false
set_option maxHeartbeats 1000000
open Go.RowKit Go.Shelf
set_option maxRecDepth 100000
set_option linter.unusedVariables false
set_option linter.unusedSimpArgs false

variable [DecidableEq Ac] [DecidableEq Ou] [DecidableEq Mg]
theorem rR_ok {m : Nat} (hm : m ≤ 16) {ls : List (List Int)} (h : ls.length ≤ 2 ^ m) : rE m ls.length = 0 ∧ rR m ls = tr m ls := by
  have e : rE m ls.length = 0 := by
    unfold rE
    rw [if_pos ⟨by omega, by omega⟩, if_pos (by simpa using h)]
  exact ⟨e, by unfold rR; rw [if_pos e]; simp⟩
end Go.Proofs.Ytbhhbkoikocjgaa
/- Layer spec: what the layers below give. -/
namespace Go.Proofs.Ytbhhbkoikocjgaa
set_option linter.unusedSectionVars false
set_option maxHeartbeats 1000000
open Go.RowKit Go.Shelf
set_option maxRecDepth 100000
set_option linter.unusedVariables false
set_option linter.unusedSimpArgs false

variable [DecidableEq Ac] [DecidableEq Ou] [DecidableEq Mg]
/-- append of a sum to a slice of the call's own, which may grow. -/
theorem ag24 {ops : Array Oper} {rest : List Oper} {o : Oper} {a : Act} {w : World} {Q : Exit → Act → World → Prop} (hgd : o.guard = none) (s x : Operand) (ho : o.op = .call { callee := .builtin .append, args := #[s, x], argTypes := #[49, 49] })
    (base k : Nat) (v : Value) (ls : List (List Int)) (X : List Int) (hs : a.eval s = v) (hown : w.ownsRow base 24 32 v k (flat32 ls))
    (gx c : Nat) (hx : a.eval x = .slice (some ⟨gx, 0, none⟩) 1 c) (hA : Arr w gx 24 (h8 X)) (hX : X.length = 32) (hk : k ≤ 1000) (hbase : base ≤ w.heap.size)
    (h : ∀ v' w', w'.ownsRow base 24 32 v' (k + 1) (flat32 (ls ++ [X])) → w.grownBy w' v.ownBlock → wpList Try.prog ops Q rest (a.put o.dst v') w') : wpList Try.prog ops Q (o :: rest) a w := by
  obtain ⟨i0, hi0, hz0, hz1, hz2⟩ := info_parts info24
  refine wpList_append_own w hgd s x 49 ho base 24 i0 (.agg (h8 Z32)) 32 32 Try.underlying49 hi0 hz0 hz1 hz2 (by show (h8 Z32).size = 32; rw [h8_size, Z32_len]) (by omega) v k _ hs hown ⟨gx, 0, none⟩ 1 c (by8 X) hx (by rw [by8_len, hX]) (fun j u hj => by
    rw [Addr.add_mid]; exact hA.range j u hj) (by8_one X) (by unfold maxLen; omega) (by omega) hbase (fun v' w' h1 h2 _ => h v' w' (by rw [flat32_app]; exact h1) h2)
end Go.Proofs.Ytbhhbkoikocjgaa
