/- Ql, V25. -/
import Derived.Test.YtbfelelngoonjaaX01
import Derived.Test.YtbfelelngoonjaaX02
import Derived.Test.YtbfelelngoonjaaX03
import Derived.Test.YtbfelelngoonjaaX04
import Derived.Test.YtbfelelngoonjaaX06
import Derived.Test.YtbfelelngoonjaaX13
import Derived.Test.YtbfelelngoonjaaX14
import Derived.Test.YtbfelelngoonjaaX22
import Derived.Test.YtbfelelngoonjaaX20
import Derived.Test.YtbfelelngoonjaaX33
import Derived.Test.YtbfelelngoonjaaX43
import Derived.BigQuiet
import Derived.BigRegion
import Derived.ChangeKeysEq
import Derived.ChangeOld
import Derived.Deep.DeepCutAuto
import Derived.Deep.DrawnRows
import Derived.Deep.MidRow
import Derived.Deep.QuietTactic
import Derived.Deep.RegionHeld3
import Derived.Deep.RegionLaw
import Derived.Deep.RegionWith
import Derived.Deep.WholeRow
import Derived.Great.BuildSlice
import Derived.Great.FillDense
import Derived.Laws.AppendOwnNone
import Derived.Laws.BitsLemmas
import Derived.Laws.BytesArg
import Derived.Laws.CopyOwn
import Derived.Laws.CopyRow
import Derived.Laws.MakeOwn
import Derived.Laws.OwnMore
import Derived.Laws.Tables
import Derived.Lib.AppendZeros
import Derived.Lib.SlBytesConst
import Derived.LoopIn
import Derived.LoopNIn
import Derived.Maps.AppendAt
import Derived.OpenShut
import Derived.OwnWalkIn
import Derived.ProofKit
import Derived.RangeFuncBound
import Derived.RangeFuncCalls
import Derived.RangeFuncLeaves
import Derived.RangeFuncNested
import Derived.RangeFuncRecord
import Derived.Shelf.Abstract
import Derived.Shelf.RegionOpen
import Derived.ShutString
import Derived.SizedLaws
import Derived.TacticsInMore
import Derived.WalkKit
import Derived.WalkLawsBesides
import Derived.WalkSpells
import Derived.WideWitness
import Derived.Test.YtbfelelngoonjaaX49
/- Layer oracle: what the layers below give. -/
namespace Go.Proofs.Ytbfelelngoonjaa
open Go.RowKit
set_option maxRecDepth 100000
set_option linter.unusedVariables false
set_option linter.unusedSimpArgs false

def ts34 : List TypeId := 30 :: 30 :: List.replicate 32 5
theorem rep_get {α : Type} (l : List α) (hl : 0 < l.length) : ∀ (n i : Nat), i < n * l.length → (List.replicate n l).flatten[i]? = l[i % l.length]?
  | 0, i, h => by simp at h
  | n + 1, i, h => by
    rw [List.replicate_succ, List.flatten_cons]
    by_cases hi : i < l.length
    · rw [List.getElem?_append_left hi, Nat.mod_eq_of_lt hi]
    · rw [List.getElem?_append_right (by omega), rep_get l hl n (i - l.length) (by rw [Nat.succ_mul] at h; omega)]
      congr 1
      rw [Nat.mod_eq_sub_mod (a := i) (by omega)]
theorem cellTypes30 : Try.prog.cellTypes Try.prog.depth 38 = some ((List.replicate 32 ts34).flatten ++ [36]) := by kernel_rfl
theorem ok34 (w : World) : ∀ r, r < 34 → ∃ v u, za.cells[r]? = some v ∧ ts34[r]? = some u ∧ Cell.okWideB Try.prog w u v = true := by
  intro r hr
  match r, hr with
  | 0, _ => exact ⟨_, _, rfl, rfl, by kernel_rfl⟩
  | 1, _ => exact ⟨_, _, rfl, rfl, by kernel_rfl⟩
  | r + 2, hr =>
    have h1 : r < 32 := by omega
    refine ⟨.int .u8 0, 5, ?_, ?_, by kernel_rfl⟩
    · show (by8 Z32)[r]? = _
      rw [by8_get (by rw [Z32_len]; exact h1), bat_Z]
    · show (List.replicate 32 5)[r]? = _
      rw [List.getElem?_replicate, if_pos h1]
theorem acF_zs : acF zs = (List.replicate 32 za.cells).flatten := by
  unfold acF zs
  rw [List.map_replicate]
theorem okRow (w : World) : Cell.okWideRowB Try.prog w 38 (stA zs none 0 0) = true := by
  have hsz : (stA zs none 0 0).size = 1089 := stA_size zs_len (fun a ha => (zs_ok a ha).l32)
  have hl34 : za.cells.length = 34 := Ac.len Z32_len
  have ht34 : ts34.length = 34 := by simp [ts34]
  have hlt : ((List.replicate 32 ts34).flatten ++ [36]).length = 1089 := by simp [ht34]
  unfold Cell.okWideRowB
  rw [cellTypes30]
  simp only [hsz, hlt]
  rw [Bool.and_eq_true]
  refine ⟨rfl, List.all_eq_true.2 fun i hi => ?_⟩
  have hi : i < 1089 := by simpa using hi
  rw [Nat.mod_eq_of_lt hi]
  by_cases h : i < 1088
  · obtain ⟨v, u, hv, hu, hok⟩ := ok34 w (i % 34) (Nat.mod_lt _ (by omega))
    have e1 : (stA zs none 0 0)[i]? = some v := by
      have : (stA zs none 0 0)[i]? = (stC zs none 0 0)[i]? := by simp [stA]
      rw [this]
      unfold stC
      rw [acF_zs, List.getElem?_append_left (by simp [hl34]; omega), rep_get _ (by omega) 32 i (by rw [hl34]; omega), hl34]
      exact hv
    have e2 : ((List.replicate 32 ts34).flatten ++ [36])[i]? = some u := by
      rw [List.getElem?_append_left (by simp [ht34]; omega), rep_get _ (by omega) 32 i (by rw [ht34]; omega), ht34]
      exact hu
    rw [e1, e2]
    exact hok
  · obtain rfl : i = 1088 := by omega
    have e1 : (stA zs none 0 0)[1088]? = some (.slice none 0 0) := by
      have : (stA zs none 0 0)[1088]? = (stC zs none 0 0)[1088]? := by simp [stA]
      rw [this]
      unfold stC
      rw [acF_zs, List.getElem?_append_right (by simp [hl34])]
      simp [hl34]
    have e2 : ((List.replicate 32 ts34).flatten ++ [36])[1088]? = some 36 := by
      rw [List.getElem?_append_right (by simp [ht34])]
      simp [ht34]
    rw [e1, e2]
    have : Cell.okWideB Try.prog w 36 (.slice none 0 0) = true := by kernel_rfl
    exact this
theorem okState (w : World) : Value.okWideB Try.prog w 38 (.agg (stA zs none 0 0)) = true := by
  have hsz : (stA zs none 0 0).size = 1089 := stA_size zs_len (fun a ha => (zs_ok a ha).l32)
  unfold Value.okWideB
  rw [Try.underlying38]
  simp only [hsz, cells30s, okRow w]
  rfl
theorem okIn1 {P : Program} {w : World} {f : FuncId} {fn : Func} {t0 : TypeId} {v0 : Value} (hf : P.funcs[f]? = some fn) (hi : (P.inits.idxOf? f).isNone = true) (hb : (fn.body.isSome && !fn.ours && fn.nfree == 0) = true) (hp : fn.params = #[t0]) (h0 : Value.okWideB P w t0 v0 = true) : Input.okWideB P w f ⟨#[], #[v0], []⟩ = true := by
  unfold Input.okWideB
  simp only [hf, hp]
  rw [hi]
  simp only [Bool.and_eq_true] at hb
  simp [List.range_succ, h0, hb.1.1, hb.1.2, hb.2]
theorem okIn2 {P : Program} {w : World} {f : FuncId} {fn : Func} {t0 t1 : TypeId} {v0 v1 : Value} (hf : P.funcs[f]? = some fn) (hi : (P.inits.idxOf? f).isNone = true) (hb : (fn.body.isSome && !fn.ours && fn.nfree == 0) = true) (hp : fn.params = #[t0, t1]) (h0 : Value.okWideB P w t0 v0 = true) (h1 : Value.okWideB P w t1 v1 = true) : Input.okWideB P w f ⟨#[], #[v0, v1], []⟩ = true := by
  unfold Input.okWideB
  simp only [hf, hp]
  rw [hi]
  simp only [Bool.and_eq_true] at hb
  simp [List.range_succ, h0, h1, hb.1.1, hb.1.2, hb.2]
end Go.Proofs.Ytbfelelngoonjaa
/- Layer oracle: what came in. -/
namespace Go.Proofs.Ytbfelelngoonjaa
open Go.RowKit
set_option maxRecDepth 100000
set_option linter.unusedVariables false
set_option linter.unusedSimpArgs false


theorem u8_of {x : Int} (h : (Lit.int .u8 x).wf = true) : 0 ≤ x ∧ x < 256 := by
  have h1 : IntKind.u8.min = 0 := rfl
  have h2 : IntKind.u8.max = 255 := rfl
  simp only [Lit.wf, Bool.and_eq_true, decide_eq_true_eq] at h
  omega
end Go.Proofs.Ytbfelelngoonjaa
