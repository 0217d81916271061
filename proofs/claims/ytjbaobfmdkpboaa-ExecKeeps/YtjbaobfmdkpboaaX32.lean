/- T, U, Mm, Ql, Ek. -/
import Derived.Test.YtjbaobfmdkpboaaX01
import Derived.Test.YtjbaobfmdkpboaaX02
import Derived.Test.YtjbaobfmdkpboaaX04
import Derived.Test.YtjbaobfmdkpboaaX06
import Derived.Test.YtjbaobfmdkpboaaX07
import Derived.Test.YtjbaobfmdkpboaaX09
import Derived.Test.YtjbaobfmdkpboaaX31
import Derived.Test.YtjbaobfmdkpboaaX10
import Derived.Test.YtjbaobfmdkpboaaX11
import Derived.BigQuiet
import Derived.BigRegion
import Derived.ChangeKeysEq
import Derived.ChangeOld
import Derived.Deep.DeepCutAuto
import Derived.Deep.DrawnRows
import Derived.Deep.MidRow
import Derived.Deep.QuietTactic
import Derived.Deep.RegionHeld3
import Derived.Deep.RegionLaw
import Derived.Deep.RegionWith
import Derived.Deep.WholeRow
import Derived.Great.BuildSlice
import Derived.Great.FillDense
import Derived.JoinedTies
import Derived.KernelRfl
import Derived.Laws.AppendOwnNone
import Derived.Laws.BitsLemmas
import Derived.Laws.BytesArg
import Derived.Laws.CopyOwn
import Derived.Laws.OwnMore
import Derived.Laws.ResultCell
import Derived.Lib.SlBytesConst
import Derived.Maps.AppendAt
import Derived.OpenShut
import Derived.ProofKit
import Derived.ShutString
import Derived.SizedLaws
import Derived.WalkKit
import Derived.WalkLawsBesides
import Derived.WalkSpells
import GoSem.Claim
import GoSem.ClaimJoined
import GoSem.ClaimMapViews
import Derived.Test.YtjbaobfmdkpboaaX03
import Derived.Test.YtjbaobfmdkpboaaX05
import Derived.LoopIn
import Derived.LoopNIn
import Derived.OwnWalkIn
import Derived.RangeFuncBound
import Derived.RangeFuncCalls
import Derived.RangeFuncLeaves
import Derived.RangeFuncNested
import Derived.RangeFuncRecord
import Derived.Shelf.Abstract
import Derived.Shelf.RegionOpen
import Derived.TacticsInMore
import Derived.Test.YtjbaobfmdkpboaaX15
import Derived.Laws.CopyRow
import Derived.Laws.MakeOwn
import Derived.Laws.Tables
import Derived.Lib.AppendZeros
import Derived.WideWitness
/- Layer exec: what the layers below give. -/
namespace Go.Proofs.Ytjbaobfmdkpboaa
set_option linter.unusedSectionVars false
set_option maxHeartbeats 1000000
open Go.ChangeAt Go.ChangeShapes Go.RowKit Go.WideShapes
set_option maxRecDepth 100000
set_option linter.unusedVariables false
set_option linter.unusedSimpArgs false

variable [DecidableEq Ac] [DecidableEq Ou] [DecidableEq Mg]
theorem cells22M : Try.prog.cellsOf 42 = 1 := by kernel_rfl
theorem cells23 : Try.prog.cellsOf 22 = 1 := by kernel_rfl
theorem cells27M : Try.prog.cellsOf 44 = 69 := by kernel_rfl
theorem u8_wf {z : Int} (h : (Lit.int .u8 z).wf = true) : 0 ≤ z ∧ z < 256 := by
  have hmin : IntKind.u8.min = 0 := rfl
  have hmax : IntKind.u8.max = 255 := rfl
  simp only [Lit.wf, Bool.and_eq_true, decide_eq_true_eq] at h
  omega
section
variable {H : Type} {enc : TypeId × Value → H} {W : World} {base : Nat}
theorem mg_of_trod (fuel : Nat) (cs : List Value) (x : DataW H × List MemPlace) (h : DataW.trod enc Try.prog W base (fun _ => true) true fuel 44 cs = some x) : ∃ m : Mg, cs = m.cells ∧ MgOK m := by
  obtain ⟨xs, n, rfl, rfl, hl, hxl, hf⟩ := DataW.trod_struct Try.underlying44 h
  rw [cells27M] at hl
  simp at hxl
  match xs, hxl with
  | [x0, x1, x2, x3, x4, x5, x6], _ =>
  have f0 := hf 0 _ rfl
  have f1 := hf 1 _ rfl
  have f2 := hf 2 _ rfl
  have f3 := hf 3 _ rfl
  have f4 := hf 4 _ rfl
  have f5 := hf 5 _ rfl
  have f6 := hf 6 _ rfl
  simp [cells22M, cells23, cells29] at f0 f1 f2 f3 f4 f5 f6
  obtain ⟨a, e0, -, w0⟩ := DataW.trod_int Try.underlying42 f0
  obtain ⟨b, e1, -, w1⟩ := DataW.trod_int Try.underlying22 f1
  obtain ⟨c, e2, -, w2⟩ := DataW.trod_int Try.underlying22 f2
  obtain ⟨d, e3, -, w3⟩ := DataW.trod_int Try.underlying22 f3
  obtain ⟨e, e4, -, w4⟩ := DataW.trod_int Try.underlying22 f4
  obtain ⟨X, hX, bX, e5⟩ := h_of_trod f5
  obtain ⟨Y, hY, bY, e6⟩ := h_of_trod f6
  refine ⟨⟨a, b, c, d, e, X, Y⟩, ?_, (u8_wf w0).1, (u8_wf w0).2, (u64_wf w1).1, (u64_wf w1).2, (u64_wf w2).1, (u64_wf w2).2, (u64_wf w3).1, (u64_wf w3).2, (u64_wf w4).1, (u64_wf w4).2, hX, bX, hY, bY⟩
  match cs, hl with
  | c0 :: c1 :: c2 :: c3 :: c4 :: r, hl =>
    simp at e0 e1 e2 e3 e4 e5 e6 hl
    subst e0; subst e1; subst e2; subst e3; subst e4
    have hr : r = List.take 32 r ++ List.drop 32 r := (List.take_append_drop 32 r).symm
    rw [List.take_of_length_le (l := List.drop 32 r) (by rw [List.length_drop]; omega)] at e6
    rw [hr, e5, e6]; rfl
/-- A MESSAGE THAT CAME IN. -/
theorem open_msg {b0 : Nat} {v : Value} {d : DataW H} {p : List MemPlace}
    (hv : Value.okWide Try.prog W .any b0 44 v) (h : DataW.Trod enc Try.prog W base (fun _ => true) true 44 v d p) :
    ∃ m : Mg, v = .agg m.arr ∧ MgOK m := by
  unfold Value.okWide at hv
  rw [Try.underlying44] at hv
  obtain ⟨cs, rfl, hc, -⟩ := hv
  obtain ⟨fuel, hf⟩ := h
  obtain ⟨m, e, h⟩ := mg_of_trod _ _ _ hf
  refine ⟨m, ?_, h⟩
  congr 1
  apply Array.toList_inj.1
  exact e
end
end Go.Proofs.Ytjbaobfmdkpboaa
/- Layer exec: what the layers below give. -/
namespace Go.Proofs.Ytjbaobfmdkpboaa
set_option linter.unusedSectionVars false
set_option maxHeartbeats 1000000
open Go.ChangeAt Go.ChangeShapes Go.RowKit Go.WideShapes
set_option maxRecDepth 100000
set_option linter.unusedVariables false
set_option linter.unusedSimpArgs false

variable [DecidableEq Ac] [DecidableEq Ou] [DecidableEq Mg]
theorem bs_open {W : World} {sp : Option Addr} {n cap : Nat} {L : List Int} (hn : n = L.length) (hnil : sp = none → n = 0 ∧ cap = 0) (hS : SlL W sp L) (hc : n ≤ cap) (hb : cap ≤ 140737488351232) (hw : ∀ x ∈ L, (Lit.int .u8 x).wf = true) : BS W.heap.size W sp n cap L :=
  ⟨Hid.mk' hn, hnil, hc, by omega, by omega, fun h0 => by
    obtain ⟨b, off, e, hB⟩ := hS (by omega)
    exact ⟨b, off, e, block_lt_of_cell (hB 0 (by omega)), by rw [hn]; exact hB⟩, bts_wf hw⟩
end Go.Proofs.Ytjbaobfmdkpboaa
/- Layer exec: what the layers below give. -/
namespace Go.Proofs.Ytjbaobfmdkpboaa
set_option linter.unusedSectionVars false
set_option maxHeartbeats 1000000
open Go.RowKit Go.Shelf
set_option maxRecDepth 100000
set_option linter.unusedVariables false
set_option linter.unusedSimpArgs false

variable [DecidableEq Ac] [DecidableEq Ou] [DecidableEq Mg]
theorem bat_Z (j : Nat) : bat Z32 j = 0 := by
  unfold bat Z32
  rw [List.getD_eq_getElem?_getD, List.getElem?_replicate]
  split <;> rfl
end Go.Proofs.Ytjbaobfmdkpboaa
/- Layer exec: what the layers below give. -/
namespace Go.Proofs.Ytjbaobfmdkpboaa
set_option linter.unusedSectionVars false
set_option maxHeartbeats 1000000
open Go.RowKit
set_option maxRecDepth 100000
set_option linter.unusedVariables false
set_option linter.unusedSimpArgs false

variable [DecidableEq Ac] [DecidableEq Ou] [DecidableEq Mg]
def ts34 : List TypeId := 22 :: 22 :: List.replicate 32 5
theorem rep_get {α : Type} (l : List α) (hl : 0 < l.length) : ∀ (n i : Nat), i < n * l.length → (List.replicate n l).flatten[i]? = l[i % l.length]?
  | 0, i, h => by simp at h
  | n + 1, i, h => by
    rw [List.replicate_succ, List.flatten_cons]
    by_cases hi : i < l.length
    · rw [List.getElem?_append_left hi, Nat.mod_eq_of_lt hi]
    · rw [List.getElem?_append_right (by omega), rep_get l hl n (i - l.length) (by rw [Nat.succ_mul] at h; omega)]
      congr 1
      rw [Nat.mod_eq_sub_mod (a := i) (by omega)]
theorem cellTypes30 : Try.prog.cellTypes Try.prog.depth 30 = some ((List.replicate 32 ts34).flatten ++ [28]) := by kernel_rfl
theorem ok34 (w : World) : ∀ r, r < 34 → ∃ v u, za.cells[r]? = some v ∧ ts34[r]? = some u ∧ Cell.okWideB Try.prog w u v = true := by
  intro r hr
  match r, hr with
  | 0, _ => exact ⟨_, _, rfl, rfl, by kernel_rfl⟩
  | 1, _ => exact ⟨_, _, rfl, rfl, by kernel_rfl⟩
  | r + 2, hr =>
    have h1 : r < 32 := by omega
    refine ⟨.int .u8 0, 5, ?_, ?_, by kernel_rfl⟩
    · show (by8 Z32)[r]? = _
      rw [by8_get (by rw [Z32_len]; exact h1), bat_Z]
    · show (List.replicate 32 5)[r]? = _
      rw [List.getElem?_replicate, if_pos h1]
theorem acF_zs : acF zs = (List.replicate 32 za.cells).flatten := by
  unfold acF zs
  rw [List.map_replicate]
theorem okRow (w : World) : Cell.okWideRowB Try.prog w 30 (stA zs none 0 0) = true := by
  have hsz : (stA zs none 0 0).size = 1089 := stA_size zs_len (fun a ha => (zs_ok a ha).l32)
  have hl34 : za.cells.length = 34 := Ac.len Z32_len
  have ht34 : ts34.length = 34 := by simp [ts34]
  have hlt : ((List.replicate 32 ts34).flatten ++ [28]).length = 1089 := by simp [ht34]
  unfold Cell.okWideRowB
  rw [cellTypes30]
  simp only [hsz, hlt]
  rw [Bool.and_eq_true]
  refine ⟨rfl, List.all_eq_true.2 fun i hi => ?_⟩
  have hi : i < 1089 := by simpa using hi
  rw [Nat.mod_eq_of_lt hi]
  by_cases h : i < 1088
  · obtain ⟨v, u, hv, hu, hok⟩ := ok34 w (i % 34) (Nat.mod_lt _ (by omega))
    have e1 : (stA zs none 0 0)[i]? = some v := by
      have : (stA zs none 0 0)[i]? = (stC zs none 0 0)[i]? := by simp [stA]
      rw [this]
      unfold stC
      rw [acF_zs, List.getElem?_append_left (by simp [hl34]; omega), rep_get _ (by omega) 32 i (by rw [hl34]; omega), hl34]
      exact hv
    have e2 : ((List.replicate 32 ts34).flatten ++ [28])[i]? = some u := by
      rw [List.getElem?_append_left (by simp [ht34]; omega), rep_get _ (by omega) 32 i (by rw [ht34]; omega), ht34]
      exact hu
    rw [e1, e2]
    exact hok
  · obtain rfl : i = 1088 := by omega
    have e1 : (stA zs none 0 0)[1088]? = some (.slice none 0 0) := by
      have : (stA zs none 0 0)[1088]? = (stC zs none 0 0)[1088]? := by simp [stA]
      rw [this]
      unfold stC
      rw [acF_zs, List.getElem?_append_right (by simp [hl34])]
      simp [hl34]
    have e2 : ((List.replicate 32 ts34).flatten ++ [28])[1088]? = some 28 := by
      rw [List.getElem?_append_right (by simp [ht34])]
      simp [ht34]
    rw [e1, e2]
    have : Cell.okWideB Try.prog w 28 (.slice none 0 0) = true := by kernel_rfl
    exact this
theorem okState (w : World) : Value.okWideB Try.prog w 30 (.agg (stA zs none 0 0)) = true := by
  have hsz : (stA zs none 0 0).size = 1089 := stA_size zs_len (fun a ha => (zs_ok a ha).l32)
  unfold Value.okWideB
  rw [Try.underlying30]
  simp only [hsz, cells30s, okRow w]
  rfl
theorem okIn2 {P : Program} {w : World} {f : FuncId} {fn : Func} {t0 t1 : TypeId} {v0 v1 : Value} (hf : P.funcs[f]? = some fn) (hi : (P.inits.idxOf? f).isNone = true) (hb : (fn.body.isSome && !fn.ours && fn.nfree == 0) = true) (hp : fn.params = #[t0, t1]) (h0 : Value.okWideB P w t0 v0 = true) (h1 : Value.okWideB P w t1 v1 = true) : Input.okWideB P w f ⟨#[], #[v0, v1], []⟩ = true := by
  unfold Input.okWideB
  simp only [hf, hp]
  rw [hi]
  simp only [Bool.and_eq_true] at hb
  simp [List.range_succ, h0, h1, hb.1.1, hb.1.2, hb.2]
end Go.Proofs.Ytjbaobfmdkpboaa
/- Layer exec: what came in. -/
namespace Go.Proofs.Ytjbaobfmdkpboaa
set_option linter.unusedSectionVars false
set_option maxHeartbeats 1000000
open Go.ChangeShapes Go.WideShapes Go.ChangeAt Go.RowKit
set_option maxRecDepth 100000
set_option linter.unusedVariables false
set_option linter.unusedSimpArgs false

variable [DecidableEq Ac] [DecidableEq Ou] [DecidableEq Mg]
theorem laidOut : laidOutB Try.prog = true := by kernel_rfl
section
variable {H : Type} {enc : TypeId × Value → H} {W : World} {base : Nat}
/-- AN ACCOUNT THAT CAME IN. -/
theorem open_acc {b0 : Nat} {v : Value} {d : DataW H} {p : List MemPlace}
    (hv : Value.okWide Try.prog W .any b0 26 v) (h : DataW.Trod enc Try.prog W base (fun _ => true) true 26 v d p) :
    ∃ a : Ac, v = .agg a.arr ∧ AcOK a := by
  unfold Value.okWide at hv
  rw [Try.underlying26] at hv
  obtain ⟨cs, rfl, hc, -⟩ := hv
  obtain ⟨fuel, hf⟩ := h
  obtain ⟨a, e, h⟩ := ac_of_trod _ _ _ hf
  refine ⟨a, ?_, h⟩
  congr 1
  apply Array.toList_inj.1
  exact e
end
end Go.Proofs.Ytjbaobfmdkpboaa
