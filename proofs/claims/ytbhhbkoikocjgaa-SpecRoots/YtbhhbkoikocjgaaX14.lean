/- Cm, Qh, Qk, Mm, Ql, Nb. -/
import Derived.Test.YtbhhbkoikocjgaaX03
import Derived.Test.YtbhhbkoikocjgaaX04
import Derived.Test.YtbhhbkoikocjgaaX06
import Derived.BigQuiet
import Derived.BigRegion
import Derived.ChangeKeysEq
import Derived.ChangeOld
import Derived.Deep.DeepCutAuto
import Derived.Deep.DrawnRows
import Derived.Deep.MidRow
import Derived.Deep.QuietTactic
import Derived.Deep.RegionHeld3
import Derived.Deep.RegionLaw
import Derived.Deep.RegionWith
import Derived.Deep.WholeRow
import Derived.Great.BuildSlice
import Derived.Great.FillDense
import Derived.JoinedTies
import Derived.KernelRfl
import Derived.Laws.AppendOwnNone
import Derived.Laws.BitsLemmas
import Derived.Laws.BytesArg
import Derived.Laws.CopyOwn
import Derived.Laws.OwnMore
import Derived.Laws.Tables
import Derived.Lib.SlBytesConst
import Derived.LoopIn
import Derived.LoopNIn
import Derived.Maps.AppendAt
import Derived.OpenShut
import Derived.OwnWalkIn
import Derived.ProofKit
import Derived.RangeFuncBound
import Derived.RangeFuncCalls
import Derived.RangeFuncLeaves
import Derived.RangeFuncNested
import Derived.RangeFuncRecord
import Derived.Shelf.Abstract
import Derived.Shelf.RegionOpen
import Derived.ShutString
import Derived.SizedLaws
import Derived.TacticsInMore
import Derived.WalkKit
import Derived.WalkLawsBesides
import Derived.WalkSpells
import GoSem.Claim
import GoSem.ClaimJoined
import GoSem.ClaimMapViews
import Derived.Test.YtbhhbkoikocjgaaX05
import Derived.Laws.CopyRow
import Derived.Laws.MakeOwn
import Derived.Lib.AppendZeros
import Derived.Test.YtbhhbkoikocjgaaX01
import Derived.Test.YtbhhbkoikocjgaaX02
import Derived.Test.YtbhhbkoikocjgaaX07
import Derived.WideWitness
/- Layer spec: what the layers below give. -/
namespace Go.Proofs.Ytbhhbkoikocjgaa
set_option linter.unusedSectionVars false
set_option maxHeartbeats 1000000
open Go.ChangeAt Go.ChangeShapes Go.RowKit Go.WideShapes
set_option maxRecDepth 100000
set_option linter.unusedVariables false
set_option linter.unusedSimpArgs false

variable [DecidableEq Ac] [DecidableEq Ou] [DecidableEq Mg]
theorem exists_list {α : Type} {P : Nat → α → Prop} : ∀ (n : Nat), (∀ i, i < n → ∃ a, P i a) → ∃ l : List α, l.length = n ∧ ∀ i a, l[i]? = some a → P i a
  | 0, _ => ⟨[], rfl, fun i a h => by simp at h⟩
  | n + 1, h => by
    obtain ⟨l, hl, hP⟩ := exists_list n (fun i hi => h i (by omega))
    obtain ⟨a, ha⟩ := h n (by omega)
    refine ⟨l ++ [a], by simp [hl], fun i b hb => ?_⟩
    by_cases hi : i < n
    · rw [List.getElem?_append_left (by omega)] at hb; exact hP i b hb
    · rw [List.getElem?_append_right (by omega)] at hb
      have : i - l.length = 0 := by have := (List.getElem?_eq_some_iff.1 hb).1; simp at this; omega
      rw [this] at hb
      simp at hb
      subst hb
      obtain rfl : i = n := by omega
      exact ha
/-- Nothing in it is greater than the reach. -/
def Small {H : Type} (t : TypeId) (d : DataW H) : Prop := ∀ n ∈ d.weights Try.prog t, n ≤ reachBytes
theorem bts_wf {L : List Int} (h : ∀ x ∈ L, (Lit.int .u8 x).wf = true) : Bts L := fun x hx => by
  have h1 := h x hx
  have hmin : IntKind.u8.min = 0 := rfl
  have hmax : IntKind.u8.max = 255 := rfl
  simp only [Lit.wf, Bool.and_eq_true, decide_eq_true_eq] at h1
  omega
theorem cells5 : Try.prog.cellsOf 5 = 1 := by kernel_rfl
theorem cells29 : Try.prog.cellsOf 24 = 32 := by kernel_rfl
section
variable {H : Type} {enc : TypeId × Value → H} {W : World} {base : Nat}

theorem h_of_trod {fuel : Nat} {cs : List Value} {x : DataW H × List MemPlace} (h : DataW.trod enc Try.prog W base (fun _ => true) true fuel 24 cs = some x) : ∃ X : List Int, X.length = 32 ∧ Bts X ∧ cs = by8 X := by
  obtain ⟨xs, m, -, hx, hl, hxs, hi⟩ := DataW.trod_array Try.underlying24 h
  rw [cells29] at hl
  have key : ∀ i, i < 32 → ∃ z, cs[i]? = some (.int .u8 z) ∧ (Lit.int .u8 z).wf = true := fun i hin => by
    have := hi i hin
    rw [List.getElem?_eq_getElem (by omega), cells5] at this
    obtain ⟨z, hz, -, hw⟩ := DataW.trod_int Try.underlying5 this
    refine ⟨z, ?_, hw⟩
    simp only [Nat.mul_one] at hz
    have h2 : (List.take 1 (List.drop i cs))[0]? = some (.int .u8 z) := by rw [hz]; rfl
    simpa using h2
  refine ⟨cs.map fun v => match v with | .int _ z => z | _ => 0, by simp [hl], bts_wf fun y hy => ?_, ?_⟩
  · obtain ⟨v, hv, rfl⟩ := List.mem_map.1 hy
    obtain ⟨i, hin, rfl⟩ := List.mem_iff_getElem.1 hv
    obtain ⟨z, hz, hw⟩ := key i (by omega)
    rw [List.getElem?_eq_getElem hin] at hz
    rw [Option.some.inj hz]; exact hw
  · apply List.ext_getElem?
    intro i
    by_cases hin : i < 32
    · obtain ⟨z, hz, -⟩ := key i hin
      simp [by8, hz]
    · rw [List.getElem?_eq_none (by omega), List.getElem?_eq_none (by rw [by8_len]; simp; omega)]
/-- The cells at an address. -/
theorem cells_at {a : Addr} {k : Nat} {cs : List Value} (hk : 0 < k) (h : W.cells? base a k = some cs) : ∃ b off, a = ⟨b, off, none⟩ ∧ W.rangeAt b off cs := by
  obtain ⟨-, hl, hc⟩ := World.cells?_some h
  have h0 := hc 0 hk
  have h0' : ∃ v, cs[0]? = some v := by
    cases cs with
    | nil => simp at hl; omega
    | cons x r => exact ⟨x, rfl⟩
  obtain ⟨v0, hv0⟩ := h0'
  rw [hv0] at h0
  obtain ⟨b, off, spot⟩ := a
  have hspot : spot = none := by simpa [Addr.add] using World.cell?_spot h0
  subst hspot
  refine ⟨b, off, rfl, fun j v hv => ?_⟩
  have hj : j < k := by have := (List.getElem?_eq_some_iff.1 hv).1; omega
  have := hc j hj
  rw [Addr.add_mid] at this
  rw [this]; exact hv
end
end Go.Proofs.Ytbhhbkoikocjgaa
/- Layer spec: what the layers below give. -/
namespace Go.Proofs.Ytbhhbkoikocjgaa
set_option linter.unusedSectionVars false
set_option maxHeartbeats 1000000
open Go.RowKit
set_option maxRecDepth 100000
set_option linter.unusedVariables false
set_option linter.unusedSimpArgs false

variable [DecidableEq Ac] [DecidableEq Ou] [DecidableEq Mg]
def za : Ac := ⟨0, 0, Z32⟩
def zs : List Ac := List.replicate 32 za
theorem za_ok : AcOK za := ⟨by simp [za], by simp [za], by simp [za], by simp [za], Z32_len, Z32_bts⟩
theorem zs_len : zs.length = 32 := by simp [zs]
theorem zs_ok : ∀ a ∈ zs, AcOK a := by
  intro a ha; rw [(List.mem_replicate.1 ha).2]; exact za_ok
theorem zs_may : may zs 0 = true := by kernel_rfl
end Go.Proofs.Ytbhhbkoikocjgaa
/- Layer spec: what the layers below give. -/
namespace Go.Proofs.Ytbhhbkoikocjgaa
set_option linter.unusedSectionVars false
set_option maxHeartbeats 1000000
open Go.RowKit
set_option maxRecDepth 100000
set_option linter.unusedVariables false
set_option linter.unusedSimpArgs false

variable [DecidableEq Ac] [DecidableEq Ou] [DecidableEq Mg]
theorem cells22 : Try.prog.cellsOf 22 = 1 := by kernel_rfl
theorem cells26 : Try.prog.cellsOf 26 = 34 := by kernel_rfl
theorem cells27 : Try.prog.cellsOf 27 = 1088 := by kernel_rfl
theorem cells28 : Try.prog.cellsOf 28 = 1 := by kernel_rfl
theorem cells30s : Try.prog.cellsOf 30 = 1089 := by kernel_rfl
theorem cells53 : Try.prog.cellsOf 66 = 2 := by kernel_rfl
theorem bytes53 : Try.prog.bytesOf 66 = 16 := by kernel_rfl
theorem u64_wf {z : Int} (h : (Lit.int .u64 z).wf = true) : 0 ≤ z ∧ z < 18446744073709551616 := by
  have hmin : IntKind.u64.min = 0 := rfl
  have hmax : IntKind.u64.max = 18446744073709551615 := rfl
  simp only [Lit.wf, Bool.and_eq_true, decide_eq_true_eq] at h
  omega
section
variable {H : Type} {enc : TypeId × Value → H} {W : World} {base : Nat}

theorem ou_of_trod (fuel : Nat) (cs : List Value) (x : DataW H × List MemPlace) (h : DataW.trod enc Try.prog W base (fun _ => true) true fuel 66 cs = some x) : ∃ o : Ou, cs = o.cells ∧ OuOK o := by
  obtain ⟨xs, n, rfl, rfl, hl, hxl, hf⟩ := DataW.trod_struct Try.underlying66 h
  rw [cells53] at hl
  simp at hxl
  match xs, hxl with
  | [x0, x1], _ =>
  have f0 := hf 0 _ rfl
  have f1 := hf 1 _ rfl
  simp [cells22] at f0 f1
  obtain ⟨a, e0, -, w0⟩ := DataW.trod_int Try.underlying22 f0
  obtain ⟨b, e1, -, w1⟩ := DataW.trod_int Try.underlying22 f1
  refine ⟨⟨a, b⟩, ?_, (u64_wf w0).1, (u64_wf w0).2, (u64_wf w1).1, (u64_wf w1).2⟩
  match cs, hl with
  | [c, d], _ =>
    simp at e0 e1
    subst e0; subst e1
    rfl
theorem ac_of_trod (fuel : Nat) (cs : List Value) (x : DataW H × List MemPlace) (h : DataW.trod enc Try.prog W base (fun _ => true) true fuel 26 cs = some x) : ∃ o : Ac, cs = o.cells ∧ AcOK o := by
  obtain ⟨xs, n, rfl, rfl, hl, hxl, hf⟩ := DataW.trod_struct Try.underlying26 h
  rw [cells26] at hl
  simp at hxl
  match xs, hxl with
  | [x0, x1, x2], _ =>
  have f0 := hf 0 _ rfl
  have f1 := hf 1 _ rfl
  have f2 := hf 2 _ rfl
  simp [cells22, cells29] at f0 f1 f2
  obtain ⟨a, e0, -, w0⟩ := DataW.trod_int Try.underlying22 f0
  obtain ⟨b, e1, -, w1⟩ := DataW.trod_int Try.underlying22 f1
  obtain ⟨X, hX, bX, e2⟩ := h_of_trod f2
  refine ⟨⟨a, b, X⟩, ?_, (u64_wf w0).1, (u64_wf w0).2, (u64_wf w1).1, (u64_wf w1).2, hX, bX⟩
  match cs, hl with
  | c :: d :: r, hl =>
    simp at e0 e1 e2 hl
    subst e0; subst e1
    rw [List.take_of_length_le (by omega)] at e2
    rw [e2]; rfl
/-- A list out of its parts. -/
theorem parts_of {α : Type} (P : α → Prop) (cells : α → List Value) (k : Nat) (hk : ∀ a, P a → (cells a).length = k) : ∀ (n : Nat) (cs : List Value), cs.length = n * k → (∀ i, i < n → ∃ a, List.take k (List.drop (i * k) cs) = cells a ∧ P a) → ∃ l : List α, l.length = n ∧ (∀ a ∈ l, P a) ∧ cs = (l.map cells).flatten
  | 0, cs, hl, _ => ⟨[], rfl, (fun a h => by cases h), by simpa using hl⟩
  | n + 1, cs, hl, h => by
    obtain ⟨a, ha, hp⟩ := h 0 (by omega)
    simp at ha
    obtain ⟨l, hl', hP, he⟩ := parts_of P cells k hk n (cs.drop k) (by rw [List.length_drop, hl, Nat.succ_mul]; omega) (fun i hi => by
      obtain ⟨b, hb, hpb⟩ := h (i + 1) (by omega)
      refine ⟨b, ?_, hpb⟩
      rw [List.drop_drop, ← hb, Nat.succ_mul, Nat.add_comm k])
    refine ⟨a :: l, by simp [hl'], fun b hb => ?_, ?_⟩
    · rcases List.mem_cons.1 hb with rfl | hb
      · exact hp
      · exact hP b hb
    · rw [List.map_cons, List.flatten_cons, ← he, ← ha, List.take_append_drop]
theorem acs_of_trod {fuel : Nat} {cs : List Value} {x : DataW H × List MemPlace} (h : DataW.trod enc Try.prog W base (fun _ => true) true fuel 27 cs = some x) : ∃ ps : List Ac, ps.length = 32 ∧ (∀ a ∈ ps, AcOK a) ∧ cs = acF ps := by
  obtain ⟨xs, m, -, hx, hl, hxs, hi⟩ := DataW.trod_array Try.underlying27 h
  rw [cells27] at hl
  obtain ⟨l, h1, h2, h3⟩ := parts_of AcOK Ac.cells 34 (fun a ha => Ac.len ha.l32) 32 cs hl (fun i hin => by
    have := hi i hin
    rw [List.getElem?_eq_getElem (by omega), cells26] at this
    exact ac_of_trod _ _ _ this)
  exact ⟨l, h1, h2, h3⟩
theorem os_of_trod {fuel : Nat} {cs : List Value} {x : DataW H × List MemPlace} (h : DataW.trod enc Try.prog W base (fun _ => true) true fuel 28 cs = some x) (hs : Small 28 x.1) :
    ∃ sp n cap os, cs = [.slice sp n cap] ∧ OS W.heap.size W sp n cap os ∧ n * 16 ≤ 140737488351232 := by
  rcases DataW.trod_slice Try.underlying28 h with ⟨rfl, -⟩ | ⟨a, len, cap, elems, rest, n, rfl, rfl, rfl, hb, hlc, hm, hlen, hel, hsp, -⟩
  · exact ⟨none, 0, 0, [], rfl, OS.nil0 _ _, by omega⟩
  · obtain ⟨hrl, -⟩ := hsp rfl
    have hr := hs ((elems.length + rest.length) * 16) (by simp [DataW.weights, Try.underlying28, bytes53])
    simp only [reachBytes] at hr
    have hstep : ∀ i, i < len → ∃ g off, ∃ X : Ou, a.add (i * 2) = ⟨g, off, none⟩ ∧ OuOK X ∧ W.rangeAt g off X.cells := fun i hi => by
      have h1 := hel i hi
      rw [cells53, List.getElem?_eq_getElem (by omega), Option.bind_eq_some_iff] at h1
      obtain ⟨cs, hcs, ht⟩ := h1
      obtain ⟨g, off, e, hR⟩ := cells_at (by omega) hcs
      obtain ⟨X, rfl, hX⟩ := ou_of_trod _ _ _ ht
      exact ⟨g, off, X, e, hX, hR⟩
    by_cases h0 : 0 < len
    · obtain ⟨g, off, -, e, -⟩ := hstep 0 h0
      have ha : a = ⟨g, off, none⟩ := by simpa [Addr.add] using e
      subst ha
      obtain ⟨l, hl, hP⟩ := exists_list (P := fun i (X : Ou) => OuOK X ∧ W.rangeAt g (off + i * 2) X.cells) len (fun i hi => by
        obtain ⟨g', off', X, e', h1, ho⟩ := hstep i hi
        rw [Addr.add_mid] at e'
        cases e'
        exact ⟨X, h1, ho⟩)
      refine ⟨some ⟨g, off, none⟩, len, cap, l, rfl, ⟨show _ = _ by simp [hl], (fun e => by cases e), hlc, by unfold maxLen at hm; omega, by omega, fun _ => ⟨g, off, rfl, ?_, fun i X hX => (hP i X hX).2⟩, fun X hX => ?_⟩, by omega⟩
      · obtain ⟨X, hX⟩ : ∃ X, l[0]? = some X := ⟨l[0], List.getElem?_eq_getElem (by omega)⟩
        exact block_lt_of_cell ((hP 0 X hX).2 0 _ rfl)
      · obtain ⟨i, hi⟩ := List.mem_iff_getElem?.1 hX
        exact (hP i X hi).1
    · obtain rfl : len = 0 := by omega
      exact ⟨some a, 0, cap, [], rfl, ⟨rfl, (fun e => by cases e), by omega, by unfold maxLen at hm; omega, by omega, fun h => by omega, fun X hX => by cases hX⟩, by omega⟩
/-- A STATE THAT CAME IN. -/
theorem open_state {b0 : Nat} {v : Value} {d : DataW H} {p : List MemPlace} {ts : List TypeId} {ds : List (DataW H)} {j : Nat}
    (hv : Value.okWide Try.prog W .any b0 30 v) (h : DataW.Trod enc Try.prog W base (fun _ => true) true 30 v d p)
    (hsz : (DataW.weightsEach Try.prog ts ds).all (· ≤ reachBytes) = true) (ht : ts[j]? = some 30) (hd : ds[j]? = some d) :
    ∃ ps sp n cap os, v = .agg (stA ps sp n cap) ∧ SS W.heap.size W ps sp n cap os ∧ n * 16 ≤ 140737488351232 := by
  unfold Value.okWide at hv
  rw [Try.underlying30] at hv
  obtain ⟨cs, rfl, hc, -⟩ := hv
  obtain ⟨fuel, hf⟩ := h
  have hs : Small 30 d := fun n hn => by
    have := List.all_eq_true.1 hsz n (DataW.weights_mem_each ht hd n hn)
    simpa using this
  obtain ⟨xs, n, -, hdx, hl, hxl, hff⟩ := DataW.trod_struct Try.underlying30 hf
  rw [cells30s] at hl
  simp at hxl
  match xs, hxl with
  | [x0, x1], _ =>
  have hd0 : d = _ := (Prod.ext_iff.1 hdx).1
  have f0 := hff 0 _ rfl
  have f1 := hff 1 _ rfl
  simp [cells27, cells28, Value.cells] at f0 f1
  obtain ⟨ps, hp1, hp2, e0⟩ := acs_of_trod f0
  have s1 : Small 28 x1.1 := fun m hm => hs m (by rw [hd0]; simp [DataW.weights, Try.underlying30, DataW.weightsEach, hm])
  obtain ⟨sp, m, cap, os, e1, hO, h16⟩ := os_of_trod f1 s1
  refine ⟨ps, sp, m, cap, os, ?_, ⟨Hid.mk' hp1, Hid.mk' hp2, hO⟩, h16⟩
  have hl' : cs.toList.length = 1089 := hl
  congr 1
  apply Array.toList_inj.1
  show cs.toList = stC ps sp m cap
  have e : cs.toList = List.take 1088 cs.toList ++ List.take 1 (List.drop 1088 cs.toList) := by
    rw [List.take_of_length_le (l := List.drop 1088 cs.toList) (by rw [List.length_drop]; omega), List.take_append_drop]
  rw [e, e0, e1]
  rfl
end
end Go.Proofs.Ytbhhbkoikocjgaa
/- Layer spec: what the layers below give. -/
namespace Go.Proofs.Ytbhhbkoikocjgaa
set_option linter.unusedSectionVars false
set_option maxHeartbeats 1000000
open Go.RowKit Go.Shelf
set_option maxRecDepth 100000
set_option linter.unusedVariables false
set_option linter.unusedSimpArgs false

variable [DecidableEq Ac] [DecidableEq Ou] [DecidableEq Mg]
theorem bat_Z (j : Nat) : bat Z32 j = 0 := by
  unfold bat Z32
  rw [List.getD_eq_getElem?_getD, List.getElem?_replicate]
  split <;> rfl
end Go.Proofs.Ytbhhbkoikocjgaa
/- Layer spec: what the layers below give. -/
namespace Go.Proofs.Ytbhhbkoikocjgaa
set_option linter.unusedSectionVars false
set_option maxHeartbeats 1000000
open Go.RowKit
set_option maxRecDepth 100000
set_option linter.unusedVariables false
set_option linter.unusedSimpArgs false

variable [DecidableEq Ac] [DecidableEq Ou] [DecidableEq Mg]
def ts34 : List TypeId := 22 :: 22 :: List.replicate 32 5
theorem rep_get {α : Type} (l : List α) (hl : 0 < l.length) : ∀ (n i : Nat), i < n * l.length → (List.replicate n l).flatten[i]? = l[i % l.length]?
  | 0, i, h => by simp at h
  | n + 1, i, h => by
    rw [List.replicate_succ, List.flatten_cons]
    by_cases hi : i < l.length
    · rw [List.getElem?_append_left hi, Nat.mod_eq_of_lt hi]
    · rw [List.getElem?_append_right (by omega), rep_get l hl n (i - l.length) (by rw [Nat.succ_mul] at h; omega)]
      congr 1
      rw [Nat.mod_eq_sub_mod (a := i) (by omega)]
theorem cellTypes30 : Try.prog.cellTypes Try.prog.depth 30 = some ((List.replicate 32 ts34).flatten ++ [28]) := by kernel_rfl
theorem ok34 (w : World) : ∀ r, r < 34 → ∃ v u, za.cells[r]? = some v ∧ ts34[r]? = some u ∧ Cell.okWideB Try.prog w u v = true := by
  intro r hr
  match r, hr with
  | 0, _ => exact ⟨_, _, rfl, rfl, by kernel_rfl⟩
  | 1, _ => exact ⟨_, _, rfl, rfl, by kernel_rfl⟩
  | r + 2, hr =>
    have h1 : r < 32 := by omega
    refine ⟨.int .u8 0, 5, ?_, ?_, by kernel_rfl⟩
    · show (by8 Z32)[r]? = _
      rw [by8_get (by rw [Z32_len]; exact h1), bat_Z]
    · show (List.replicate 32 5)[r]? = _
      rw [List.getElem?_replicate, if_pos h1]
theorem acF_zs : acF zs = (List.replicate 32 za.cells).flatten := by
  unfold acF zs
  rw [List.map_replicate]
theorem okRow (w : World) : Cell.okWideRowB Try.prog w 30 (stA zs none 0 0) = true := by
  have hsz : (stA zs none 0 0).size = 1089 := stA_size zs_len (fun a ha => (zs_ok a ha).l32)
  have hl34 : za.cells.length = 34 := Ac.len Z32_len
  have ht34 : ts34.length = 34 := by simp [ts34]
  have hlt : ((List.replicate 32 ts34).flatten ++ [28]).length = 1089 := by simp [ht34]
  unfold Cell.okWideRowB
  rw [cellTypes30]
  simp only [hsz, hlt]
  rw [Bool.and_eq_true]
  refine ⟨rfl, List.all_eq_true.2 fun i hi => ?_⟩
  have hi : i < 1089 := by simpa using hi
  rw [Nat.mod_eq_of_lt hi]
  by_cases h : i < 1088
  · obtain ⟨v, u, hv, hu, hok⟩ := ok34 w (i % 34) (Nat.mod_lt _ (by omega))
    have e1 : (stA zs none 0 0)[i]? = some v := by
      have : (stA zs none 0 0)[i]? = (stC zs none 0 0)[i]? := by simp [stA]
      rw [this]
      unfold stC
      rw [acF_zs, List.getElem?_append_left (by simp [hl34]; omega), rep_get _ (by omega) 32 i (by rw [hl34]; omega), hl34]
      exact hv
    have e2 : ((List.replicate 32 ts34).flatten ++ [28])[i]? = some u := by
      rw [List.getElem?_append_left (by simp [ht34]; omega), rep_get _ (by omega) 32 i (by rw [ht34]; omega), ht34]
      exact hu
    rw [e1, e2]
    exact hok
  · obtain rfl : i = 1088 := by omega
    have e1 : (stA zs none 0 0)[1088]? = some (.slice none 0 0) := by
      have : (stA zs none 0 0)[1088]? = (stC zs none 0 0)[1088]? := by simp [stA]
      rw [this]
      unfold stC
      rw [acF_zs, List.getElem?_append_right (by simp [hl34])]
      simp [hl34]
    have e2 : ((List.replicate 32 ts34).flatten ++ [28])[1088]? = some 28 := by
      rw [List.getElem?_append_right (by simp [ht34])]
      simp [ht34]
    rw [e1, e2]
    have : Cell.okWideB Try.prog w 28 (.slice none 0 0) = true := by kernel_rfl
    exact this
theorem okState (w : World) : Value.okWideB Try.prog w 30 (.agg (stA zs none 0 0)) = true := by
  have hsz : (stA zs none 0 0).size = 1089 := stA_size zs_len (fun a ha => (zs_ok a ha).l32)
  unfold Value.okWideB
  rw [Try.underlying30]
  simp only [hsz, cells30s, okRow w]
  rfl
theorem okIn2 {P : Program} {w : World} {f : FuncId} {fn : Func} {t0 t1 : TypeId} {v0 v1 : Value} (hf : P.funcs[f]? = some fn) (hi : (P.inits.idxOf? f).isNone = true) (hb : (fn.body.isSome && !fn.ours && fn.nfree == 0) = true) (hp : fn.params = #[t0, t1]) (h0 : Value.okWideB P w t0 v0 = true) (h1 : Value.okWideB P w t1 v1 = true) : Input.okWideB P w f ⟨#[], #[v0, v1], []⟩ = true := by
  unfold Input.okWideB
  simp only [hf, hp]
  rw [hi]
  simp only [Bool.and_eq_true] at hb
  simp [List.range_succ, h0, h1, hb.1.1, hb.1.2, hb.2]
end Go.Proofs.Ytbhhbkoikocjgaa
/- Layer spec: a list of byte strings in memory. -/
namespace Go.Proofs.Ytbhhbkoikocjgaa
set_option linter.unusedSectionVars false
set_option maxHeartbeats 1000000
open Go.ChangeShapes Go.WideShapes Go.ChangeAt Go.RowKit
set_option maxRecDepth 100000
set_option linter.unusedVariables false
set_option linter.unusedSimpArgs false


variable [DecidableEq Ac] [DecidableEq Ou] [DecidableEq Mg]
/-- A byte string: where it lies, how long it is, its room, its bytes. -/
structure Bz where
  sp : Option Addr
  n : Nat
  cap : Nat
  bs : List Int
structure BL (N : Nat) (w : World) (sp : Option Addr) (n cap : Nat) (es : List Bz) : Prop where
  len : Hid (n = es.length)
  nil : sp = none → n = 0 ∧ cap = 0
  le : n ≤ cap
  big : cap ≤ 9223372036854775807
  small : n * 24 ≤ 140737488351232
  at0 : 0 < n → ∃ g off, sp = some ⟨g, off, none⟩ ∧ g < N ∧ ∀ i e, es[i]? = some e → w.cell? ⟨g, off + i, none⟩ = some (.slice e.sp e.n e.cap)
  ok : ∀ e ∈ es, BS N w e.sp e.n e.cap e.bs
theorem BL.below {N : Nat} {w w' : World} {sp : Option Addr} {n cap : Nat} {es : List Bz} (h : BL N w sp n cap es) (hb : Below N w w') : BL N w' sp n cap es :=
  ⟨h.len, h.nil, h.le, h.big, h.small, fun h0 => let ⟨g, off, e, hg, hc⟩ := h.at0 h0; ⟨g, off, e, hg, fun i f hf => (hb.cell (p := ⟨g, off + i, none⟩) hg).trans (hc i f hf)⟩, fun e he => (h.ok e he).below hb⟩
theorem BL.mono {N N' : Nat} {w : World} {sp : Option Addr} {n cap : Nat} {es : List Bz} (h : BL N w sp n cap es) (hN : N ≤ N') : BL N' w sp n cap es :=
  ⟨h.len, h.nil, h.le, h.big, h.small, fun h0 => let ⟨g, off, e, hg, hc⟩ := h.at0 h0; ⟨g, off, e, by omega, hc⟩, fun e he => (h.ok e he).mono hN⟩
def bzs (es : List Bz) : List (List Int) := es.map Bz.bs
theorem bzs_len (es : List Bz) : (bzs es).length = es.length := by simp [bzs]
theorem bzs_get {es : List Bz} {i : Nat} {e : Bz} (h : es[i]? = some e) : (bzs es)[i]? = some e.bs := by simp [bzs, h]
theorem BL.bts {N : Nat} {w : World} {sp : Option Addr} {n cap : Nat} {es : List Bz} (h : BL N w sp n cap es) : ∀ L ∈ bzs es, Bts L := fun L hL => by
  simp only [bzs, List.mem_map] at hL
  obtain ⟨e, he, rfl⟩ := hL
  exact (h.ok e he).bts
theorem BL.get {N : Nat} {w : World} {sp : Option Addr} {n cap : Nat} {es : List Bz} (h : BL N w sp n cap es) {i : Nat} (hi : i < n) : ∃ g off e, sp = some ⟨g, off, none⟩ ∧ es[i]? = some e ∧ w.cell? ⟨g, off + i, none⟩ = some (.slice e.sp e.n e.cap) ∧ BS N w e.sp e.n e.cap e.bs := by
  obtain ⟨g, off, rfl, hg, hc⟩ := h.at0 (by omega)
  have hl := h.len.out
  have he : es[i]? = some es[i] := List.getElem?_eq_getElem (by omega)
  exact ⟨g, off, es[i], rfl, he, hc i _ he, h.ok _ (List.getElem_mem _)⟩
theorem BL.nil0 (N : Nat) (w : World) : BL N w none 0 0 [] := ⟨rfl, fun _ => ⟨rfl, rfl⟩, Nat.le_refl _, by omega, by omega, fun h => absurd h (by omega), fun o h => by cases h⟩
theorem bzs_take (es : List Bz) (k : Nat) : bzs (es.take k) = (bzs es).take k := by simp [bzs]
theorem bzs_drop (es : List Bz) (k : Nat) : bzs (es.drop k) = (bzs es).drop k := by simp [bzs]
/-- The first k of them. -/
theorem BL.take {N : Nat} {w : World} {sp : Option Addr} {n cap : Nat} {es : List Bz} (h : BL N w sp n cap es) {k c : Nat} (hk : k ≤ n) (hc : k ≤ c) (hcc : c ≤ cap) (hc0 : sp = none → c = 0) : BL N w sp k c (es.take k) := by
  have hl := h.len.out
  refine ⟨Hid.mk' (by rw [List.length_take]; omega), fun e => ?_, hc, by have := h.big; omega, by have := h.small; omega, fun h0 => ?_, fun e he => h.ok e (List.mem_of_mem_take he)⟩
  · have := h.nil e; have := hc0 e; omega
  · obtain ⟨g, off, e, hg, hcl⟩ := h.at0 (by omega)
    refine ⟨g, off, e, hg, fun i f hf => hcl i f ?_⟩
    have hi : i < k := by have := (List.getElem?_eq_some_iff.1 hf).1; rw [List.length_take] at this; omega
    rwa [List.getElem?_take_of_lt hi] at hf
/-- What is behind the first k. -/
theorem BL.drop {N : Nat} {w : World} {g off n cap : Nat} {es : List Bz} (h : BL N w (some ⟨g, off, none⟩) n cap es) {k : Nat} (hk : k ≤ n) : BL N w (some ⟨g, off + k, none⟩) (n - k) (cap - k) (es.drop k) := by
  have hl := h.len.out
  refine ⟨Hid.mk' (by rw [List.length_drop]; omega), fun e => (by cases e), by have := h.le; omega, by have := h.big; omega, by have := h.small; omega, fun h0 => ?_, fun e he => h.ok e (List.mem_of_mem_drop he)⟩
  obtain ⟨g', off', e, hg, hcl⟩ := h.at0 (by omega)
  cases e
  refine ⟨g, off + k, rfl, hg, fun i f hf => ?_⟩
  rw [List.getElem?_drop] at hf
  rw [Nat.add_assoc]
  exact hcl (k + i) f hf
theorem weights_allN {H : Type} {P : Program} {e : TypeId} {l : List (DataW H)} {d : DataW H} (hd : d ∈ l) : ∀ n ∈ d.weights P e, n ∈ DataW.weightsAll P e l := by
  induction l with
  | nil => simp at hd
  | cons x r ih =>
    intro n hn
    rw [DataW.weightsAll]
    rcases List.mem_cons.1 hd with rfl | h
    · exact List.mem_append_left _ hn
    · exact List.mem_append_right _ (ih h n hn)
theorem bytes5N : Try.prog.bytesOf 5 = 1 := by kernel_rfl
theorem cells31 : Try.prog.cellsOf 31 = 1 := by kernel_rfl
theorem cells63 : Try.prog.cellsOf 63 = 1 := by kernel_rfl
theorem bytes63 : Try.prog.bytesOf 63 = 24 := by kernel_rfl
section
variable {H : Type} {enc : TypeId × Value → H} {W : World} {base : Nat}
theorem bz_of_trod {fuel : Nat} {cs : List Value} {x : DataW H × List MemPlace} (h : DataW.trod enc Try.prog W base (fun _ => true) true fuel 63 cs = some x) (hs : Small 63 x.1) :
    ∃ sp n cap L, cs = [.slice sp n cap] ∧ BS W.heap.size W sp n cap L := by
  rcases open_ints Try.underlying63 Try.underlying5 (by kernel_rfl) h with ⟨rfl, _⟩ | ⟨a, len, cap, zs, rfl, _, hl, hm, hz, rfl, hcell, hwz⟩
  · exact ⟨none, 0, 0, [], rfl, BS.nil0 _ _⟩
  · have hz' : zs.length = cap := by simpa using hz
    have hr := hs ((zs.take len).length + (zs.drop len).length) (by simp [DataW.weights, Try.underlying63, bytes5N, lits])
    simp only [List.length_take, List.length_drop, reachBytes] at hr
    refine ⟨some a, len, cap, zs.take len, rfl, ⟨show _ = _ by simp; omega, (fun e => by cases e), hl, by unfold maxLen at hm; omega, by omega, fun h0 => ?_, bts_wf fun y hy => hwz y (List.mem_of_mem_take hy)⟩⟩
    obtain ⟨b, off, rfl, hc⟩ := ints_at hcell (by omega)
    refine ⟨b, off, rfl, block_lt_of_cell (hc 0 (by omega)), fun t ht => ?_⟩
    rw [hc t (by omega)]
    simp [bat, List.getElem?_take_of_lt ht]
theorem bl_of_trod {fuel : Nat} {cs : List Value} {x : DataW H × List MemPlace} (h : DataW.trod enc Try.prog W base (fun _ => true) true fuel 31 cs = some x) (hs : Small 31 x.1) :
    ∃ sq k cq es, cs = [.slice sq k cq] ∧ BL W.heap.size W sq k cq es := by
  rcases DataW.trod_slice Try.underlying31 h with ⟨rfl, -⟩ | ⟨a, len, cap, elems, rest, n, rfl, rfl, rfl, hb, hlc, hm, hlen, hel, hsp, -⟩
  · exact ⟨none, 0, 0, [], rfl, BL.nil0 _ _⟩
  · obtain ⟨hrl, -⟩ := hsp rfl
    have hr := hs ((elems.length + rest.length) * 24) (by simp [DataW.weights, Try.underlying31, bytes63])
    simp only [reachBytes] at hr
    have hw : ∀ e ∈ elems, Small 63 e.1 := fun e he m hm => hs m (by
      simp only [DataW.weights, Try.underlying31]
      exact List.mem_cons_of_mem _ (List.mem_append_left _ (weights_allN (List.mem_map_of_mem he) m hm)))
    have hstep : ∀ i, i < len → ∃ g off, ∃ e : Bz, a.add (i * 1) = ⟨g, off, none⟩ ∧ W.cell? ⟨g, off, none⟩ = some (.slice e.sp e.n e.cap) ∧ BS W.heap.size W e.sp e.n e.cap e.bs := fun i hi => by
      have h1 := hel i hi
      rw [cells63, List.getElem?_eq_getElem (by omega), Option.bind_eq_some_iff] at h1
      obtain ⟨cs, hcs, ht⟩ := h1
      obtain ⟨g, off, e, hR⟩ := cells_at (by omega) hcs
      obtain ⟨sp, m, cp, L, rfl, hB⟩ := bz_of_trod ht (hw _ (List.getElem_mem _))
      exact ⟨g, off, ⟨sp, m, cp, L⟩, e, by simpa using hR 0 _ rfl, hB⟩
    by_cases h0 : 0 < len
    · obtain ⟨g, off, -, e, -⟩ := hstep 0 h0
      have ha : a = ⟨g, off, none⟩ := by simpa [Addr.add] using e
      subst ha
      obtain ⟨l, hl, hP⟩ := exists_list (P := fun i (f : Bz) => W.cell? ⟨g, off + i, none⟩ = some (.slice f.sp f.n f.cap) ∧ BS W.heap.size W f.sp f.n f.cap f.bs) len (fun i hi => by
        obtain ⟨g', off', f, e', h1, ho⟩ := hstep i hi
        rw [Addr.add_mid, Nat.mul_one] at e'
        cases e'
        exact ⟨f, h1, ho⟩)
      refine ⟨some ⟨g, off, none⟩, len, cap, l, rfl, ⟨show _ = _ by simp [hl], (fun e => by cases e), hlc, by unfold maxLen at hm; omega, by omega, fun _ => ⟨g, off, rfl, ?_, fun i f hf => (hP i f hf).1⟩, fun f hf => ?_⟩⟩
      · obtain ⟨p, hp⟩ : ∃ p, l[0]? = some p := ⟨l[0], List.getElem?_eq_getElem (by omega)⟩
        exact block_lt_of_cell (hP 0 p hp).1
      · obtain ⟨i, hi⟩ := List.mem_iff_getElem?.1 hf
        exact (hP i f hi).2
    · obtain rfl : len = 0 := by omega
      exact ⟨some a, 0, cap, [], rfl, ⟨rfl, (fun e => by cases e), by omega, by unfold maxLen at hm; omega, by omega, (fun h => absurd h (by omega)), (fun e h => by cases h)⟩⟩
/-- BYTE STRINGS THAT CAME IN. -/
theorem open_strings {b0 : Nat} {v : Value} {d : DataW H} {p : List MemPlace} {ts : List TypeId} {ds : List (DataW H)} {j : Nat}
    (hv : Value.okWide Try.prog W .any b0 31 v) (h : DataW.Trod enc Try.prog W base (fun _ => true) true 31 v d p)
    (hsz : (DataW.weightsEach Try.prog ts ds).all (· ≤ reachBytes) = true) (ht : ts[j]? = some 31) (hd : ds[j]? = some d) :
    ∃ sq k cq es, v = .slice sq k cq ∧ BL W.heap.size W sq k cq es := by
  obtain ⟨a0, len0, cap0, rfl⟩ := okWide_slice Try.underlying31 hv
  obtain ⟨fuel, hf⟩ := h
  have hs : Small 31 d := fun n hn => by
    have := List.all_eq_true.1 hsz n (DataW.weights_mem_each ht hd n hn)
    simpa using this
  obtain ⟨sq, k, cq, fs, e, hi⟩ := bl_of_trod (x := (d, p)) hf hs
  simp [Value.cells] at e
  obtain ⟨rfl, rfl, rfl⟩ := e
  exact ⟨_, _, _, fs, rfl, hi⟩
end
end Go.Proofs.Ytbhhbkoikocjgaa
