/- QLa, QZTn, QZTo, QVf, QVj, QVl, Ua. -/
import Derived.Test.YtmljihggooaboaaW12
import Derived.Test.YtmljihggooaboaaW14
import Derived.BigQuiet
import Derived.BigRegion
import Derived.ChangeKeysEq
import Derived.Deep.DeepCutAuto
import Derived.Deep.DrawnRows
import Derived.Deep.MidRow
import Derived.Deep.QuietTactic
import Derived.Deep.RegionHeld3
import Derived.Deep.RegionLaw
import Derived.Deep.RegionWith
import Derived.Deep.WholeRow
import Derived.DeepKeys3
import Derived.Great.BuildSlice
import Derived.Laws.AppendOwnNone
import Derived.Laws.BitsLemmas
import Derived.Laws.BytesArg
import Derived.Laws.CopyOwn
import Derived.Laws.Tables
import Derived.Lib.SlBytesConst
import Derived.LoopIn
import Derived.LoopNIn
import Derived.Maps.AppendAt
import Derived.OwnWalkIn
import Derived.RangeFuncBound
import Derived.RangeFuncCalls
import Derived.RangeFuncLeaves
import Derived.RangeFuncNested
import Derived.RangeFuncRecord
import Derived.Shelf.Abstract
import Derived.Shelf.RegionOpen
import Derived.TacticsInMore
import Derived.WalkKit
import Derived.WalkLawsBesides
import Derived.WalkSpells
import Derived.Test.YtmljihggooaboaaW01
import Derived.Test.YtmljihggooaboaaW13
import Derived.Laws.ResultCell
import Derived.Test.YtmljihggooaboaaW11
import Derived.Test.YtmljihggooaboaaW05
/- Layer interp: what the layers below give. -/
namespace Go.Proofs.Ytmljihggooaboaa
open Go.RowKit
set_option maxRecDepth 100000
set_option linter.unusedVariables false
set_option linter.unusedSimpArgs false

theorem Chg.setCell {S : Nat → Prop} {a b : World} (h : Chg S a b) {g j : Nat} (v : Value) (hg : g < a.heap.size → S g) : Chg S a (b.setCell ⟨g, j, none⟩ v) :=
  ⟨h.os, h.tape, h.output, by simpa [World.setCell] using h.size, fun i hi hs => (Below.heap_setCell _ _ _ _ (fun e => hs (by have e : i = g := e; subst e; exact hg hi))).trans (h.block i hi hs)⟩
end Go.Proofs.Ytmljihggooaboaa
/- Layer interp: what the layers below give. -/
namespace Go.Proofs.Ytmljihggooaboaa
open Go.RowKit
set_option maxRecDepth 100000
set_option linter.unusedVariables false
set_option linter.unusedSimpArgs false

theorem u8s_one (n : Nat) (f : Nat → Int) : (u8s n f).all (·.oneCell') = true := one_ints (u8s_size n f) (fun _ h => u8s_get h)
theorem s24u8 (f : Nat → Int) : (Try.prog.info? 55).map (·.size) = some (u8s 32 f).size := by rw [u8s_size]; exact size24
end Go.Proofs.Ytmljihggooaboaa
/- Layer interp: what the layers below give. -/
namespace Go.Proofs.Ytmljihggooaboaa
open Go.RowKit
set_option maxRecDepth 100000
set_option linter.unusedVariables false
set_option linter.unusedSimpArgs false

/-- Word j of a sum, of its first m bytes. -/
def wacc (H : Nat → Int) (j : Nat) : Nat → Int
  | 0 => 0
  | m + 1 => wacc H j m * 256 + H (8 * j + m)
/-- .. behind k bytes in all. -/
def wpart (H : Nat → Int) (k j : Nat) : Int := wacc H j (min (k - 8 * j) 8)
def u64s (n : Nat) (f : Nat → Int) : Array Value := arr n fun t => .int .u64 (f t)
theorem u64s_size (n : Nat) (f : Nat → Int) : (u64s n f).size = n := arr_size _ _
theorem u64s_get {n : Nat} {f : Nat → Int} {t : Nat} (h : t < n) : (u64s n f)[t]? = some (.int .u64 (f t)) := arr_get h
theorem u64s_one (n : Nat) (f : Nat → Int) : (u64s n f).all (·.oneCell') = true := one_ints (u64s_size n f) (fun _ h => u64s_get h)
theorem size30 : (Try.prog.info? 126).map (·.size) = some 4 := by kernel_rfl
theorem s30u (f : Nat → Int) : (Try.prog.info? 126).map (·.size) = some (u64s 4 f).size := by rw [u64s_size]; exact size30
def wordsOf (H : Nat → Int) : Array Value := u64s 4 fun j => wacc H j 8
theorem wacc_range {H : Nat → Int} (hH : ∀ t, t < 32 → 0 ≤ H t ∧ H t ≤ 255) {j : Nat} (hj : j < 4) : ∀ m, m ≤ 8 → 0 ≤ wacc H j m ∧ wacc H j m < 256 ^ m
  | 0, _ => by simp [wacc]
  | m + 1, h => by
    have ih := wacc_range hH hj m (by omega)
    have hb := hH (8 * j + m) (by omega)
    have e : (256 : Int) ^ (m + 1) = 256 ^ m * 256 := by rw [Int.pow_succ]
    simp only [wacc, e]; omega
theorem or8 (x b : Int) (hx : 0 ≤ x) (hx2 : x < 72057594037927936) (hb : 0 ≤ b) (hb2 : b ≤ 255) : bits .or .u64 (x * 256) b = x * 256 + b := by
  obtain ⟨k, rfl⟩ : ∃ k : Nat, x = k := ⟨x.toNat, by omega⟩
  obtain ⟨j, rfl⟩ : ∃ j : Nat, b = j := ⟨b.toNat, by omega⟩
  have h1 : (BitVec.ofInt 64 ((k : Int) * 256)).toNat = k * 256 := by
    rw [show ((k : Int) * 256) = ((k * 256 : Nat) : Int) by omega, BitVec.ofInt_natCast, BitVec.toNat_ofNat]; omega
  have h2 : (BitVec.ofInt 64 (j : Int)).toNat = j := by
    rw [BitVec.ofInt_natCast, BitVec.toNat_ofNat]; omega
  have h3 : k * 256 ||| j = k * 256 + j := by
    have := Nat.two_pow_add_eq_or_of_lt (i := 8) (b := j) (by omega) k
    rw [Nat.mul_comm] at this; exact this.symm
  show IntKind.u64.wrap ((BitVec.ofInt 64 ((k : Int) * 256) ||| BitVec.ofInt 64 (j : Int)).toNat : Int) = _
  rw [BitVec.toNat_or, h1, h2, h3]
  simp only [IntKind.wrap, IntKind.bits, IntKind.signed]
  simp; omega
theorem words_val {H : Nat → Int} (hH : ∀ t, t < 32 → 0 ≤ H t ∧ H t ≤ 255) {k : Nat} (hk : k < 32) :
    bits .or .u64 (IntKind.u64.wrap (wpart H k (k / 8) * 256)) (IntKind.u64.wrap (H k)) = wpart H (k + 1) (k / 8) := by
  have e1 : wpart H k (k / 8) = wacc H (k / 8) (k % 8) := by unfold wpart; congr 1; omega
  have e2 : wpart H (k + 1) (k / 8) = wacc H (k / 8) (k % 8 + 1) := by unfold wpart; congr 1; omega
  have e3 : 8 * (k / 8) + k % 8 = k := by omega
  have hr := wacc_range hH (show k / 8 < 4 by omega) (k % 8) (by omega)
  have hp : (256 : Int) ^ (k % 8) ≤ 72057594037927936 := by
    have : k % 8 < 8 := Nat.mod_lt _ (by omega)
    generalize k % 8 = m at this
    match m, this with
    | 0, _ => decide
    | 1, _ => decide
    | 2, _ => decide
    | 3, _ => decide
    | 4, _ => decide
    | 5, _ => decide
    | 6, _ => decide
    | 7, _ => decide
  have hb := hH k hk
  rw [e1, e2, wacc, e3, wrap64_of (by omega) (by omega), wrap64_of (by omega) (by omega), or8 _ _ (by omega) (by omega) hb.1 hb.2]
theorem words_other {H : Nat → Int} {k j : Nat} (h : j ≠ k / 8) : wpart H (k + 1) j = wpart H k j := by
  unfold wpart; congr 1; omega
theorem words_step {C : Array Value} {H : Nat → Int} {k : Nat} (hH : ∀ t, t < 32 → 0 ≤ H t ∧ H t ≤ 255) (hk : k < 32) (hs : C.size = 4) (h : ∀ j, j < 4 → C[j]? = some (.int .u64 (wpart H k j))) (v : Value) :
    ∀ j, j < 4 → ((C.setIfInBounds (k / 8) v).setIfInBounds (k / 8) (.int .u64 (bits .or .u64 (IntKind.u64.wrap (wpart H k (k / 8) * 256)) (IntKind.u64.wrap (H k)))))[j]? = some (.int .u64 (wpart H (k + 1) j)) := by
  intro j hj
  rw [words_val hH hk, Array.getElem?_setIfInBounds]
  by_cases e : k / 8 = j
  · subst e; simp [hs, hj]
  · rw [if_neg e, Array.getElem?_setIfInBounds, if_neg e, h j hj, words_other (Ne.symm e)]
set_option maxHeartbeats 1000000 in
theorem words_any (C0 : Array Value) (H : Nat → Int) (w : World) (hs : C0.size = 32) (hC0 : ∀ t, t < 32 → C0[t]? = some (.int .u8 (H t))) (hH : ∀ t, t < 32 → 0 ≤ H t ∧ H t ≤ 255) :
    Calls Try.prog 61 #[.agg C0] w fun e w' => e = .returned (.agg (wordsOf H)) ∧ Below w.heap.size w w' := by
  have s24 : (Try.prog.info? 55).map (·.size) = some C0.size := by rw [hs]; exact size24
  have hA0 : ∀ o1 o2, Arr (((w.alloc (.cells C0 55)).alloc o1).alloc o2) w.heap.size 55 C0 := fun o1 o2 => ((Arr.new w 55 C0).alloc o1).alloc o2
  go_enter Try.func61, Try.ntmps61
  go_wp2_with (refine wpList_load_row (by rfl) 55 (.tmp 1) (by rfl) w.heap.size (by rfl) 55 C0 (0, 0) _ (hA0 _ _) Try.underlying55 rfl s24 ?_)
  go_loopw [7] (fun i wr => ∃ (k : Nat) (C Z : Array Value), k ≤ 32 ∧ i = .int .i64 k ∧ Arr wr (w.heap.size + 1) 126 Z ∧ Z.size = 4 ∧ Arr wr (w.heap.size + 1 + 1) 126 C ∧ C.size = 4 ∧ (∀ j, j < 4 → C[j]? = some (.int .u64 (wpart H k j))) ∧ Below w.heap.size w wr)
    (fun i _ => 32 - (intOf i).toNat)
  case atStart => exact ⟨0, _, _, by omega, rfl, by simpa using (Arr.new (w.alloc _) 126 _).alloc _, rfl, by simpa using Arr.new ((w.alloc _).alloc _) 126 _, rfl, fun j hj => by (match j, hj with | 0, _ => rfl | 1, _ => rfl | 2, _ => rfl | 3, _ => rfl), (((Below.refl _ _).alloc (by simp) _).alloc (by simp) _).alloc (by simp; omega) _⟩
  case round =>
    clear hA0
    obtain ⟨k, C, Z, hk, rfl, hZ, hZs, hC, hCs, hw, hbl⟩ := hrel
    have HW := Hid.mk' hw
    clear hw
    by_cases hlt : k < 32
    · have h3 : (k : Int) < 32 := by omega
      have h4 : (0 : Int) ≤ k := by omega
      have hix := index24 C0 H hC0 k hlt
      have c0 : wr.cell? ⟨w.heap.size + 1 + 1, k / 8, none⟩ = some (.int .u64 (wpart H k (k / 8))) := (hC.cell _).trans (HW.out _ (by omega))
      have f0 := hC.frozen (k / 8)
      go_wp2
      go_roundw
      case rel =>
        exact ⟨k + 1, _, Z, by omega, by go_num, (hZ.setOther _ (by simp)).setOther _ (by simp), hZs, (hC.set _ _).set _ _, by simp [hCs], words_step hH hlt hCs HW.out _, (hbl.setCell (by simp; omega) _).setCell (by simp; omega) _⟩
      case measure => simp [intOf]; omega
    · obtain rfl : k = 32 := by omega
      have hCe : C = wordsOf H := arr_eq hCs (fun j hj => by rw [HW.out j hj]; unfold wpart; rw [show min (32 - 8 * j) 8 = 8 by omega])
      subst hCe
      go_wp2_with (first
        | (refine wpList_load_row (by rfl) 126 (.tmp 3) (by rfl) (w.heap.size + 1 + 1) (by rfl) 126 (wordsOf H) (0, 0) _ hC Try.underlying126 rfl (s30u _) ?_)
        | (refine wpList_store_arr (by rfl) 126 (.tmp 2) (.tmp 26) (by rfl) (w.heap.size + 1) (wordsOf H) (by rfl) (by rfl) 126 _ hZ (s30u _) (by rw [hZs]; exact (u64s_size _ _).symm) (u64s_one _ _) ?_))
      exact bodyPost_ret (v := .agg (wordsOf H)) (results_cell_row Try.results61 _ _ (w.heap.size + 1) 126 _ (0, 0) _ rfl (hZ.setRow _) Try.underlying126 rfl (s30u _)) rfl ⟨rfl, below_setRow hbl (by omega) _⟩
/-- Byte t of the sum of four words. -/
def fromB (W : Nat → Int) (t : Nat) : Int := W (t / 8) / 2 ^ (56 - 8 * (t % 8)) % 256
set_option maxHeartbeats 1000000 in
theorem from_any (C0 : Array Value) (W : Nat → Int) (w : World) (hC0 : ∀ t, t < 4 → C0[t]? = some (.int .u64 (W t))) :
    Calls Try.prog 66 #[.agg C0] w fun e w' => e = .returned (.agg (u8s 32 (fromB W))) ∧ Below w.heap.size w w' := by
  go_enter Try.func66, Try.ntmps66
  go_wp2
  go_loopw [5] (fun i wr => ∃ (k : Nat) (C Z : Array Value), k ≤ 32 ∧ i = .int .i64 k ∧ Arr wr w.heap.size 126 C0 ∧ Arr wr (w.heap.size + 1) 55 Z ∧ Z.size = 32 ∧ Arr wr (w.heap.size + 1 + 1) 55 C ∧ C.size = 32 ∧ (∀ t, t < k → C[t]? = some (.int .u8 (fromB W t))) ∧ Below w.heap.size w wr)
    (fun i _ => 32 - (intOf i).toNat)
  case atStart => exact ⟨0, _, _, by omega, rfl, ((Arr.new w 126 C0).alloc _).alloc _, by simpa using (Arr.new (w.alloc _) 55 _).alloc _, rfl, by simpa using Arr.new ((w.alloc _).alloc _) 55 _, rfl, fun j hj => by omega, (((Below.refl _ _).alloc (by simp) _).alloc (by simp) _).alloc (by simp; omega) _⟩
  case round =>
    obtain ⟨k, C, Z, hk, rfl, hX, hZ, hZs, hC, hCs, hw, hbl⟩ := hrel
    have HW := Hid.mk' hw
    clear hw
    by_cases hlt : k < 32
    · have h3 : (k : Int) < 32 := by omega
      have h4 : (0 : Int) ≤ k := by omega
      have c0 : wr.cell? ⟨w.heap.size, k / 8, none⟩ = some (.int .u64 (W (k / 8))) := (hX.cell _).trans (hC0 _ (by omega))
      obtain ⟨v1, c1⟩ := hC.got (j := k) (by omega)
      have f0 := hC.frozen k
      go_wp2
      go_roundw
      case rel =>
        have q := set_step (f := fun t => .int .u8 (fromB W t)) hCs (by omega) HW.out
        exact ⟨k + 1, _, Z, by omega, by go_num, hX.setOther _ (by simp; omega), hZ.setOther _ (by simp), hZs, hC.set _ _, by simp [hCs], q, hbl.setCell (by simp; omega) _⟩
      case measure => simp [intOf]; omega
    · obtain rfl : k = 32 := by omega
      have hCe : C = u8s 32 (fromB W) := arr_eq hCs HW.out
      subst hCe
      go_wp2_with (first
        | (refine wpList_load_row (by rfl) 55 (.tmp 3) (by rfl) (w.heap.size + 1 + 1) (by rfl) 55 (u8s 32 (fromB W)) (0, 0) _ hC Try.underlying55 rfl (s24u8 _) ?_)
        | (refine wpList_store_arr (by rfl) 55 (.tmp 2) (.tmp 21) (by rfl) (w.heap.size + 1) (u8s 32 (fromB W)) (by rfl) (by rfl) 55 _ hZ (s24u8 _) (by rw [hZs]; exact (u8s_size _ _).symm) (u8s_one _ _) ?_))
      exact bodyPost_ret (v := .agg (u8s 32 (fromB W))) (results_cell_row Try.results66 _ _ (w.heap.size + 1) 55 _ (0, 0) _ rfl (hZ.setRow _) Try.underlying55 rfl (s24u8 _)) rfl ⟨rfl, below_setRow hbl (by omega) _⟩
end Go.Proofs.Ytmljihggooaboaa
/- Layer interp: what the layers below give. -/
namespace Go.Proofs.Ytmljihggooaboaa
open Go.RowKit
set_option maxRecDepth 100000
set_option linter.unusedVariables false
set_option linter.unusedSimpArgs false

theorem MW.frozen {w : World} {gm : Nat} {L : List Int} (h : MW w gm L) (t : Nat) : w.frozen? ⟨gm, t, none⟩ = false := by
  obtain ⟨C, hA, hC⟩ := h
  exact hA.frozen t
theorem getD_set (L : List Int) (k t : Nat) (x : Int) (hk : k < L.length) : (L.set k x).getD t 0 = if t = k then x else L.getD t 0 := by
  simp only [List.getD_eq_getElem?_getD, List.getElem?_set]
  by_cases h : k = t
  · subst h; simp [hk]
  · simp [h, Ne.symm h]
theorem MW.setOther {w : World} {gm : Nat} {L : List Int} (h : MW w gm L) {a : Addr} (v : Value) (ha : gm ≠ a.block) : MW (w.setCell a v) gm L := by
  obtain ⟨C, hA, hC⟩ := h
  exact ⟨C, hA.setOther v ha, hC⟩
theorem MW.block {w w' : World} {gm : Nat} {L : List Int} (h : MW w gm L) (he : w'.heap[gm]? = w.heap[gm]?) : MW w' gm L := by
  obtain ⟨C, hA, hC⟩ := h
  exact ⟨C, he.trans hA, hC⟩
end Go.Proofs.Ytmljihggooaboaa
/- Layer interp: what the layers below give. -/
namespace Go.Proofs.Ytmljihggooaboaa
open Go.RowKit
set_option maxRecDepth 100000
set_option linter.unusedVariables false
set_option linter.unusedSimpArgs false

/-- The byte ahead. -/
def mkL (i : Int) : Option (List Int) := if i = 0 then some [] else if 256 ≤ i ∧ i ≤ 511 then some [i - 256] else none
/-- The first bytes of words. -/
def fbL (W : Nat → Int) (s : Nat) : List Int := (List.range s).map (fromB W)
theorem fbL_succ (W : Nat → Int) (s : Nat) : fbL W s ++ [fromB W s] = fbL W (s + 1) := by simp [fbL, List.range_succ]
end Go.Proofs.Ytmljihggooaboaa
/- Layer interp: what the layers below give. -/
namespace Go.Proofs.Ytmljihggooaboaa
open Go.RowKit
set_option maxRecDepth 100000
set_option linter.unusedVariables false
set_option linter.unusedSimpArgs false

def Mc.nxt (m : Mc) : Mc := { m with pc := IntKind.u64.wrap (m.pc + 1) }
def Mc.put (m : Mc) (a : Nat) (x : Int) : Mc := { m with rg := m.rg.set a x, pc := IntKind.u64.wrap (m.pc + 1) }
/-- The words from an address on. -/
def Mc.wds (m : Mc) (b : Nat) (t : Nat) : Int := m.me.getD (b + t) 0
/-- The words of a sum. -/
def wsu (L : List Int) (j : Nat) : Int := wacc (shaB (bat L) L.length) j 8
def put4 (L : List Int) (a : Nat) (W : Nat → Int) : List Int := (((L.set a (W 0)).set (a + 1) (W 1)).set (a + 2) (W 2)).set (a + 3) (W 3)
/-- HASH. -/
def hs (m : Mc) (i ra rb rc : Int) : Option Mc :=
  if 128 < rc then none else if ¬ ra + 4 ≤ m.me.length then none else if ¬ (rc = 0 ∨ rb + (rc + 7) / 8 ≤ m.me.length) then none else
  match mkL i with
  | none => none
  | some P => some { m.nxt with me := put4 m.me ra.toNat (wsu (P ++ fbL (m.wds rb.toNat) rc.toNat)) }
theorem Mc.ok.put {m : Mc} (h : m.ok) {a : Nat} (ha : a < 16) {x : Int} (hx : U64 x) : (m.put a x).ok :=
  ⟨U64.wrap _, by simpa [Mc.put] using h.r16, fun k => by
    show U64 ((m.rg.set a x).getD k 0)
    rw [getD_set _ _ _ _ (by rw [h.r16]; exact ha)]; split; exact hx; exact h.rg k, h.st, h.me⟩
theorem Chg.drew {S : Nat → Prop} {a b : World} (h : Chg S a b) : Chg S a b.drew := ⟨h.os, h.tape, h.output, h.size, h.block⟩
end Go.Proofs.Ytmljihggooaboaa
/- Layer interp: what the layers below give. -/
namespace Go.Proofs.Ytmljihggooaboaa
open Go.RowKit
set_option maxRecDepth 100000
set_option linter.unusedVariables false
set_option linter.unusedSimpArgs false

set_option maxRecDepth 100000 in
set_option maxHeartbeats 1000000 in
theorem kays_any (w : World) :
    Calls Try.prog 31 #[] w fun e w' => e = .returned (.agg kCells) ∧ Below w.heap.size w w' := by
  have s46 : (Try.prog.info? 98).map (·.size) = some kCells.size := by rw [kCells_size]; exact size46
  have o46 := one_ints kCells_size kCells_get
  go_enter Try.func31, Try.ntmps31
  go_wp2_with ((refine wpList_store_new w _ 98 (by rfl) 98 (.tmp 0) (.tmp 1) (by rfl) kCells (by rfl) (by rfl) s46 (Eq.trans (by rfl) kCells_size.symm) o46 ?_))
  exact bodyPost_ret (v := .agg kCells) (results_cell_row Try.results31 _ _ w.heap.size 98 _ (0, 0) _ rfl (Arr.new w 98 kCells) Try.underlying98 rfl s46) rfl ⟨rfl, (Below.refl _ _).alloc (Nat.le_refl _) _⟩
set_option maxRecDepth 100000 in
set_option maxHeartbeats 400000 in
theorem turn_any (x n : Int) (w : World) (h0 : 0 ≤ n) (h1 : n ≤ 31) :
    Calls Try.prog 32 #[.int .u32 x, .int .u64 n] w fun e w' => e = .returned (.int .u32 (rotr x n.toNat)) ∧ w' = w := by
  have e : (32 - n).toNat = 32 - n.toNat := by omega
  have E : Hid ((32 - n).toNat = 32 - n.toNat) := e
  clear e
  go_enter Try.func32, Try.ntmps32
  go_wp2
  go_ret
  refine ⟨?_, rfl⟩
  unfold rotr
  rw [← E.out]; rfl
theorem wrap32_nat (v : BitVec 32) : IntKind.u32.wrap (v.toNat : Int) = v.toNat := by
  have := v.isLt
  simp only [IntKind.wrap, IntKind.bits, IntKind.signed]; simp; omega
theorem of_nat32 (v : BitVec 32) : BitVec.ofInt 32 (v.toNat : Int) = v := by
  rw [BitVec.ofInt_natCast, BitVec.ofNat_toNat]; simp
theorem bits_and (x y : Int) : bits .and .u32 x y = ((BitVec.ofInt 32 x &&& BitVec.ofInt 32 y).toNat : Int) := wrap32_nat _
theorem bits_or (x y : Int) : bits .or .u32 x y = ((BitVec.ofInt 32 x ||| BitVec.ofInt 32 y).toNat : Int) := wrap32_nat _
theorem bits_xor (x y : Int) : bits .xor .u32 x y = ((BitVec.ofInt 32 x ^^^ BitVec.ofInt 32 y).toNat : Int) := wrap32_nat _
theorem cho_xor (x y z : Int) : bits .xor .u32 (bits .and .u32 x y) (bits .and .u32 (bits .xor .u32 IntKind.u32.max x) z) = cho x y z := by
  unfold cho
  simp only [bits_and, bits_or, bits_xor, of_nat32]
  have hm : BitVec.ofInt 32 IntKind.u32.max = BitVec.allOnes 32 := by decide
  rw [hm]
  congr 2
  ext i hi
  simp only [BitVec.getElem_xor, BitVec.getElem_and, BitVec.getElem_or, BitVec.getElem_allOnes]
  generalize (BitVec.ofInt 32 x)[i] = a
  generalize (BitVec.ofInt 32 y)[i] = b
  generalize (BitVec.ofInt 32 z)[i] = c
  cases a <;> cases b <;> cases c <;> rfl
theorem maj_xor (x y z : Int) : bits .xor .u32 (bits .xor .u32 (bits .and .u32 x y) (bits .and .u32 x z)) (bits .and .u32 y z) = maj x y z := by
  unfold maj
  simp only [bits_and, bits_or, bits_xor, of_nat32]
  congr 2
  ext i hi
  simp only [BitVec.getElem_xor, BitVec.getElem_and, BitVec.getElem_or]
  generalize (BitVec.ofInt 32 x)[i] = a
  generalize (BitVec.ofInt 32 y)[i] = b
  generalize (BitVec.ofInt 32 z)[i] = c
  cases a <;> cases b <;> cases c <;> rfl
end Go.Proofs.Ytmljihggooaboaa
