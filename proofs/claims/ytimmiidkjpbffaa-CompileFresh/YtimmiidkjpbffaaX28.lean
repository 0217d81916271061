/- QLa, QVf, ZZTo, QZTo, QVj, QVl, QVd, QVe, Jf, Ji. -/
import Derived.Test.YtimmiidkjpbffaaX01
import Derived.Test.YtimmiidkjpbffaaX02
import Derived.Test.YtimmiidkjpbffaaX03
import Derived.Test.YtimmiidkjpbffaaX21
import Derived.BigQuiet
import Derived.BigRegion
import Derived.ChangeKeysEq
import Derived.ChangeOld
import Derived.Deep.DeepCutAuto
import Derived.Deep.DrawnRows
import Derived.Deep.MidRow
import Derived.Deep.OwnRows
import Derived.Deep.QuietTactic
import Derived.Deep.RegionHeld3
import Derived.Deep.RegionLaw
import Derived.Deep.RegionWith
import Derived.Deep.WholeRow
import Derived.DeepKeys3
import Derived.Great.BuildSlice
import Derived.Great.FillDense
import Derived.Laws.AppendOwnNone
import Derived.Laws.BitsLemmas
import Derived.Laws.BytesArg
import Derived.Laws.CopyOwn
import Derived.Laws.OwnMore
import Derived.Laws.ResultCell
import Derived.Laws.Tables
import Derived.Lib.SlBytesConst
import Derived.LoopIn
import Derived.LoopNIn
import Derived.Maps.AppendAt
import Derived.OpenShut
import Derived.OwnWalkIn
import Derived.ProofKit
import Derived.RangeFuncBound
import Derived.RangeFuncCalls
import Derived.RangeFuncLeaves
import Derived.RangeFuncNested
import Derived.RangeFuncRecord
import Derived.Recover
import Derived.Shelf.Abstract
import Derived.Shelf.RegionOpen
import Derived.ShutString
import Derived.SizedLaws
import Derived.TacticsInMore
import Derived.WalkKit
import Derived.WalkLawsBesides
import Derived.WalkSpells
import Derived.Test.YtimmiidkjpbffaaX08
import Derived.Laws.CopyRow
import Derived.Laws.DeepBits32
import Derived.Laws.MakeOwn
import Derived.Lib.AppendZeros
import Derived.Test.YtimmiidkjpbffaaX27
import Derived.Deep.RegionHeld
import Derived.Handy
import Derived.KernelRfl
import Derived.Laws.AppendOwn
import Derived.LoopTactic
import Derived.OwnWalk
/- Layer compile: what the layers below give. -/
namespace Go.Proofs.Ytimmiidkjpbffaa
open Go.RowKit
set_option maxRecDepth 100000
set_option linter.unusedVariables false
set_option linter.unusedSimpArgs false

theorem Chg.setCell {S : Nat → Prop} {a b : World} (h : Chg S a b) {g j : Nat} (v : Value) (hg : g < a.heap.size → S g) : Chg S a (b.setCell ⟨g, j, none⟩ v) :=
  ⟨h.os, h.tape, h.output, by simpa [World.setCell] using h.size, fun i hi hs => (Below.heap_setCell _ _ _ _ (fun e => hs (by have e : i = g := e; subst e; exact hg hi))).trans (h.block i hi hs)⟩
end Go.Proofs.Ytimmiidkjpbffaa
/- Layer compile: what the layers below give. -/
namespace Go.Proofs.Ytimmiidkjpbffaa
open Go.RowKit
set_option maxRecDepth 100000
set_option linter.unusedVariables false
set_option linter.unusedSimpArgs false

theorem MW.frozen {w : World} {gm : Nat} {L : List Int} (h : MW w gm L) (t : Nat) : w.frozen? ⟨gm, t, none⟩ = false := by
  obtain ⟨C, hA, hC⟩ := h
  exact hA.frozen t
theorem getD_set (L : List Int) (k t : Nat) (x : Int) (hk : k < L.length) : (L.set k x).getD t 0 = if t = k then x else L.getD t 0 := by
  simp only [List.getD_eq_getElem?_getD, List.getElem?_set]
  by_cases h : k = t
  · subst h; simp [hk]
  · simp [h, Ne.symm h]
theorem MW.setOther {w : World} {gm : Nat} {L : List Int} (h : MW w gm L) {a : Addr} (v : Value) (ha : gm ≠ a.block) : MW (w.setCell a v) gm L := by
  obtain ⟨C, hA, hC⟩ := h
  exact ⟨C, hA.setOther v ha, hC⟩
theorem MW.block {w w' : World} {gm : Nat} {L : List Int} (h : MW w gm L) (he : w'.heap[gm]? = w.heap[gm]?) : MW w' gm L := by
  obtain ⟨C, hA, hC⟩ := h
  exact ⟨C, he.trans hA, hC⟩
end Go.Proofs.Ytimmiidkjpbffaa
/- Layer compile: what the layers below give. -/
namespace Go.Proofs.Ytimmiidkjpbffaa
open Go.RowKit
set_option maxRecDepth 100000
set_option linter.unusedVariables false
set_option linter.unusedSimpArgs false

theorem wrap64_of {x : Int} (h : 0 ≤ x) (h2 : x < 18446744073709551616) : IntKind.u64.wrap x = x := by
  simp only [IntKind.wrap, IntKind.bits, IntKind.signed]; simp; omega
end Go.Proofs.Ytimmiidkjpbffaa
/- Layer compile: what the layers below give. -/
namespace Go.Proofs.Ytimmiidkjpbffaa
open Go.RowKit
set_option maxRecDepth 100000
set_option linter.unusedVariables false
set_option linter.unusedSimpArgs false

/-- Word j of a sum, of its first m bytes. -/
def wacc (H : Nat → Int) (j : Nat) : Nat → Int
  | 0 => 0
  | m + 1 => wacc H j m * 256 + H (8 * j + m)
/-- .. behind k bytes in all. -/
def wpart (H : Nat → Int) (k j : Nat) : Int := wacc H j (min (k - 8 * j) 8)
def u64s (n : Nat) (f : Nat → Int) : Array Value := arr n fun t => .int .u64 (f t)
theorem u64s_size (n : Nat) (f : Nat → Int) : (u64s n f).size = n := arr_size _ _
theorem u64s_get {n : Nat} {f : Nat → Int} {t : Nat} (h : t < n) : (u64s n f)[t]? = some (.int .u64 (f t)) := arr_get h
theorem u64s_one (n : Nat) (f : Nat → Int) : (u64s n f).all (·.oneCell') = true := one_ints (u64s_size n f) (fun _ h => u64s_get h)
theorem size30 : (Try.prog.info? 127).map (·.size) = some 4 := by kernel_rfl
theorem s30u (f : Nat → Int) : (Try.prog.info? 127).map (·.size) = some (u64s 4 f).size := by rw [u64s_size]; exact size30
def wordsOf (H : Nat → Int) : Array Value := u64s 4 fun j => wacc H j 8
theorem wacc_range {H : Nat → Int} (hH : ∀ t, t < 32 → 0 ≤ H t ∧ H t ≤ 255) {j : Nat} (hj : j < 4) : ∀ m, m ≤ 8 → 0 ≤ wacc H j m ∧ wacc H j m < 256 ^ m
  | 0, _ => by simp [wacc]
  | m + 1, h => by
    have ih := wacc_range hH hj m (by omega)
    have hb := hH (8 * j + m) (by omega)
    have e : (256 : Int) ^ (m + 1) = 256 ^ m * 256 := by rw [Int.pow_succ]
    simp only [wacc, e]; omega
theorem or8 (x b : Int) (hx : 0 ≤ x) (hx2 : x < 72057594037927936) (hb : 0 ≤ b) (hb2 : b ≤ 255) : bits .or .u64 (x * 256) b = x * 256 + b := by
  obtain ⟨k, rfl⟩ : ∃ k : Nat, x = k := ⟨x.toNat, by omega⟩
  obtain ⟨j, rfl⟩ : ∃ j : Nat, b = j := ⟨b.toNat, by omega⟩
  have h1 : (BitVec.ofInt 64 ((k : Int) * 256)).toNat = k * 256 := by
    rw [show ((k : Int) * 256) = ((k * 256 : Nat) : Int) by omega, BitVec.ofInt_natCast, BitVec.toNat_ofNat]; omega
  have h2 : (BitVec.ofInt 64 (j : Int)).toNat = j := by
    rw [BitVec.ofInt_natCast, BitVec.toNat_ofNat]; omega
  have h3 : k * 256 ||| j = k * 256 + j := by
    have := Nat.two_pow_add_eq_or_of_lt (i := 8) (b := j) (by omega) k
    rw [Nat.mul_comm] at this; exact this.symm
  show IntKind.u64.wrap ((BitVec.ofInt 64 ((k : Int) * 256) ||| BitVec.ofInt 64 (j : Int)).toNat : Int) = _
  rw [BitVec.toNat_or, h1, h2, h3]
  simp only [IntKind.wrap, IntKind.bits, IntKind.signed]
  simp; omega
theorem words_val {H : Nat → Int} (hH : ∀ t, t < 32 → 0 ≤ H t ∧ H t ≤ 255) {k : Nat} (hk : k < 32) :
    bits .or .u64 (IntKind.u64.wrap (wpart H k (k / 8) * 256)) (IntKind.u64.wrap (H k)) = wpart H (k + 1) (k / 8) := by
  have e1 : wpart H k (k / 8) = wacc H (k / 8) (k % 8) := by unfold wpart; congr 1; omega
  have e2 : wpart H (k + 1) (k / 8) = wacc H (k / 8) (k % 8 + 1) := by unfold wpart; congr 1; omega
  have e3 : 8 * (k / 8) + k % 8 = k := by omega
  have hr := wacc_range hH (show k / 8 < 4 by omega) (k % 8) (by omega)
  have hp : (256 : Int) ^ (k % 8) ≤ 72057594037927936 := by
    have : k % 8 < 8 := Nat.mod_lt _ (by omega)
    generalize k % 8 = m at this
    match m, this with
    | 0, _ => decide
    | 1, _ => decide
    | 2, _ => decide
    | 3, _ => decide
    | 4, _ => decide
    | 5, _ => decide
    | 6, _ => decide
    | 7, _ => decide
  have hb := hH k hk
  rw [e1, e2, wacc, e3, wrap64_of (by omega) (by omega), wrap64_of (by omega) (by omega), or8 _ _ (by omega) (by omega) hb.1 hb.2]
theorem words_other {H : Nat → Int} {k j : Nat} (h : j ≠ k / 8) : wpart H (k + 1) j = wpart H k j := by
  unfold wpart; congr 1; omega
/-- Byte t of the sum of four words. -/
def fromB (W : Nat → Int) (t : Nat) : Int := W (t / 8) / 2 ^ (56 - 8 * (t % 8)) % 256
end Go.Proofs.Ytimmiidkjpbffaa
/- Layer compile: what the layers below give. -/
namespace Go.Proofs.Ytimmiidkjpbffaa
open Go.RowKit
set_option maxRecDepth 100000
set_option linter.unusedVariables false
set_option linter.unusedSimpArgs false

/-- The byte ahead. -/
def mkL (i : Int) : Option (List Int) := if i = 0 then some [] else if 256 ≤ i ∧ i ≤ 511 then some [i - 256] else none
/-- The first bytes of words. -/
def fbL (W : Nat → Int) (s : Nat) : List Int := (List.range s).map (fromB W)
theorem fbL_succ (W : Nat → Int) (s : Nat) : fbL W s ++ [fromB W s] = fbL W (s + 1) := by simp [fbL, List.range_succ]
end Go.Proofs.Ytimmiidkjpbffaa
/- Layer compile: what the layers below give. -/
namespace Go.Proofs.Ytimmiidkjpbffaa
open Go.RowKit
set_option maxRecDepth 100000
set_option linter.unusedVariables false
set_option linter.unusedSimpArgs false

def Mc.nxt (m : Mc) : Mc := { m with pc := IntKind.u64.wrap (m.pc + 1) }
def Mc.put (m : Mc) (a : Nat) (x : Int) : Mc := { m with rg := m.rg.set a x, pc := IntKind.u64.wrap (m.pc + 1) }
/-- The words from an address on. -/
def Mc.wds (m : Mc) (b : Nat) (t : Nat) : Int := m.me.getD (b + t) 0
/-- The words of a sum. -/
def wsu (L : List Int) (j : Nat) : Int := wacc (shaB (bat L) L.length) j 8
def put4 (L : List Int) (a : Nat) (W : Nat → Int) : List Int := (((L.set a (W 0)).set (a + 1) (W 1)).set (a + 2) (W 2)).set (a + 3) (W 3)
/-- HASH. -/
def hs (m : Mc) (i ra rb rc : Int) : Option Mc :=
  if 128 < rc then none else if ¬ ra + 4 ≤ m.me.length then none else if ¬ (rc = 0 ∨ rb + (rc + 7) / 8 ≤ m.me.length) then none else
  match mkL i with
  | none => none
  | some P => some { m.nxt with me := put4 m.me ra.toNat (wsu (P ++ fbL (m.wds rb.toNat) rc.toNat)) }
theorem Mc.ok.put {m : Mc} (h : m.ok) {a : Nat} (ha : a < 16) {x : Int} (hx : U64 x) : (m.put a x).ok :=
  ⟨U64.wrap _, by simpa [Mc.put] using h.r16, fun k => by
    show U64 ((m.rg.set a x).getD k 0)
    rw [getD_set _ _ _ _ (by rw [h.r16]; exact ha)]; split; exact hx; exact h.rg k, h.st, h.me⟩
theorem Chg.drew {S : Nat → Prop} {a b : World} (h : Chg S a b) : Chg S a b.drew := ⟨h.os, h.tape, h.output, h.size, h.block⟩
end Go.Proofs.Ytimmiidkjpbffaa
/- Layer compile: what the layers below give. -/
namespace Go.Proofs.Ytimmiidkjpbffaa
open Go.RowKit
set_option maxRecDepth 100000
set_option linter.unusedVariables false
set_option linter.unusedSimpArgs false

/-- What stands in a word. -/
def dOp (w : Int) : Int := w / 72057594037927936
def dA (w : Int) : Int := w / 4503599627370496 % 16
def dB (w : Int) : Int := w / 281474976710656 % 16
def dC (w : Int) : Int := w / 17592186044416 % 16
def dI (w : Int) : Int := w % 4294967296
/-- Is it an instruction? -/
def dOk (w : Int) : Bool := decide (1 ≤ dOp w ∧ dOp w ≤ 25 ∧ w / 4294967296 % 4096 = 0)
/-- An instruction as it lies in memory. -/
def cdA (o a b c i : Int) : Array Value := #[.int .u8 o, .int .u8 a, .int .u8 b, .int .u8 c, .int .u32 i]
end Go.Proofs.Ytimmiidkjpbffaa
/- Layer compile: what the layers below give. -/
namespace Go.Proofs.Ytimmiidkjpbffaa
open Go.RowKit
set_option maxRecDepth 100000
set_option linter.unusedVariables false
set_option linter.unusedSimpArgs false

/-- A bool and the words beside it. -/
def dV (x : Int) : Array Value := if dOk x = true then cdA (dOp x) (dA x) (dB x) (dC x) (dI x) else cdA 0 0 0 0 0
/-- What Decode answers. -/
def DPost (x : Int) (w : World) (e : Ending) (w' : World) : Prop := e = .returned (.tuple #[.agg (dV x), .bool (dOk x)]) ∧ Below w.heap.size w w'
theorem DPost.mk' {x : Int} {w w' : World} {e : Ending} (b : Bool) (C : Array Value) (hb : dOk x = b) (hC : C = dV x) (he : e = .returned (.tuple #[.agg C, .bool b])) (hl : Below w.heap.size w w') : DPost x w e w' := by
  subst hb hC; exact ⟨he, hl⟩
theorem wrap8_of {x : Int} (h : 0 ≤ x) (h2 : x < 256) : IntKind.u8.wrap x = x := by
  simp only [IntKind.wrap, IntKind.bits, IntKind.signed]; simp; omega
theorem w32 (x : Int) : IntKind.u32.wrap x = x % 4294967296 := by simp only [IntKind.wrap, IntKind.bits, IntKind.signed]; simp
end Go.Proofs.Ytimmiidkjpbffaa
/- Layer compile: what the layers below give. -/
namespace Go.Proofs.Ytimmiidkjpbffaa
open Go.RowKit
set_option maxRecDepth 100000
set_option linter.unusedVariables false
set_option linter.unusedSimpArgs false

def four (W : Nat → Int) : List Value := [.int .u64 (W 0), .int .u64 (W 1), .int .u64 (W 2), .int .u64 (W 3)]
theorem four_get (W : Nat → Int) : ∀ t, t < 4 → (four W).toArray[t]? = some (.int .u64 (W t)) := fun t ht => by
  match t, ht with
  | 0, _ => rfl
  | 1, _ => rfl
  | 2, _ => rfl
  | 3, _ => rfl
theorem four_one (W : Nat → Int) : ∀ v ∈ four W, v.oneCell' = true := by simp [four, Value.oneCell']
theorem wordsOf_four (L : List Int) : wordsOf (shaB (bat L) L.length) = (four (wsu L)).toArray := by
  apply Array.ext_getElem?
  intro t
  by_cases h : t < 4
  · rw [four_get _ t h]; exact u64s_get h
  · rw [Array.getElem?_eq_none (by rw [wordsOf, u64s_size]; omega), Array.getElem?_eq_none (by show 4 ≤ _; omega)]
theorem outB_range (s : St) (t : Nat) : 0 ≤ outB s t ∧ outB s t ≤ 255 := by unfold outB; omega
theorem shaB_range (B : Nat → Int) (n t : Nat) : 0 ≤ shaB B n t ∧ shaB B n t ≤ 255 := outB_range _ _
theorem wsu_u (L : List Int) {j : Nat} (hj : j < 4) : U64 (wsu L j) := by
  have := wacc_range (H := shaB (bat L) L.length) (fun t _ => shaB_range _ _ t) hj 8 (Nat.le_refl _)
  have e : (256 : Int) ^ 8 = 18446744073709551616 := by decide
  rw [e] at this
  exact this
theorem Ch.setRow {S : Nat → Prop} {a b : World} (h : Ch S a b) {g : Nat} (D : Array Value) (hg : g < a.heap.size → S g) : Ch S a (b.setRow g D) :=
  ⟨h.os, h.tape, h.output, by simpa using h.size, fun i hi hs => (setRow_other b g i D (fun e => hs (by subst e; exact hg hi))).trans (h.block i hi hs)⟩
end Go.Proofs.Ytimmiidkjpbffaa
/- Layer compile: what the layers below give. -/
namespace Go.Proofs.Ytimmiidkjpbffaa
open Go.RowKit
set_option maxRecDepth 100000
set_option linter.unusedVariables false
set_option linter.unusedSimpArgs false

/-- Entries, by sums. -/
def entsB (L : List (List Int × Value × Nat)) : List MapEntry := L.map fun x => { key := .agg (h8 x.1), val := x.2.1, born := x.2.2 }
def kvB (L : List (List Int × Value × Nat)) (k : List Int) : Option Value := (L.find? (fun x => decide (x.1 = k))).map (·.2.1)
/-- Block r is a map that has m. -/
def MapB (w : World) (r : Nat) (m : List Int → Option Value) : Prop := ∃ L clock, w.heap[r]? = some (.map (entsB L).toArray clock) ∧ (∀ x ∈ L, x.1.length = 32) ∧ ∀ k, kvB L k = m k
theorem MapB.new (w : World) : MapB (w.alloc (.map #[] 0)) w.heap.size (fun _ => none) := ⟨[], 0, heap_alloc_new w _, (fun x h => by cases h), fun _ => rfl⟩
theorem MapB.lt {w : World} {r : Nat} {m : List Int → Option Value} (h : MapB w r m) : r < w.heap.size := by
  obtain ⟨L, clock, h1, h2⟩ := h
  exact (Array.getElem?_eq_some_iff.1 h1).1
end Go.Proofs.Ytimmiidkjpbffaa
