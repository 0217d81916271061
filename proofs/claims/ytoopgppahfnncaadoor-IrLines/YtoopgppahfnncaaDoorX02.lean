/- L2, Tw, I0, T1, ZVa, Ia, Ib, T2, Cm, Ic. -/
import Derived.Shelf.Strings.Builder1
import Derived.Shelf.Strings.Builder2
import Derived.Shelf.Strings.OnBuilder
import Derived.Shelf.Strings.BuilderF
import Derived.Shelf.Strings.BuilderK
import Derived.Test.YtoopgppahfnncaaDoorX01
import Derived.Test.YtoopgppahfnncaaDoorRows
import Derived.BigQuiet
import Derived.Deep.QuietTactic
import Derived.Deep.WholeRow
import Derived.WalkKit
import Derived.WalkLawsBesides
import Derived.WalkSpells
import Derived.BigRegion
import Derived.ChangeKeysEq
import Derived.ChangeOld
import Derived.Deep.DeepCutAuto
import Derived.Deep.DrawnRows
import Derived.Deep.MidRow
import Derived.Deep.OwnRows
import Derived.Deep.RegionHeld3
import Derived.Deep.RegionLaw
import Derived.Deep.RegionWith
import Derived.DeepKeys3
import Derived.Great.BuildSlice
import Derived.Great.FillDense
import Derived.Handy
import Derived.Laws.AppendOwnNone
import Derived.Laws.BitsLemmas
import Derived.Laws.BytesArg
import Derived.Laws.CopyOwn
import Derived.Laws.OwnMore
import Derived.Laws.ResultCell
import Derived.Laws.Tables
import Derived.Lib.SlBytesConst
import Derived.LoopIn
import Derived.LoopNIn
import Derived.LoopTactic
import Derived.Maps.AppendAt
import Derived.OpenShut
import Derived.OwnWalkIn
import Derived.ProofKit
import Derived.RangeFuncBound
import Derived.RangeFuncCalls
import Derived.RangeFuncLeaves
import Derived.RangeFuncNested
import Derived.RangeFuncRecord
import Derived.Recover
import Derived.Shelf.Abstract
import Derived.Shelf.RegionOpen
import Derived.ShutString
import Derived.SizedLaws
import Derived.TacticsInMore
import Derived.Lib.Walk
import Derived.Lib.ItoaMem
import Derived.Lib.AppendIntMem
import Derived.BigCall
import Derived.BigGuard
import Derived.WalkSmall
/- Layer ir: what the library gives, at this program: Builder and Join. -/
namespace Go.Proofs
open Go.Shelf
theorem Tryd.Builder_X72_240 : Builder.X72 Tryd.prog Tryd.lays240_ren where
  sizeBuilder := by kernel_rfl
  liesBuilder := by kernel_rfl
open Go.RowKit in
theorem Tryd.Builder_copyCheck (B b : Nat) (bs : List Value) (w : World) (h : Lib.IsBuilder 44 5 B b bs w) :
    Calls Tryd.prog 29 #[.pointer (some ⟨b, 0, none⟩)] w fun e w' => e = .returned (.tuple #[]) ∧ (Lib.BuilderAt 44 5 B b (.pointer (some ⟨b, 0, none⟩)) bs w' ∧ Below B w w') := Any.Builder_copyCheck Tryd.lays240 Tryd.Builder_X72_240 B b bs w h
theorem Tryd.Builder_Extra_167 : Builder.Extra Tryd.prog Tryd.lays167_ren where
  sizeBuilder := by kernel_rfl
  liesBuilder := by kernel_rfl
  t5 := Tryd.underlying5
  a5 := Tryd.isAgg5
  z5 := Tryd.sizeOf5
  v5 := Tryd.zeroValue5
  infoByte := by kernel_rfl
  cellsByte := by kernel_rfl
  sizeByte := by kernel_rfl
  neB5 := by decide
open Go.RowKit in
theorem Tryd.Builder_WriteByte (B b : Nat) (bs : List Value) (c : Int) (w : World) (h : Lib.IsBuilder 44 5 B b bs w) (hlen : bs.length + 1 ≤ 140737488355328) (hBw : B ≤ w.heap.size) :
    Calls Tryd.prog 19 #[.pointer (some ⟨b, 0, none⟩), .int .u8 c] w fun e w' => e = .returned .nilIface ∧ (Lib.BuilderAt 44 5 B b (.pointer (some ⟨b, 0, none⟩)) (bs ++ [.int .u8 c]) w' ∧ Below B w w') := Any.Builder_WriteByte Tryd.lays167 Tryd.Builder_Extra_167 B b bs c w h hlen hBw
theorem Tryd.Builder_Extra_166 : Builder.Extra Tryd.prog Tryd.lays166_ren where
  sizeBuilder := by kernel_rfl
  liesBuilder := by kernel_rfl
  t5 := Tryd.underlying5
  a5 := Tryd.isAgg5
  z5 := Tryd.sizeOf5
  v5 := Tryd.zeroValue5
  infoByte := by kernel_rfl
  cellsByte := by kernel_rfl
  sizeByte := by kernel_rfl
  neB5 := by decide
open Go.RowKit in
theorem Tryd.Builder_WriteString (B b : Nat) (bs : List Value) (s : ByteArray) (w : World) (h : Lib.IsBuilder 44 5 B b bs w) (hlen : bs.length + s.size ≤ 140737488355328) (hBw : B ≤ w.heap.size) :
    Calls Tryd.prog 17 #[.pointer (some ⟨b, 0, none⟩), .string s] w fun e w' => e = .returned (.tuple #[.int .i64 s.size, .nilIface]) ∧ (Lib.BuilderAt 44 5 B b (.pointer (some ⟨b, 0, none⟩)) (bs ++ Lib.strCells s) w' ∧ Below B w w') := Any.Builder_WriteString Tryd.lays166 Tryd.Builder_Extra_166 B b bs s w h hlen hBw
open Go.RowKit in
theorem Tryd.Builder_copyCheck_f (B b : Nat) (bs : List Value) (w : World) (h : Lib.IsBuilderF 44 5 B b bs w) :
    Calls Tryd.prog 29 #[.pointer (some ⟨b, 0, none⟩)] w fun e w' => e = .returned (.tuple #[]) ∧ (Lib.BuilderAtF 44 5 B b (.pointer (some ⟨b, 0, none⟩)) bs w' ∧ Below B w w') := Any.Builder_copyCheck_f Tryd.lays240 Tryd.Builder_X72_240 B b bs w h
open Go.RowKit in
theorem Tryd.Builder_WriteString_f (B b : Nat) (bs : List Value) (s : ByteArray) (w : World) (h : Lib.IsBuilderF 44 5 B b bs w) (hlen : bs.length + s.size ≤ 140737488355328) (hBw : B ≤ w.heap.size) :
    Calls Tryd.prog 17 #[.pointer (some ⟨b, 0, none⟩), .string s] w fun e w' => e = .returned (.tuple #[.int .i64 s.size, .nilIface]) ∧ (Lib.BuilderAtF 44 5 B b (.pointer (some ⟨b, 0, none⟩)) (bs ++ Lib.strCells s) w' ∧ Below B w w') := Any.Builder_WriteString_f Tryd.lays166 Tryd.Builder_Extra_166 B b bs s w h hlen hBw
open Go.RowKit in
theorem Tryd.Builder_copyCheck_k (B b : Nat) (bs : List Value) (w : World) (h : Lib.IsBuilderF 44 5 B b bs w) :
    Calls Tryd.prog 29 #[.pointer (some ⟨b, 0, none⟩)] w fun e w' => e = .returned (.tuple #[]) ∧ (Lib.BuilderAtF 44 5 B b (.pointer (some ⟨b, 0, none⟩)) bs w' ∧ Below B w w' ∧ Lib.OthersKept 5 (some b) w w') := Any.Builder_copyCheck_k Tryd.lays240 Tryd.Builder_X72_240 B b bs w h
open Go.RowKit in
theorem Tryd.Builder_WriteByte_k (B b : Nat) (bs : List Value) (c : Int) (w : World) (h : Lib.IsBuilderF 44 5 B b bs w) (hlen : bs.length + 1 ≤ 140737488355328) (hBw : B ≤ w.heap.size) :
    Calls Tryd.prog 19 #[.pointer (some ⟨b, 0, none⟩), .int .u8 c] w fun e w' => e = .returned .nilIface ∧ (Lib.BuilderAtF 44 5 B b (.pointer (some ⟨b, 0, none⟩)) (bs ++ [.int .u8 c]) w' ∧ Below B w w' ∧ Lib.OthersKept 5 (some b) w w') := Any.Builder_WriteByte_k Tryd.lays167 Tryd.Builder_Extra_167 B b bs c w h hlen hBw
open Go.RowKit in
theorem Tryd.Builder_WriteString_k (B b : Nat) (bs : List Value) (s : ByteArray) (w : World) (h : Lib.IsBuilderF 44 5 B b bs w) (hlen : bs.length + s.size ≤ 140737488355328) (hBw : B ≤ w.heap.size) :
    Calls Tryd.prog 17 #[.pointer (some ⟨b, 0, none⟩), .string s] w fun e w' => e = .returned (.tuple #[.int .i64 s.size, .nilIface]) ∧ (Lib.BuilderAtF 44 5 B b (.pointer (some ⟨b, 0, none⟩)) (bs ++ Lib.strCells s) w' ∧ Below B w w' ∧ Lib.OthersKept 5 (some b) w w') := Any.Builder_WriteString_k Tryd.lays166 Tryd.Builder_Extra_166 B b bs s w h hlen hBw
end Go.Proofs
/- Layer ir: what the layers below give. -/
namespace Go.Proofs.YtoopgppahfnncaaDoor
open Go.RowKit
set_option maxRecDepth 100000
set_option linter.unusedVariables false
set_option linter.unusedSimpArgs false

/-- Block g holds the cells C, and may be written. -/
def Arr (w : World) (g : Nat) (ty : TypeId) (C : Array Value) : Prop := w.heap[g]? = some (.cells C ty (0, 0))
theorem Arr.cell {w : World} {g ty : Nat} {C : Array Value} (h : Arr w g ty C) (j : Nat) : w.cell? ⟨g, j, none⟩ = C[j]? := by
  unfold Arr at h; simp [World.cell?, h]
theorem Arr.lt {w : World} {g ty : Nat} {C : Array Value} (h : Arr w g ty C) : g < w.heap.size := by
  unfold Arr at h; exact (Array.getElem?_eq_some_iff.1 h).1
theorem Arr.drew {w : World} {g ty : Nat} {C : Array Value} (h : Arr w g ty C) : Arr w.drew g ty C := h
theorem Arr.drewN {w : World} {g ty : Nat} {C : Array Value} (h : Arr w g ty C) (n : Nat) : Arr (w.drewN n) g ty C := h
theorem Arr.alloc {w : World} {g ty : Nat} {C : Array Value} (h : Arr w g ty C) (o : Obj) : Arr (w.alloc o) g ty C := by
  have := h.lt; unfold Arr at h ⊢; rw [Below.heap_alloc _ _ _ this]; exact h
theorem Arr.new (w : World) (ty : Nat) (C : Array Value) : Arr (w.alloc (.cells C ty)) w.heap.size ty C := by
  show (w.heap.push _)[w.heap.size]? = _; rw [Array.getElem?_push_size]
theorem Arr.below {w w' : World} {g ty B : Nat} {C : Array Value} (h : Arr w g ty C) (hb : Below B w w') (hg : g < B) : Arr w' g ty C := by
  unfold Arr at h ⊢; rw [hb.block g hg]; exact h
end Go.Proofs.YtoopgppahfnncaaDoor
/- Layer ir: what the layers below give. -/
namespace Go.Proofs.YtoopgppahfnncaaDoor
open Go.RowKit
set_option maxRecDepth 100000
set_option linter.unusedVariables false
set_option linter.unusedSimpArgs false

theorem hid {p : Prop} (h : p) : Hid p := h
theorem rb {w w' : World} {B b o : Nat} {cs : List Value} (h : w.rangeAt b o cs) (hb : Below B w w') (hlt : b < B) : w'.rangeAt b o cs := fun j v hv => (hb.cell (p := ⟨b, o + j, none⟩) hlt).trans (h j v hv)
theorem ab (w : World) (o : Obj) : Below w.heap.size w (w.alloc o) := (Below.refl _ _).alloc (Nat.le_refl _) o
theorem dwN {B : Nat} {a w : World} (h : Below B a w) (n : Nat) : Below B a (w.drewN n) := ⟨h.os, h.tape, h.output, h.size, h.block⟩
theorem dw1 {B : Nat} {a w : World} (h : Below B a w) : Below B a w.drew := ⟨h.os, h.tape, h.output, h.size, h.block⟩
theorem aL {P : Program} {ops : Array Oper} {rest : List Oper} {a : Act} {w : World} {Q : Exit → Act → World → Prop} (t : TypeId) (x : Operand) {d} {ty} {pos} {af} {g} (h : wpList P ops Q (⟨d, .load t x, ty, pos, af, g⟩ :: rest) a w) : wpList P ops Q (⟨d, .load t x, ty, pos, af, g⟩ :: rest) a w := h
theorem aS {P : Program} {ops : Array Oper} {rest : List Oper} {a : Act} {w : World} {Q : Exit → Act → World → Prop} (t : TypeId) (x y : Operand) {d} {ty} {pos} {af} {g} (h : wpList P ops Q (⟨d, .store t x y, ty, pos, af, g⟩ :: rest) a w) : wpList P ops Q (⟨d, .store t x y, ty, pos, af, g⟩ :: rest) a w := h
theorem wW {P : Program} {ops : Array Oper} {rest : List Oper} {o : Oper} {a : Act} {w : World} {Q : Exit → Act → World → Prop} (hw : Region.wanted o (yielded ops a.tmps) = true)
    (h : ∀ K : Act → World → Prop, (∀ a w, wpList P ops Q rest a w → K a w) → o.wp P a w K Q) : wpList P ops Q (o :: rest) a w :=
  wpList_step fun K hK => by rw [if_pos hw]; exact h K hK
theorem lR {ops : Array Oper} {rest : List Oper} {o : Oper} {a : Act} {w : World} {Q : Exit → Act → World → Prop} (hgd : Region.wanted o (yielded ops a.tmps) = true) (ty : TypeId) (x : Operand) (ho : o.op = .load ty x)
    (g : Nat) (hx : a.eval x = .pointer (some ⟨g, 0, none⟩)) (C : Array Value) {ty' : TypeId} (hA : Arr w g ty' C) {d : TypeDesc} (hu : Tryd.prog.underlying ty = some d) (hd : d.isRow = true) (hs : (Tryd.prog.info? ty).map (·.size) = some C.size)
    (h : wpList Tryd.prog ops Q rest (a.put o.dst (.agg C)) w) : wpList Tryd.prog ops Q (o :: rest) a w :=
  wW hgd fun _ hK => wp_load_mid ty x ho g 0 hx C.toList _ (fun j v hv => by rw [Nat.zero_add, hA.cell]; simpa using hv) hu hd (by rw [Array.length_toList]; exact hs) (hK _ _ (by simpa using h))
theorem lM {ops : Array Oper} {rest : List Oper} {o : Oper} {a : Act} {w : World} {Q : Exit → Act → World → Prop} (hgd : Region.wanted o (yielded ops a.tmps) = true) (ty : TypeId) (x : Operand) (ho : o.op = .load ty x)
    (g off : Nat) (hx : a.eval x = .pointer (some ⟨g, off, none⟩)) (C : List Value) (hA : w.rangeAt g off C) {d : TypeDesc} (hu : Tryd.prog.underlying ty = some d) (hd : d.isRow = true) (hs : (Tryd.prog.info? ty).map (·.size) = some C.length)
    (h : wpList Tryd.prog ops Q rest (a.put o.dst (.agg C.toArray)) w) : wpList Tryd.prog ops Q (o :: rest) a w :=
  wW hgd fun _ hK => wp_load_mid ty x ho g off hx C _ hA hu hd hs (hK _ _ h)
theorem s76 : (Tryd.prog.info? 80).map (·.size) = some 5 := by kernel_rfl
theorem s78 : (Tryd.prog.info? 66).map (·.size) = some 7 := by kernel_rfl
theorem s52 : (Tryd.prog.info? 40).map (·.size) = some 3 := by kernel_rfl
theorem s102 : (Tryd.prog.info? 73).map (·.size) = some 2 := by kernel_rfl
theorem s24I : (Tryd.prog.info? 24).map (·.size) = some 2 := by kernel_rfl
/-- The same but for the blocks of S. -/
structure Ch (S : Nat → Prop) (w w' : World) : Prop where
  os : w'.os = w.os
  tape : w'.tape = w.tape
  output : w'.output = w.output
  size : w.heap.size ≤ w'.heap.size
  block : ∀ b, b < w.heap.size → ¬ S b → w'.heap[b]? = w.heap[b]?
theorem Ch.refl (S : Nat → Prop) (w : World) : Ch S w w := ⟨rfl, rfl, rfl, Nat.le_refl _, fun _ _ _ => rfl⟩
theorem Ch.trans {S : Nat → Prop} {a b c : World} (h : Ch S a b) (k : Ch S b c) : Ch S a c :=
  ⟨k.os.trans h.os, k.tape.trans h.tape, k.output.trans h.output, Nat.le_trans h.size k.size, fun i hi hs => (k.block i (Nat.lt_of_lt_of_le hi h.size) hs).trans (h.block i hi hs)⟩
theorem Ch.mono {S T : Nat → Prop} {a b : World} (h : Ch S a b) (hST : ∀ i, i < a.heap.size → S i → T i) : Ch T a b :=
  ⟨h.os, h.tape, h.output, h.size, fun i hi ht => h.block i hi fun hs => ht (hST i hi hs)⟩
theorem Ch.ob {S : Nat → Prop} {a b : World} (h : Below a.heap.size a b) : Ch S a b := ⟨h.os, h.tape, h.output, h.size, fun i hi _ => h.block i hi⟩
theorem Ch.bl {S : Nat → Prop} {a b : World} {N : Nat} (h : Ch S a b) (hN : ∀ i, i < N → i < a.heap.size ∧ ¬ S i) : Below N a b := ⟨h.os, h.tape, h.output, h.size, fun i hi => h.block i (hN i hi).1 (hN i hi).2⟩
theorem Ch.al {S : Nat → Prop} {a b : World} (h : Ch S a b) (o : Obj) : Ch S a (b.alloc o) := h.trans (Ch.ob (ab b o))
theorem Ch.dw {S : Nat → Prop} {a b : World} (h : Ch S a b) : Ch S a b.drew := ⟨h.os, h.tape, h.output, h.size, h.block⟩
theorem Ch.dwN {S : Nat → Prop} {a b : World} (h : Ch S a b) (n : Nat) : Ch S a (b.drewN n) := ⟨h.os, h.tape, h.output, h.size, h.block⟩
theorem Ch.st {S : Nat → Prop} {a b : World} (h : Ch S a b) {g j : Nat} (v : Value) (hg : g < a.heap.size → S g) : Ch S a (b.setCell ⟨g, j, none⟩ v) :=
  ⟨h.os, h.tape, h.output, by simpa using h.size, fun i hi hn => (Below.heap_setCell _ _ _ _ (fun e => hn (by have e' : i = g := e; rw [e'] at hi ⊢; exact hg hi))).trans (h.block i hi hn)⟩
theorem Ch.arr {S : Nat → Prop} {a b : World} (h : Ch S a b) {g ty : Nat} {C : Array Value} (hA : Arr a g ty C) (hS : ¬ S g) : Arr b g ty C := (h.block g hA.lt hS).trans hA
theorem Arr.bl {w w' : World} {g ty : Nat} {C : Array Value} (h : Arr w g ty C) (hb : Below w.heap.size w w') : Arr w' g ty C := h.below hb h.lt
end Go.Proofs.YtoopgppahfnncaaDoor
/- Layer ir: numerals. -/
namespace Go.Proofs.YtoopgppahfnncaaDoor
open Go.Shelf Go.RowKit Go.Sort Go.Lib
set_option maxRecDepth 100000
set_option linter.unusedVariables false
set_option linter.unusedSimpArgs false


set_option maxHeartbeats 4000000 in
theorem fmtUint72 (u : Nat) (hu64 : u < 18446744073709551616) (w : World) (htab : Lib.TabIs Tryd.prog w "internal/strconv.uint64pow10" .u64 Lib.pow10Tab) :
    Calls Tryd.prog 72 #[.int .u64 (u : Int), .int .i64 10] w fun e w' => e = .returned (.string ⟨(Lib.decDigits u).toArray⟩) ∧ ∃ k os, w' = grow (w.drewN k) os := by
  by_cases hs : u < 100
  · have hsI : (u : Int) < 100 := by omega
    go_enter Tryd.func72, Tryd.ntmps72
    go_wp2_with (go_at_call 55; go_must (refine (Tryd.internal_strconv_small u hs _).mono ?_; rintro e w' ⟨rfl, rfl⟩))
    go_ret
    exact ⟨rfl, 0, #[], by simp [World.drewN_zero]⟩
  · have hu1 : 1 ≤ u := by omega
    have hsI : ¬ (u : Int) < 100 := by omega
    have hnd20 : Lib.nDigits u ≤ 20 := by have := Lib.numDigits_eq u hu1 hu64; split at this <;> omega
    have hal : Tryd.prog.arrayLen 98 = 24 := by simp [Program.arrayLen, Tryd.underlying98]
    have hsl1 : ∀ W, (Instr.sliceAt 98 (.pointer (some ⟨w.heap.size, 0, none⟩)) none (some (.int .i64 (Lib.nDigits u : Int))) none).run Tryd.prog W = .ok (.slice (some ⟨w.heap.size, 0, none⟩) (Lib.nDigits u) 24) W := fun W => by
      rw [run_sliceAt_array_h W 98 ⟨w.heap.size, 0, none⟩ (by simp [Program.arrayLen, Program.elem, Tryd.underlying98]) .i64 (Lib.nDigits u : Int) (by omega) (by rw [hal]; omega)]
      go_simp
    have hH0 := Lib.holds_zero0 w 98 (Lib.nDigits u) (by omega)
    have hfmt := Tryd.internal_strconv_formatBase10 w.heap.size 0 24 u (Array.replicate (Lib.nDigits u) 0) (w.alloc (.cells Lib.zeros24 98)) hH0 (by rw [Array.size_replicate]; exact Lib.lt_pow_nDigits u) hu64 (by rw [Array.size_replicate]; omega)
    rw [Array.size_replicate] at hfmt
    have HH0 := Lib.hid hH0
    clear hH0 hal
    go_enter Tryd.func72, Tryd.ntmps72
    go_wp2_with (first
      | (go_at_call 56; go_must (refine (Tryd.internal_strconv_numDigits u hu1 hu64 _ (Lib.tabIs_alloc htab _)).mono ?_; rintro e w' ⟨rfl, rfl⟩)))
    go_at_call 57
    refine hfmt.mono ?_
    rintro e w' ⟨rfl, k, v', dk, rfl, hF⟩
    have hcv : (convert 42 9 (.slice (some ⟨w.heap.size, 0, none⟩) (Lib.nDigits u) 24)).run Tryd.prog ((putRow (fun (b : UInt8) => Value.int .u8 (b.toNat : Int)) (w.alloc (.cells Lib.zeros24 98)) w.heap.size 0 dk).drewN k) = .ok (.string ⟨(Lib.decDigits u).toArray⟩) ((putRow (fun (b : UInt8) => Value.int .u8 (b.toNat : Int)) (w.alloc (.cells Lib.zeros24 98)) w.heap.size 0 dk).drewN k) := by
      have h := run_convert_bytes_back (P := Tryd.prog) ((putRow (fun (b : UInt8) => Value.int .u8 (b.toNat : Int)) (w.alloc (.cells Lib.zeros24 98)) w.heap.size 0 dk).drewN k) 42 9 5 ⟨w.heap.size, 0, none⟩ 24 (Lib.decDigits u) Tryd.underlying42 Tryd.underlying5 Tryd.underlying9 (fun j hj => by
        rw [Lib.row_is_numeral hF j hj, Lib.add_plain, World.cell?_drewN]
        exact cell?_putRow (fun (b : UInt8) => Value.int .u8 (b.toNat : Int)) _ w.heap.size 0 _ dk HH0.out (by rw [hF.size, Array.size_replicate]) j (by rw [hF.size]; rw [Lib.decDigits_length] at hj; exact hj))
      rw [Lib.decDigits_length] at h
      exact h
    go_wp2
    go_ret
    obtain ⟨os, eo⟩ := Lib.fin_at w (.cells Lib.zeros24 98) dk k 0
    exact ⟨rfl, k, os, eo⟩
theorem fmtUint_any (u : Nat) (hu64 : u < 18446744073709551616) (w : World) (htab : Lib.TabIs Tryd.prog w "internal/strconv.uint64pow10" .u64 Lib.pow10Tab) :
    Calls Tryd.prog 60 #[.int .u64 (u : Int), .int .i64 10] w fun e w' => e = .returned (.string ⟨(Lib.decDigits u).toArray⟩) ∧ ∃ k os, w' = grow (w.drewN k) os := by
  go_enter Tryd.func60, Tryd.ntmps60
  go_wp2_with (go_at_call 72; go_must (refine (fmtUint72 u hu64 w htab).mono ?_; rintro e w' ⟨rfl, k, os, rfl⟩))
  go_ret
  exact ⟨rfl, k, os, rfl⟩
end Go.Proofs.YtoopgppahfnncaaDoor
/- Layer ir: what the layers below give. -/
namespace Go.Proofs.YtoopgppahfnncaaDoor
open Go.RowKit
set_option maxRecDepth 100000
set_option linter.unusedVariables false
set_option linter.unusedSimpArgs false

/-- Is it a number of 64 bits? -/
def U64 (x : Int) : Prop := 0 ≤ x ∧ x < 18446744073709551616
theorem U64.wrap (x : Int) : U64 (IntKind.u64.wrap x) := by
  simp only [IntKind.wrap, IntKind.bits, IntKind.signed]
  unfold U64
  simp
  omega
end Go.Proofs.YtoopgppahfnncaaDoor
/- Layer ir: what the layers below give. -/
namespace Go.Proofs.YtoopgppahfnncaaDoor
open Go.RowKit
set_option maxRecDepth 100000
set_option linter.unusedVariables false
set_option linter.unusedSimpArgs false

/-- An expression, and what stands below it. -/
structure ExN (α : Type) where
  k : Int
  n : Int
  v : Int
  o : Int
  l : List α
/-- An expression down to a depth. -/
def ExT : Nat → Type
  | 0 => Unit
  | d + 1 => ExN (ExT d)
structure StN (α : Type) where
  k : Int
  v : Int
  f : Int
  t : Int
  a : List (ExT 8)
  th : List α
  el : List α
def StT : Nat → Type
  | 0 => Unit
  | d + 1 => StN (StT d)
structure FuT where
  p : Int
  v : Int
  b : List (StT 8)
structure PgT where
  fs : List FuT
  da : Int
/-- What is left behind all parts of a list, each of which needs some. -/
def fld {α : Type} (f : α → Nat → Option Nat) : List α → Nat → Option Nat
  | [], n => some n
  | a :: r, n => (f a n).bind (fld f r)
def mayE {α : Type} (vs : Int) (t : ExN α) : Bool :=
  if t.k = 1 then decide ((t.l.length : Int) = 0 ∧ t.v = 0 ∧ t.o = 0)
  else if t.k = 2 then decide ((0 ≤ t.v ∧ t.v < vs) ∧ (t.l.length : Int) = 0 ∧ t.n = 0 ∧ t.o = 0)
  else if t.k = 3 then decide (5 ≤ t.o ∧ t.o ≤ 16 ∧ (t.l.length : Int) = 2 ∧ t.n = 0 ∧ t.v = 0)
  else if t.k = 4 then decide ((t.l.length : Int) = 1 ∧ t.n = 0 ∧ t.v = 0 ∧ t.o = 0)
  else false
def exN (vs : Int) : (d : Nat) → ExT d → Nat → Option Nat
  | 0, _, _ => none
  | d + 1, t, n => if n = 0 ∨ mayE vs (α := ExT d) t = false then none else fld (exN vs d) (ExN.l (α := ExT d) t) (n - 1)
/-- ps: how many arguments the functions ahead take. -/
def tkB (ps : List Int) (f a : Int) : Bool := decide (0 ≤ f ∧ f < ps.length ∧ a = ps.getD f.toNat 0)
def mayS {α : Type} (ps : List Int) (vs : Int) (s : StN α) : Bool :=
  if s.k = 1 ∨ s.k = 9 then decide ((0 ≤ s.v ∧ s.v < vs) ∧ (s.a.length : Int) = 1 ∧ s.f = 0 ∧ s.t = 0 ∧ (s.th.length : Int) = 0 ∧ (s.el.length : Int) = 0)
  else if s.k = 2 then decide ((s.a.length : Int) = 2 ∧ s.v = 0 ∧ s.f = 0 ∧ s.t = 0 ∧ (s.th.length : Int) = 0 ∧ (s.el.length : Int) = 0)
  else if s.k = 3 then decide ((s.a.length : Int) = 1 ∧ s.v = 0 ∧ s.f = 0 ∧ s.t = 0)
  else if s.k = 4 then decide ((s.a.length : Int) = 1 ∧ s.v = 0 ∧ s.f = 0 ∧ s.t = 0 ∧ (s.el.length : Int) = 0)
  else if s.k = 5 then decide ((s.a.length : Int) = 1 ∧ s.v = 0 ∧ s.f = 0 ∧ s.t = 0 ∧ (s.th.length : Int) = 0 ∧ (s.el.length : Int) = 0)
  else if s.k = 6 then decide ((0 ≤ s.v ∧ s.v < vs) ∧ tkB ps s.f s.a.length = true ∧ s.t = 0 ∧ (s.th.length : Int) = 0 ∧ (s.el.length : Int) = 0)
  else if s.k = 7 then decide (0 ≤ s.t ∧ s.t ≤ 256 ∧ (s.a.length : Int) = 3 ∧ s.v = 0 ∧ s.f = 0 ∧ (s.th.length : Int) = 0 ∧ (s.el.length : Int) = 0)
  else if s.k = 8 then decide ((0 ≤ s.v ∧ s.v < vs) ∧ (s.a.length : Int) = 2 ∧ s.f = 0 ∧ s.t = 0 ∧ (s.th.length : Int) = 0 ∧ (s.el.length : Int) = 0)
  else false
def stN (ps : List Int) (vs : Int) : (d : Nat) → StT d → Nat → Option Nat
  | 0, _, _ => none
  | d + 1, s, n => if n = 0 ∨ mayS ps vs (α := StT d) s = false then none else
      (fld (exN vs 8) (StN.a (α := StT d) s) (n - 1)).bind fun n1 => (fld (stN ps vs d) (StN.th (α := StT d) s) n1).bind (fld (stN ps vs d) (StN.el (α := StT d) s))
/-- ps: of the functions ahead. -/
def fnN : List FuT → List Int → Nat → Option Nat
  | [], _, n => some n
  | f :: r, ps, n => if 0 ≤ f.v ∧ f.v ≤ 64 ∧ 0 ≤ f.p ∧ f.p ≤ f.v then (fld (stN ps f.v 8) f.b n).bind (fnN r (ps ++ [f.p])) else none
def begB (p : PgT) : Bool := decide (0 < p.fs.length ∧ p.fs.length ≤ 32 ∧ (p.fs.getLast?.map FuT.p) = some 0 ∧ 0 ≤ p.da ∧ p.da ≤ 1024)
/-- How many nodes are left behind a program that may be. -/
def pgN (p : PgT) : Option Nat := if begB p = true then fnN p.fs [] 4096 else none
theorem fld_le {α : Type} {f : α → Nat → Option Nat} (hf : ∀ a n m, f a n = some m → m ≤ n) : ∀ (l : List α) (n m : Nat), fld f l n = some m → m ≤ n
  | [], n, m, h => by cases h; omega
  | a :: r, n, m, h => by
    unfold fld at h
    cases h1 : f a n with
    | none => rw [h1] at h; cases h
    | some k => rw [h1] at h; exact Nat.le_trans (fld_le hf r k m h) (hf a n k h1)
theorem exN_le {vs : Int} : ∀ (d : Nat) (t : ExT d) (n m : Nat), exN vs d t n = some m → m ≤ n
  | 0, _, _, _, h => by cases h
  | d + 1, t, n, m, h => by
    unfold exN at h
    split at h
    · cases h
    · exact Nat.le_trans (fld_le (exN_le d) _ _ _ h) (by omega)
theorem stN_le {ps : List Int} {vs : Int} : ∀ (d : Nat) (t : StT d) (n m : Nat), stN ps vs d t n = some m → m ≤ n
  | 0, _, _, _, h => by cases h
  | d + 1, t, n, m, h => by
    unfold stN at h
    split at h
    · cases h
    · cases h1 : fld (exN vs 8) (StN.a (α := StT d) t) (n - 1) with
      | none => rw [h1] at h; cases h
      | some k =>
        rw [h1] at h
        replace h : (fld (stN ps vs d) (StN.th (α := StT d) t) k).bind (fld (stN ps vs d) (StN.el (α := StT d) t)) = some m := h
        cases h2 : fld (stN ps vs d) (StN.th (α := StT d) t) k with
        | none => rw [h2] at h; cases h
        | some k2 =>
          rw [h2] at h
          have a1 := fld_le (exN_le 8) _ _ _ h1
          have a2 := fld_le (stN_le d) _ _ _ h2
          have a3 := fld_le (stN_le d) _ _ _ h
          omega
end Go.Proofs.YtoopgppahfnncaaDoor
/- Layer ir: what the layers below give. -/
namespace Go.Proofs.YtoopgppahfnncaaDoor
open Go.RowKit
set_option maxRecDepth 100000
set_option linter.unusedVariables false
set_option linter.unusedSimpArgs false

/-- Things of sz cells one behind the other, in blocks below N. -/
structure RS {α : Type} (N : Nat) (w : World) (sz : Nat) (R : List Value → α → Prop) (sp : Option Addr) (n cap : Nat) (l : List α) : Prop where
  len : Hid (n = l.length)
  nil : sp = none → n = 0 ∧ cap = 0
  le : n ≤ cap
  big : cap ≤ 9223372036854775807
  small : n ≤ 140737488355328
  at0 : 0 < n → ∃ g off, sp = some ⟨g, off, none⟩ ∧ g < N ∧ ∀ i a, l[i]? = some a → ∃ cs, w.rangeAt g (off + i * sz) cs ∧ R cs a
theorem RS.imp {α : Type} {N : Nat} {w w' : World} {sz : Nat} {R R' : List Value → α → Prop} {sp : Option Addr} {n cap : Nat} {l : List α} (h : RS N w sz R sp n cap l) (hb : Below N w w') (hR : ∀ cs a, R cs a → R' cs a) : RS N w' sz R' sp n cap l :=
  ⟨h.len, h.nil, h.le, h.big, h.small, fun h0 => let ⟨b, off, e, hbN, hB⟩ := h.at0 h0; ⟨b, off, e, hbN, fun i a hX => let ⟨cs, h1, h2⟩ := hB i a hX; ⟨cs, rb h1 hb hbN, hR cs a h2⟩⟩⟩
theorem RS.nil0 {α : Type} (N : Nat) (w : World) (sz : Nat) (R : List Value → α → Prop) : RS N w sz R none 0 0 [] := ⟨rfl, fun _ => ⟨rfl, rfl⟩, Nat.le_refl _, by omega, by omega, fun h => absurd h (by omega)⟩
def I64 (x : Int) : Prop := -9223372036854775808 ≤ x ∧ x ≤ 9223372036854775807
def U8 (x : Int) : Prop := 0 ≤ x ∧ x < 256
def exC (k n v o : Int) (s : Value) : List Value := [.int .u8 k, .int .u64 n, .int .i64 v, .int .u8 o, s]
def stC (k v f t : Int) (a b c : Value) : List Value := [.int .u8 k, .int .i64 v, .int .i64 f, .int .i64 t, a, b, c]
def fuC (p v : Int) (b : Value) : List Value := [.int .i64 p, .int .i64 v, b]
def ExT.nd {d : Nat} (t : ExT (d + 1)) : ExN (ExT d) := t
def StT.nd {d : Nat} (t : StT (d + 1)) : StN (StT d) := t
structure ExN.ok {α : Type} (t : ExN α) : Prop where
  k : U8 t.k
  n : U64 t.n
  v : I64 t.v
  o : U8 t.o
structure StN.ok {α : Type} (t : StN α) : Prop where
  k : U8 t.k
  v : I64 t.v
  f : I64 t.f
  t : I64 t.t
/-- An expression in memory, down to a depth. -/
def ExM (N : Nat) (w : World) : (d : Nat) → List Value → ExT d → Prop
  | 0, cs, _ => ∃ k n v o sp m cap, cs = exC k n v o (.slice sp m cap)
  | d + 1, cs, t => ∃ sp m cap, cs = exC t.nd.k t.nd.n t.nd.v t.nd.o (.slice sp m cap) ∧ t.nd.ok ∧ RS N w 5 (ExM N w d) sp m cap t.nd.l
theorem ExM.below {N : Nat} {w w' : World} (hb : Below N w w') : ∀ (d : Nat) (cs : List Value) (t : ExT d), ExM N w d cs t → ExM N w' d cs t
  | 0, _, _, h => h
  | d + 1, _, _, h => let ⟨sp, m, cap, h1, h2, h3⟩ := h; ⟨sp, m, cap, h1, h2, h3.imp hb (ExM.below hb d)⟩
def StM (N : Nat) (w : World) : (d : Nat) → List Value → StT d → Prop
  | 0, cs, _ => ∃ k v f t sa na ca sb nb cb sc nc cc, cs = stC k v f t (.slice sa na ca) (.slice sb nb cb) (.slice sc nc cc)
  | d + 1, cs, t => ∃ sa na ca sb nb cb sc nc cc, cs = stC t.nd.k t.nd.v t.nd.f t.nd.t (.slice sa na ca) (.slice sb nb cb) (.slice sc nc cc) ∧ t.nd.ok ∧ RS N w 5 (ExM N w 8) sa na ca t.nd.a ∧ RS N w 7 (StM N w d) sb nb cb t.nd.th ∧ RS N w 7 (StM N w d) sc nc cc t.nd.el
theorem StM.below {N : Nat} {w w' : World} (hb : Below N w w') : ∀ (d : Nat) (cs : List Value) (t : StT d), StM N w d cs t → StM N w' d cs t
  | 0, _, _, h => h
  | d + 1, _, _, h => let ⟨sa, na, ca, sb, nb, cb, sc, nc, cc, h1, h2, h3, h4, h5⟩ := h; ⟨sa, na, ca, sb, nb, cb, sc, nc, cc, h1, h2, h3.imp hb (ExM.below hb 8), h4.imp hb (StM.below hb d), h5.imp hb (StM.below hb d)⟩
def FuM (N : Nat) (w : World) (cs : List Value) (f : FuT) : Prop := ∃ sp m cap, cs = fuC f.p f.v (.slice sp m cap) ∧ (I64 f.p ∧ I64 f.v) ∧ RS N w 7 (StM N w 8) sp m cap f.b
theorem FuM.below {N : Nat} {w w' : World} (hb : Below N w w') (cs : List Value) (f : FuT) (h : FuM N w cs f) : FuM N w' cs f :=
  let ⟨sp, m, cap, h1, h2, h3⟩ := h; ⟨sp, m, cap, h1, h2, h3.imp hb (StM.below hb 8)⟩
def PgM (N : Nat) (w : World) (cs : List Value) (p : PgT) : Prop := ∃ sp m cap, cs = [.slice sp m cap, .int .i64 p.da] ∧ I64 p.da ∧ RS N w 3 (FuM N w) sp m cap p.fs
theorem PgM.below {N : Nat} {w w' : World} (hb : Below N w w') (cs : List Value) (p : PgT) (h : PgM N w cs p) : PgM N w' cs p :=
  let ⟨sp, m, cap, h1, h2, h3⟩ := h; ⟨sp, m, cap, h1, h2, h3.imp hb (FuM.below hb)⟩
/-- How many nodes are left, and may it be? -/
def CtP (r : Option Nat) (w : World) (e : Ending) (w' : World) : Prop := e = .returned (.tuple #[.int .i64 (r.getD 0 : Nat), .bool r.isSome]) ∧ Below w.heap.size w w'
end Go.Proofs.YtoopgppahfnncaaDoor
/- Layer ir: texts of variables and signs. -/
namespace Go.Proofs.YtoopgppahfnncaaDoor
open Go.Shelf Go.RowKit Go.Sort
set_option maxRecDepth 100000
set_option linter.unusedVariables false
set_option linter.unusedSimpArgs false


/-- The table of powers of ten lies there. -/
def Tb (w : World) : Prop := Lib.TabIs Tryd.prog w "internal/strconv.uint64pow10" .u64 Lib.pow10Tab
theorem Tb.bl {w w' : World} (h : Tb w) (hb : Below w.heap.size w w') : Tb w' := by
  unfold Tb Lib.TabIs at h ⊢
  have hg : Tryd.prog.globalNamed "internal/strconv.uint64pow10" = some 1 := by kernel_rfl
  refine var?_below hb hg ?_ h
  unfold World.var? at h
  rw [hg] at h
  simp only [Option.bind_some] at h
  apply Decidable.byContradiction
  intro hn
  rw [Array.getElem?_eq_none (by omega)] at h
  simp at h
theorem bl_grow {w w' : World} (h : ∃ k os, w' = grow (w.drewN k) os) : Below w.heap.size w w' := by
  obtain ⟨k, os, rfl⟩ := h
  exact Lib.below_grow _ w (Nat.le_refl _) k os
/-- Text. -/
def tx (l : List UInt8) : ByteArray := ⟨l.toArray⟩
theorem tx_size (l : List UInt8) : (tx l).size = l.length := by simp [tx, ByteArray.size]
theorem tx_app (a b : List UInt8) : tx a ++ tx b = tx (a ++ b) := by
  apply ByteArray.ext
  simp [tx, ByteArray.data_append]
theorem nd20 (u : Nat) (h : u < 18446744073709551616) : (Lib.decDigits u).length ≤ 20 := by
  rw [Lib.decDigits_length]
  by_cases h1 : 1 ≤ u
  · have := Lib.numDigits_eq u h1 h; split at this <;> omega
  · have : u = 0 := by omega
    subst this; unfold Lib.nDigits; simp
theorem itoa_len (n : Int) (hn : I64 n) : (Lib.itoa n).length ≤ 21 := by
  by_cases h : 0 ≤ n
  · obtain ⟨u, rfl⟩ : ∃ u : Nat, n = u := ⟨n.toNat, by omega⟩
    rw [Lib.itoa_nonneg]
    have := nd20 u (by unfold I64 at hn; omega); omega
  · obtain ⟨u, rfl⟩ : ∃ u : Nat, n = -(u : Int) := ⟨n.natAbs, by omega⟩
    rw [Lib.itoa_neg u (by omega), List.length_cons]
    have := nd20 u (by unfold I64 at hn; omega); omega
/-- A maker of text comes to this. -/
def TxP (l : List UInt8) (w : World) (e : Ending) (w' : World) : Prop := e = .returned (.string (tx l)) ∧ Below w.heap.size w w'
theorem itoa_any (n : Int) (w : World) (hn : I64 n) (ht : Tb w) : Calls Tryd.prog 20 #[.int .i64 n] w (TxP (Lib.itoa n) w) := by
  refine (Tryd.strconv_Itoa n hn.1 hn.2 w ht).mono ?_
  rintro e w' ⟨rfl, h⟩
  exact ⟨rfl, bl_grow h⟩
theorem utoa_any (n : Int) (w : World) (hn : U64 n) (ht : Tb w) : Calls Tryd.prog 60 #[.int .u64 n, .int .i64 10] w (TxP (Lib.decDigits n.toNat) w) := by
  obtain ⟨u, rfl⟩ : ∃ u : Nat, n = u := ⟨n.toNat, by unfold U64 at hn; omega⟩
  refine (fmtUint_any u (by unfold U64 at hn; omega) w ht).mono ?_
  rintro e w' ⟨rfl, h⟩
  exact ⟨by simp [tx], bl_grow h⟩
set_option maxHeartbeats 1000000 in
theorem varText_any (n : Int) (w : World) (hn : I64 n) (ht : Tb w) : Calls Tryd.prog 44 #[.int .i64 n] w (TxP (118 :: Lib.itoa n) w) := by
  have hi := itoa_any n w hn ht
  have hl := itoa_len n hn
  rw [← tx_size] at hl
  have he : tx (118 :: Lib.itoa n) = ⟨#[118]⟩ ++ tx (Lib.itoa n) := (tx_app [118] _).symm
  unfold TxP at hi ⊢
  rw [he]
  clear he
  generalize tx (Lib.itoa n) = s at *
  have hs : ¬ 9223372036854775807 < 1 + s.size := by omega
  clear ht hl
  go_enter Tryd.func44, Tryd.ntmps44
  go_wp2_with (go_at_call 20; go_must (refine hi.mono ?_; rintro e w1 ⟨rfl, hb1⟩))
  go_ret
  exact ⟨rfl, hb1⟩
/-- The sign of an operation. -/
def sgn (o : Int) : List UInt8 := if o = 5 then [43] else if o = 6 then [45] else if o = 7 then [42] else if o = 8 then [47] else if o = 9 then [37] else if o = 10 then [38] else if o = 11 then [33] else if o = 12 then [94] else if o = 13 then [60, 60] else if o = 14 then [62, 62] else if o = 15 then [60] else [61, 61]
theorem sgn_len (o : Int) : (sgn o).length ≤ 2 := by unfold sgn; repeat' split
                                                     all_goals simp
set_option maxHeartbeats 2000000 in
theorem sign71_any (o : Int) (w : World) (h : 5 ≤ o ∧ o ≤ 16) : Calls Tryd.prog 71 #[.int .u8 o] w (TxP (sgn o) w) := by
  have ho : o = 5 ∨ o = 6 ∨ o = 7 ∨ o = 8 ∨ o = 9 ∨ o = 10 ∨ o = 11 ∨ o = 12 ∨ o = 13 ∨ o = 14 ∨ o = 15 ∨ o = 16 := by omega
  clear h
  rcases ho with rfl | rfl | rfl | rfl | rfl | rfl | rfl | rfl | rfl | rfl | rfl | rfl
  all_goals
    go_enter Tryd.func71, Tryd.ntmps71
    go_wp2_with fail
    go_ret
    exact ⟨rfl, ab _ _⟩
end Go.Proofs.YtoopgppahfnncaaDoor
/- Layer compile: what the layers below give. -/
namespace Go.Proofs.YtoopgppahfnncaaDoor
open Go.ChangeAt Go.ChangeShapes Go.RowKit Go.WideShapes
set_option maxRecDepth 100000
set_option linter.unusedVariables false
set_option linter.unusedSimpArgs false

theorem exists_list {α : Type} {P : Nat → α → Prop} : ∀ (n : Nat), (∀ i, i < n → ∃ a, P i a) → ∃ l : List α, l.length = n ∧ ∀ i a, l[i]? = some a → P i a
  | 0, _ => ⟨[], rfl, fun i a h => by simp at h⟩
  | n + 1, h => by
    obtain ⟨l, hl, hP⟩ := exists_list n (fun i hi => h i (by omega))
    obtain ⟨a, ha⟩ := h n (by omega)
    refine ⟨l ++ [a], by simp [hl], fun i b hb => ?_⟩
    by_cases hi : i < n
    · rw [List.getElem?_append_left (by omega)] at hb; exact hP i b hb
    · rw [List.getElem?_append_right (by omega)] at hb
      have : i - l.length = 0 := by have := (List.getElem?_eq_some_iff.1 hb).1; simp at this; omega
      rw [this] at hb
      simp at hb
      subst hb
      obtain rfl : i = n := by omega
      exact ha
/-- Nothing in it is greater than the reach. -/
def Small {H : Type} (t : TypeId) (d : DataW H) : Prop := ∀ n ∈ d.weights Tryd.prog t, n ≤ reachBytes
section
variable {H : Type} {enc : TypeId × Value → H} {W : World} {base : Nat}

/-- The cells at an address. -/
theorem cells_at {a : Addr} {k : Nat} {cs : List Value} (hk : 0 < k) (h : W.cells? base a k = some cs) : ∃ b off, a = ⟨b, off, none⟩ ∧ W.rangeAt b off cs := by
  obtain ⟨-, hl, hc⟩ := World.cells?_some h
  have h0 := hc 0 hk
  have h0' : ∃ v, cs[0]? = some v := by
    cases cs with
    | nil => simp at hl; omega
    | cons x r => exact ⟨x, rfl⟩
  obtain ⟨v0, hv0⟩ := h0'
  rw [hv0] at h0
  obtain ⟨b, off, spot⟩ := a
  have hspot : spot = none := by simpa [Addr.add] using World.cell?_spot h0
  subst hspot
  refine ⟨b, off, rfl, fun j v hv => ?_⟩
  have hj : j < k := by have := (List.getElem?_eq_some_iff.1 hv).1; omega
  have := hc j hj
  rw [Addr.add_mid] at this
  rw [this]; exact hv
end
theorem weights_all {H : Type} {P : Program} {e : TypeId} {l : List (DataW H)} {d : DataW H} (hd : d ∈ l) : ∀ n ∈ d.weights P e, n ∈ DataW.weightsAll P e l := by
  induction l with
  | nil => simp at hd
  | cons x r ih =>
    intro n hn
    rw [DataW.weightsAll]
    rcases List.mem_cons.1 hd with rfl | h
    · exact List.mem_append_left _ hn
    · exact List.mem_append_right _ (ih h n hn)
end Go.Proofs.YtoopgppahfnncaaDoor
/- Layer ir: what the layers below give. -/
namespace Go.Proofs.YtoopgppahfnncaaDoor
open Go.RowKit
set_option maxRecDepth 100000
set_option linter.unusedVariables false
set_option linter.unusedSimpArgs false

def BoP (b : Bool) (w : World) (e : Ending) (w' : World) : Prop := e = .returned (.bool b) ∧ Below w.heap.size w w'
theorem has_any (sp : Option Addr) (n cap : Nat) (v vs : Int) (w : World) :
    Calls Tryd.prog 73 #[.agg #[.slice sp n cap, .int .i64 vs], .int .i64 v] w (BoP (decide (0 ≤ v ∧ v < vs)) w) := by
  have b0 := ab w (.cells #[.slice sp n cap, .int .i64 vs] 73)
  by_cases h1 : 0 ≤ v
  · by_cases h2 : v < vs
    · rw [decide_eq_true ⟨h1, h2⟩]
      go_enter Tryd.func73, Tryd.ntmps73
      go_wp2_with fail
      go_ret
      exact ⟨rfl, b0⟩
    · rw [decide_eq_false (fun h => h2 h.2)]
      go_enter Tryd.func73, Tryd.ntmps73
      go_wp2_with fail
      go_ret
      exact ⟨rfl, b0⟩
  · rw [decide_eq_false (fun h => h1 h.1)]
    go_enter Tryd.func73, Tryd.ntmps73
    go_wp2_with fail
    go_ret
    exact ⟨rfl, b0⟩
set_option maxHeartbeats 1000000 in
theorem mayE_1 {α : Type} (sp : Option Addr) (n cap : Nat) (vs nn v o : Int) (l : List α) (sl : Option Addr) (m cl : Nat) (w : World) (hm : m = l.length) :
    Calls Tryd.prog 80 #[.agg #[.slice sp n cap, .int .i64 vs], .agg (exC 1 nn v o (.slice sl m cl)).toArray] w (BoP (mayE vs ⟨1, nn, v, o, l⟩) w) := by
  have b0 : Below w.heap.size w ((w.alloc (.cells #[.slice sp n cap, .int .i64 vs] 73)).alloc (.cells (exC 1 nn v o (.slice sl m cl)).toArray 80)) := (ab w _).alloc (by simp) _
  have hh := fun u => has_any sp n cap v vs u
  unfold BoP at hh
  have A := Arr.new (w.alloc (.cells #[.slice sp n cap, .int .i64 vs] 73)) 80 (exC 1 nn v o (.slice sl m cl)).toArray
  simp only [World.size_alloc] at A
  obtain ⟨r, hr⟩ : ∃ r, r = mayE vs ⟨1, nn, v, o, l⟩ := ⟨_, rfl⟩
  rw [← hr]
  simp [mayE] at hr
  replace hr := hid hr
  replace hm := hid hm
  unfold exC at *
  skip
  skip
  skip
  all_goals go_enter Tryd.func80, Tryd.ntmps80
  all_goals go_wp2_with (fail)
  all_goals
    go_ret
    refine ⟨congrArg (fun b => Ending.returned (.bool b)) (?_ : _ = r), ?_⟩
    · have h1 := hr.out
      have h2 := hm.out
      skip
      clear b0 hh
      simp_all
      try (first | rfl | omega | (intros; omega))
    · exact (ab w _).alloc (by simp) _
set_option maxHeartbeats 1000000 in
theorem mayE_2 {α : Type} (sp : Option Addr) (n cap : Nat) (vs nn v o : Int) (l : List α) (sl : Option Addr) (m cl : Nat) (w : World) (hm : m = l.length) :
    Calls Tryd.prog 80 #[.agg #[.slice sp n cap, .int .i64 vs], .agg (exC 2 nn v o (.slice sl m cl)).toArray] w (BoP (mayE vs ⟨2, nn, v, o, l⟩) w) := by
  have b0 : Below w.heap.size w ((w.alloc (.cells #[.slice sp n cap, .int .i64 vs] 73)).alloc (.cells (exC 2 nn v o (.slice sl m cl)).toArray 80)) := (ab w _).alloc (by simp) _
  have hh := fun u => has_any sp n cap v vs u
  unfold BoP at hh
  have A := Arr.new (w.alloc (.cells #[.slice sp n cap, .int .i64 vs] 73)) 80 (exC 2 nn v o (.slice sl m cl)).toArray
  simp only [World.size_alloc] at A
  obtain ⟨r, hr⟩ : ∃ r, r = mayE vs ⟨2, nn, v, o, l⟩ := ⟨_, rfl⟩
  rw [← hr]
  simp [mayE] at hr
  replace hr := hid hr
  replace hm := hid hm
  unfold exC at *
  by_cases hv : 0 ≤ v ∧ v < vs
  rw [decide_eq_true hv] at hh; rotate_left; rw [decide_eq_false hv] at hh
  all_goals replace hv := hid hv
  all_goals go_enter Tryd.func80, Tryd.ntmps80
  all_goals go_wp2_with (go_at_call 73; go_must (refine (hh _).mono ?_; rintro e w1 ⟨rfl, hb1⟩; have B1 := ((ab w _).alloc (by simp) _).trans (hb1.mono (by simp; omega)); have c1 : w1.cell? ⟨w.heap.size + 1, 1, none⟩ = some (.int .u64 nn) := (A.bl hb1).cell 1; have c3 : w1.cell? ⟨w.heap.size + 1, 3, none⟩ = some (.int .u8 o) := (A.bl hb1).cell 3))
  all_goals
    go_ret
    refine ⟨congrArg (fun b => Ending.returned (.bool b)) (?_ : _ = r), ?_⟩
    · have h1 := hr.out
      have h2 := hm.out
      have h3 := hv.out
      clear b0 hh
      simp_all
      try (first | rfl | omega | (intros; omega))
    · exact B1
set_option maxHeartbeats 1000000 in
theorem mayE_3 {α : Type} (sp : Option Addr) (n cap : Nat) (vs nn v o : Int) (l : List α) (sl : Option Addr) (m cl : Nat) (w : World) (hm : m = l.length) :
    Calls Tryd.prog 80 #[.agg #[.slice sp n cap, .int .i64 vs], .agg (exC 3 nn v o (.slice sl m cl)).toArray] w (BoP (mayE vs ⟨3, nn, v, o, l⟩) w) := by
  have b0 : Below w.heap.size w ((w.alloc (.cells #[.slice sp n cap, .int .i64 vs] 73)).alloc (.cells (exC 3 nn v o (.slice sl m cl)).toArray 80)) := (ab w _).alloc (by simp) _
  have hh := fun u => has_any sp n cap v vs u
  unfold BoP at hh
  have A := Arr.new (w.alloc (.cells #[.slice sp n cap, .int .i64 vs] 73)) 80 (exC 3 nn v o (.slice sl m cl)).toArray
  simp only [World.size_alloc] at A
  obtain ⟨r, hr⟩ : ∃ r, r = mayE vs ⟨3, nn, v, o, l⟩ := ⟨_, rfl⟩
  rw [← hr]
  simp [mayE] at hr
  replace hr := hid hr
  replace hm := hid hm
  unfold exC at *
  skip
  skip
  skip
  all_goals go_enter Tryd.func80, Tryd.ntmps80
  all_goals go_wp2_with (fail)
  all_goals
    go_ret
    refine ⟨congrArg (fun b => Ending.returned (.bool b)) (?_ : _ = r), ?_⟩
    · have h1 := hr.out
      have h2 := hm.out
      skip
      clear b0 hh
      simp_all
      try (first | rfl | omega | (intros; omega))
    · exact (ab w _).alloc (by simp) _
set_option maxHeartbeats 1000000 in
theorem mayE_4 {α : Type} (sp : Option Addr) (n cap : Nat) (vs nn v o : Int) (l : List α) (sl : Option Addr) (m cl : Nat) (w : World) (hm : m = l.length) :
    Calls Tryd.prog 80 #[.agg #[.slice sp n cap, .int .i64 vs], .agg (exC 4 nn v o (.slice sl m cl)).toArray] w (BoP (mayE vs ⟨4, nn, v, o, l⟩) w) := by
  have b0 : Below w.heap.size w ((w.alloc (.cells #[.slice sp n cap, .int .i64 vs] 73)).alloc (.cells (exC 4 nn v o (.slice sl m cl)).toArray 80)) := (ab w _).alloc (by simp) _
  have hh := fun u => has_any sp n cap v vs u
  unfold BoP at hh
  have A := Arr.new (w.alloc (.cells #[.slice sp n cap, .int .i64 vs] 73)) 80 (exC 4 nn v o (.slice sl m cl)).toArray
  simp only [World.size_alloc] at A
  obtain ⟨r, hr⟩ : ∃ r, r = mayE vs ⟨4, nn, v, o, l⟩ := ⟨_, rfl⟩
  rw [← hr]
  simp [mayE] at hr
  replace hr := hid hr
  replace hm := hid hm
  unfold exC at *
  skip
  skip
  skip
  all_goals go_enter Tryd.func80, Tryd.ntmps80
  all_goals go_wp2_with (fail)
  all_goals
    go_ret
    refine ⟨congrArg (fun b => Ending.returned (.bool b)) (?_ : _ = r), ?_⟩
    · have h1 := hr.out
      have h2 := hm.out
      skip
      clear b0 hh
      simp_all
      try (first | rfl | omega | (intros; omega))
    · exact (ab w _).alloc (by simp) _
theorem mayE_o {α : Type} (sp : Option Addr) (n cap : Nat) (vs k nn v o : Int) (l : List α) (sl : Option Addr) (m cl : Nat) (w : World) (h1 : (k == 1) = false) (h2 : (k == 2) = false) (h3 : (k == 3) = false) (h4 : (k == 4) = false) :
    Calls Tryd.prog 80 #[.agg #[.slice sp n cap, .int .i64 vs], .agg (exC k nn v o (.slice sl m cl)).toArray] w (BoP false w) := by
  have b0 : Below w.heap.size w ((w.alloc (.cells #[.slice sp n cap, .int .i64 vs] 73)).alloc (.cells (exC k nn v o (.slice sl m cl)).toArray 80)) := (ab w _).alloc (by simp) _
  unfold exC at *
  go_enter Tryd.func80, Tryd.ntmps80
  go_wp2_with fail
  go_ret
  exact ⟨rfl, b0⟩
theorem mayE_any {α : Type} (sp : Option Addr) (n cap : Nat) (vs : Int) (t : ExN α) (sl : Option Addr) (m cl : Nat) (w : World) (hm : m = t.l.length) :
    Calls Tryd.prog 80 #[.agg #[.slice sp n cap, .int .i64 vs], .agg (exC t.k t.n t.v t.o (.slice sl m cl)).toArray] w (BoP (mayE vs t) w) := by
  obtain ⟨k, nn, v, o, l⟩ := t
  by_cases h1 : k = 1
  · subst h1; exact mayE_1 sp n cap vs nn v o l sl m cl w hm
  by_cases h2 : k = 2
  · subst h2; exact mayE_2 sp n cap vs nn v o l sl m cl w hm
  by_cases h3 : k = 3
  · subst h3; exact mayE_3 sp n cap vs nn v o l sl m cl w hm
  by_cases h4 : k = 4
  · subst h4; exact mayE_4 sp n cap vs nn v o l sl m cl w hm
  have e : mayE vs ⟨k, nn, v, o, l⟩ = false := by simp [mayE, h1, h2, h3, h4]
  rw [e]
  exact mayE_o sp n cap vs k nn v o l sl m cl w (by simpa using h1) (by simpa using h2) (by simpa using h3) (by simpa using h4)
end Go.Proofs.YtoopgppahfnncaaDoor
