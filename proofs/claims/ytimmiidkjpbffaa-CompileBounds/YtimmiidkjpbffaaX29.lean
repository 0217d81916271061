/- Ij, Ma, QVg, QVi, Ju, QVx, QVm, RVa, RVd. -/
import Derived.Test.YtimmiidkjpbffaaX01
import Derived.Test.YtimmiidkjpbffaaX02
import Derived.BigQuiet
import Derived.BigRegion
import Derived.ChangeKeysEq
import Derived.Deep.DeepCutAuto
import Derived.Deep.DrawnRows
import Derived.Deep.MidRow
import Derived.Deep.QuietTactic
import Derived.Deep.RegionHeld3
import Derived.Deep.RegionLaw
import Derived.Deep.RegionWith
import Derived.Deep.WholeRow
import Derived.DeepKeys3
import Derived.Great.BuildSlice
import Derived.Handy
import Derived.Laws.AppendOwn
import Derived.Laws.AppendOwnNone
import Derived.Laws.BitsLemmas
import Derived.Laws.BytesArg
import Derived.Laws.CopyOwn
import Derived.Laws.MakeOwn
import Derived.Laws.ResultCell
import Derived.Laws.Tables
import Derived.Lib.SlBytesConst
import Derived.LoopIn
import Derived.LoopNIn
import Derived.LoopTactic
import Derived.Maps.AppendAt
import Derived.OwnWalk
import Derived.OwnWalkIn
import Derived.RangeFuncBound
import Derived.RangeFuncCalls
import Derived.RangeFuncLeaves
import Derived.RangeFuncNested
import Derived.RangeFuncRecord
import Derived.Shelf.Abstract
import Derived.Shelf.RegionOpen
import Derived.SizedLaws
import Derived.TacticsInMore
import Derived.WalkKit
import Derived.WalkLawsBesides
import Derived.WalkSpells
import Derived.Test.YtimmiidkjpbffaaX21
import Derived.ChangeOld
import Derived.Deep.OwnRows
import Derived.Great.FillDense
import Derived.Laws.OwnMore
import Derived.OpenShut
import Derived.ProofKit
import Derived.Recover
import Derived.ShutString
import Derived.Test.YtimmiidkjpbffaaX27
import Derived.Test.YtimmiidkjpbffaaX28
import Derived.Deep.RegionHeld
import Derived.KernelRfl
import Derived.Laws.CopyRow
import Derived.Laws.DeepBits32
import Derived.Laws.Rows
import Derived.Lib.AppendZeros
import Derived.WideShapes
import Derived.Test.YtimmiidkjpbffaaX03
import Derived.Test.YtimmiidkjpbffaaX08
import Derived.Test.YtimmiidkjpbffaaX04
/- Layer compile: what the layers below give. -/
namespace Go.Proofs.Ytimmiidkjpbffaa
open Go.RowKit
set_option maxRecDepth 100000
set_option linter.unusedVariables false
set_option linter.unusedSimpArgs false

theorem info30 : (Try.prog.info? 25).map (fun i => (i.zero, i.size, i.bytes)) = some (some (.int .u64 0), 1, 8) := by kernel_rfl
end Go.Proofs.Ytimmiidkjpbffaa
/- Layer compile: what the layers below give. -/
namespace Go.Proofs.Ytimmiidkjpbffaa
open Go.RowKit
set_option maxRecDepth 100000
set_option linter.unusedVariables false
set_option linter.unusedSimpArgs false

/-- A sum, as bytes. -/
def shl (L : List Int) : List Int := (List.range 32).map (shaB (bat L) L.length)
theorem shl_len (L : List Int) : (shl L).length = 32 := by simp [shl]
theorem sha_h8 (L : List Int) : sha L = h8 (shl L) := by
  simp only [sha, u8s, arr, h8, by8, shl, List.map_map]
  congr 1
end Go.Proofs.Ytimmiidkjpbffaa
/- Layer compile: what the layers below give. -/
namespace Go.Proofs.Ytimmiidkjpbffaa
open Go.RowKit
set_option maxRecDepth 100000
set_option linter.unusedVariables false
set_option linter.unusedSimpArgs false

/-- The first entry that says to be a sum's. -/
structure Fst (es : List En) (X : List Int) (i : Nat) (e : En) : Prop where
  here : es[i]? = some e
  sm : e.sm = X
  first : ∀ (j : Nat) (f : En), j < i → es[j]? = some f → f.sm ≠ X
def pre (es : List En) (X : List Int) : Option En := match es.find? (fun e => decide (e.sm = X)) with
  | some e => if shl e.bs = X then some e else none
  | none => none
theorem Fst.find {es : List En} {X : List Int} {i : Nat} {e : En} (h : Fst es X i e) : es.find? (fun e => decide (e.sm = X)) = some e := by
  rw [List.find?_eq_some_iff_getElem]
  obtain ⟨hi, he⟩ := List.getElem?_eq_some_iff.1 h.here
  refine ⟨by simpa using h.sm, i, hi, he, fun j hj => ?_⟩
  have := h.first j _ hj (List.getElem?_eq_getElem (by omega))
  simpa using this
theorem Fst.pre {es : List En} {X : List Int} {i : Nat} {e : En} (h : Fst es X i e) : pre es X = if shl e.bs = X then some e else none := by
  unfold Ytimmiidkjpbffaa.pre; rw [h.find]
theorem pre_none {es : List En} {X : List Int} (h : ∀ (j : Nat) (f : En), es[j]? = some f → f.sm ≠ X) : pre es X = none := by
  have : es.find? (fun e => decide (e.sm = X)) = none := by
    rw [List.find?_eq_none]
    intro f hf
    obtain ⟨j, hj⟩ := List.getElem?_of_mem hf
    simpa using h j f hj
  unfold pre; rw [this]
end Go.Proofs.Ytimmiidkjpbffaa
/- Layer compile: what the layers below give. -/
namespace Go.Proofs.Ytimmiidkjpbffaa
open Go.RowKit
set_option maxRecDepth 100000
set_option linter.unusedVariables false
set_option linter.unusedSimpArgs false

/-- What was found stands where it was found. -/
def FIV (es : List En) (f : List Int → Option Int) : Prop := ∀ X i, X.length = 32 → f X = some i → ∃ (j : Nat) (e : En), i = j ∧ Fst es X j e ∧ shl e.bs = X
theorem FIV.nil (es : List En) : FIV es (fun _ => none) := fun X i _ h => by cases h
end Go.Proofs.Ytimmiidkjpbffaa
/- Layer compile: what the layers below give. -/
namespace Go.Proofs.Ytimmiidkjpbffaa
open Go.RowKit
set_option maxRecDepth 100000
set_option linter.unusedVariables false
set_option linter.unusedSimpArgs false

theorem by64_get {L : List Int} {j : Nat} (h : j < L.length) : (by64 L)[j]? = some (.int .u64 (L.getD j 0)) := by simp [by64, List.getElem?_eq_getElem h, List.getD]
theorem by64_one (L : List Int) : ∀ v ∈ by64 L, v.oneCell' = true := by
  intro v hv
  simp only [by64, List.mem_map] at hv
  obtain ⟨x, -, rfl⟩ := hv
  rfl
theorem append_words {N : Nat} {ops : Array Oper} {rest : List Oper} {o : Oper} {a : Act} {w : World} {Q : Exit → Act → World → Prop} (hgd : Region.wanted o (yielded ops a.tmps) = true) (s x : Operand)
    (ho : o.op = .call { callee := .builtin .append, args := #[s, x], argTypes := #[22, 22] })
    (base : Nat) (v : Value) (hs : a.eval s = v) (hown : w.ownsRow base 25 1 v 0 (by64 []))
    (sp : Option Addr) (n c : Nat) (L : List Int) (hx : a.eval x = .slice sp n c) (hS : MS N w sp n c L) (hbase : base ≤ w.heap.size)
    (h : ∀ v' w', w'.ownsRow base 25 1 v' n (by64 L) → w.grownBy w' v.ownBlock → wpList Try.prog ops Q rest (a.put o.dst v') w') : wpList Try.prog ops Q (o :: rest) a w := by
  obtain ⟨i0, hi, hz0, hz1, hz2⟩ := info_parts info30
  refine wpList_want hgd fun K hK => ?_
  have hl := hS.len.out
  cases sp with
  | none =>
    obtain ⟨rfl, rfl⟩ := hS.nil rfl
    obtain rfl : L = [] := List.eq_nil_of_length_eq_zero hl.symm
    have hrun := run_append_owned_none (P := Try.prog) (w := w) base 22 o.type 25 i0 1 Try.underlying22 hi v 0 _ hown
    unfold Oper.wp
    simp [execOp, ho, resolve, invoke, builtin, hs, hx, hrun, Result.andThen]
    exact hK _ _ (h v w hown ⟨rfl, rfl, rfl, Nat.le_refl _, fun _ _ _ => rfl⟩)
  | some ad =>
    have hsm := hS.small
    refine wp_append_own w s x 22 ho base 25 i0 (.int .u64 0) 1 8 Try.underlying22 hi hz0 hz1 hz2 rfl (by omega) v 0 _ hs hown ad n c (by64 L) hx (by rw [by64_len]; omega) ?_ (by64_one L) (by unfold maxLen; omega) (by omega) hbase ?_
    · intro j u hj
      have hjl : j < L.length := by have := (List.getElem?_eq_some_iff.1 hj).1; rwa [by64_len] at this
      obtain ⟨b, off, e, -, hB⟩ := hS.at0 (by omega)
      obtain rfl := Option.some.inj e
      rw [by64_get hjl] at hj
      rw [Addr.add_mid, hB j (by omega)]; exact hj
    · intro v' w' h1 h2 _
      exact hK _ _ (h v' w' (by simpa [by64] using h1) h2)
end Go.Proofs.Ytimmiidkjpbffaa
/- Layer compile: what the layers below give. -/
namespace Go.Proofs.Ytimmiidkjpbffaa
open Go.RowKit
set_option maxRecDepth 100000
set_option linter.unusedVariables false
set_option linter.unusedSimpArgs false

/-- An instruction, as numbers. -/
structure Cd where
  o : Int
  a : Int
  b : Int
  c : Int
  i : Int
def Cd.arr (c : Cd) : Array Value := cdA c.o c.a c.b c.c c.i
structure Cd.ok (x : Cd) : Prop where
  o : 0 ≤ x.o ∧ x.o < 256
  a : 0 ≤ x.a ∧ x.a < 256
  b : 0 ≤ x.b ∧ x.b < 256
  c : 0 ≤ x.c ∧ x.c < 256
  i : 0 ≤ x.i ∧ x.i < 4294967296
/-- Instructions in memory. -/
structure CS (N : Nat) (w : World) (sp : Option Addr) (n cap : Nat) (cs : List Cd) : Prop where
  len : Hid (n = cs.length)
  nil : sp = none → n = 0 ∧ cap = 0
  le : n ≤ cap
  big : cap ≤ 9223372036854775807
  small : n ≤ 140737488355328
  at0 : 0 < n → ∃ g off, sp = some ⟨g, off, none⟩ ∧ g < N ∧ ∀ i e, cs[i]? = some e → w.rangeAt g (off + i * 5) e.arr.toList
  ok : ∀ e ∈ cs, e.ok
theorem CS.below {N : Nat} {w w' : World} {sp : Option Addr} {n cap : Nat} {cs : List Cd} (h : CS N w sp n cap cs) (hb : Below N w w') : CS N w' sp n cap cs :=
  ⟨h.len, h.nil, h.le, h.big, h.small, fun h0 => let ⟨b, off, e, hbN, hB⟩ := h.at0 h0; ⟨b, off, e, hbN, fun i X hX => range_below (hB i X hX) hb hbN⟩, h.ok⟩
theorem CS.here {N : Nat} {w : World} {sp : Option Addr} {n cap : Nat} {cs : List Cd} (h : CS N w sp n cap cs) : CS w.heap.size w sp n cap cs :=
  ⟨h.len, h.nil, h.le, h.big, h.small, fun h0 => by
    obtain ⟨b, off, e, hbN, hB⟩ := h.at0 h0
    refine ⟨b, off, e, ?_, hB⟩
    have hl : 0 < cs.length := by rw [← h.len.out]; exact h0
    exact block_lt_of_cell (hB 0 cs[0] (List.getElem?_eq_getElem hl) 0 _ rfl), h.ok⟩
end Go.Proofs.Ytimmiidkjpbffaa
/- Layer compile: what the layers below give. -/
namespace Go.Proofs.Ytimmiidkjpbffaa
open Go.RowKit
set_option maxRecDepth 100000
set_option linter.unusedVariables false
set_option linter.unusedSimpArgs false

theorem Chg.setRow {S : Nat → Prop} {a b : World} (h : Chg S a b) {g : Nat} (D : Array Value) (hg : g < a.heap.size → S g) : Chg S a (b.setRow g D) :=
  ⟨h.os, h.tape, h.output, by simpa using h.size, fun i hi hs => (setRow_other b g i D (fun e => hs (by subst e; exact hg hi))).trans (h.block i hi hs)⟩
end Go.Proofs.Ytimmiidkjpbffaa
/- Layer compile: what the layers below give. -/
namespace Go.Proofs.Ytimmiidkjpbffaa
open Go.RowKit
set_option maxRecDepth 100000
set_option linter.unusedVariables false
set_option linter.unusedSimpArgs false

theorem wrap_u64 {x : Int} (h : U64 x) : IntKind.u64.wrap x = x := wrap64_of h.1 h.2
theorem bits_u64 (op : BinOp) (x y : Int) : U64 (bits op .u64 x y) := by
  unfold bits
  exact U64.wrap _
theorem sl64_u (x y : Int) : U64 (sl64 x y) := U64.wrap _
theorem ediv_u {x y : Int} (hx : U64 x) (hy : 0 ≤ y) : U64 (x / y) := by
  have h1 := hx.1
  have h2 := hx.2
  refine ⟨Int.ediv_nonneg h1 hy, ?_⟩
  have := Int.ediv_le_self y h1
  omega
theorem sr64_u {x : Int} (y : Int) (hx : U64 x) : U64 (sr64 x y) := ediv_u hx (Int.le_of_lt (Int.pow_pos (by omega)))
theorem bit_u (b : Prop) [Decidable b] : U64 (if b then 1 else 0) := by
  split <;> (unfold U64; omega)
theorem rk_u {op x y z : Int} (ho : 5 ≤ op ∧ op ≤ 16) (hx : U64 x) (hy : U64 y) (h : rk op x y = some z) : U64 z := by
  have hy1 := hy.1
  have hy2 := hy.2
  rcases ops12 ho with rfl | rfl | rfl | rfl | rfl | rfl | rfl | rfl | rfl | rfl | rfl | rfl
  · rw [← show IntKind.u64.wrap (x + y) = z by simpa [rk] using h]; exact U64.wrap _
  · rw [← show IntKind.u64.wrap (x - y) = z by simpa [rk] using h]; exact U64.wrap _
  · rw [← show IntKind.u64.wrap (x * y) = z by simpa [rk] using h]; exact U64.wrap _
  · have hz' : ¬ y = 0 ∧ x / y = z := by simpa [rk] using h
    rw [← hz'.2]; exact ediv_u hx hy1
  · have hz' : ¬ y = 0 ∧ x % y = z := by simpa [rk] using h
    rw [← hz'.2]
    have h2 := Int.emod_nonneg x hz'.1
    have h3 := Int.emod_lt_of_pos x (show 0 < y by have := hz'.1; omega)
    unfold U64; omega
  · rw [← show bits .and .u64 x y = z by simpa [rk] using h]; exact bits_u64 _ _ _
  · rw [← show bits .or .u64 x y = z by simpa [rk] using h]; exact bits_u64 _ _ _
  · rw [← show bits .xor .u64 x y = z by simpa [rk] using h]; exact bits_u64 _ _ _
  · rw [← show sl64 x y = z by simpa [rk] using h]; exact sl64_u _ _
  · rw [← show sr64 x y = z by simpa [rk] using h]; exact sr64_u _ hx
  · rw [← show (if x < y then 1 else 0) = z by simpa [rk] using h]; exact bit_u _
  · rw [← show (if x = y then 1 else 0) = z by simpa [rk] using h]; exact bit_u _
end Go.Proofs.Ytimmiidkjpbffaa
/- Layer compile: what the layers below give. -/
namespace Go.Proofs.Ytimmiidkjpbffaa
open Go.RowKit
set_option maxRecDepth 100000
set_option linter.unusedVariables false
set_option linter.unusedSimpArgs false

/-- The word of an instruction. -/
def wdI (o a b c i : Int) : Int := o * 72057594037927936 + a % 16 * 4503599627370496 + b % 16 * 281474976710656 + c % 16 * 17592186044416 + i
theorem wdI_u {o a b c i : Int} (ho : 0 ≤ o ∧ o < 256) (hi : 0 ≤ i ∧ i < 4294967296) : U64 (wdI o a b c i) := by
  unfold U64 wdI; omega
theorem word_dec {w : Int} (hw : U64 w) : wdI (dOp w) (dA w) (dB w) (dC w) (dI w) = w ↔ w / 4294967296 % 4096 = 0 := by
  have h1 := hw.1
  have h2 := hw.2
  unfold wdI dOp dA dB dC dI
  omega
theorem toNat64 {x : Int} (h : U64 x) : (BitVec.ofInt 64 x).toNat = x.toNat := by
  have h1 := h.1
  have h2 := h.2
  rw [BitVec.toNat_ofInt]
  omega
theorem and15_64 {x : Int} (h : U64 x) : bits .and .u64 x 15 = x % 16 := by
  have h1 := h.1
  have e : (BitVec.ofInt 64 15).toNat = 2 ^ 4 - 1 := by decide
  show IntKind.u64.wrap ((BitVec.ofInt 64 x &&& BitVec.ofInt 64 15).toNat : Int) = _
  rw [BitVec.toNat_and, toNat64 h, e, Nat.and_two_pow_sub_one_eq_mod, wrap_mod]
  have := h.2
  omega
theorem and15_8 {x : Int} (h : 0 ≤ x ∧ x < 256) : bits .and .u8 x 15 = x % 16 := by
  have e : (BitVec.ofInt 8 15).toNat = 2 ^ 4 - 1 := by decide
  have e2 : (BitVec.ofInt 8 x).toNat = x.toNat := by rw [BitVec.toNat_ofInt]; omega
  show IntKind.u8.wrap ((BitVec.ofInt 8 x &&& BitVec.ofInt 8 15).toNat : Int) = _
  rw [BitVec.toNat_and, e2, e, Nat.and_two_pow_sub_one_eq_mod]
  simp only [IntKind.wrap, IntKind.bits, IntKind.signed]
  simp
  omega
theorem or_add (k q y : Nat) (hy : y < 2 ^ k) (h : 2 ^ k * q + y < 18446744073709551616) : bits .or .u64 ((2 ^ k * q : Nat) : Int) (y : Int) = ((2 ^ k * q + y : Nat) : Int) := by
  have e1 : (BitVec.ofInt 64 ((2 ^ k * q : Nat) : Int)).toNat = 2 ^ k * q := by rw [toNat64 ⟨by omega, by omega⟩]; omega
  have e2 : (BitVec.ofInt 64 (y : Int)).toNat = y := by rw [toNat64 ⟨by omega, by omega⟩]; omega
  show IntKind.u64.wrap ((BitVec.ofInt 64 ((2 ^ k * q : Nat) : Int) ||| BitVec.ofInt 64 (y : Int)).toNat : Int) = _
  rw [BitVec.toNat_or, e1, e2, ← Nat.two_pow_add_eq_or_of_lt hy, wrap_mod]
  omega
theorem or_addI (k : Nat) {x y : Int} (hx : U64 x) (hd : x % (2 ^ k : Nat) = 0) (hy : 0 ≤ y ∧ y < (2 ^ k : Nat)) (h : x + y < 18446744073709551616) : bits .or .u64 x y = x + y := by
  have h1 := hx.1
  obtain ⟨q, hq⟩ : ∃ q, x.toNat = 2 ^ k * q := by
    refine ⟨x.toNat / 2 ^ k, ?_⟩
    have : x.toNat % 2 ^ k = 0 := by
      have e : x = (x.toNat : Int) := by omega
      rw [e] at hd
      exact_mod_cast hd
    have h3 := Nat.div_add_mod x.toNat (2 ^ k)
    omega
  have hq' : x = ((2 ^ k * q : Nat) : Int) := by omega
  have := or_add k q y.toNat (by have := hy.1; have := hy.2; omega) (by have := hy.1; omega)
  rw [hq', show y = (y.toNat : Int) by have := hy.1; omega, this]
  omega
/-- Word, as the model reckons it. -/
def wdV (o a b c i : Int) : Int := bits .or .u64 (bits .or .u64 (bits .or .u64 (bits .or .u64 (IntKind.u64.wrap (IntKind.u64.wrap o * 72057594037927936)) (IntKind.u64.wrap (IntKind.u64.wrap (bits .and .u8 a 15) * 4503599627370496))) (IntKind.u64.wrap (IntKind.u64.wrap (bits .and .u8 b 15) * 281474976710656))) (IntKind.u64.wrap (IntKind.u64.wrap (bits .and .u8 c 15) * 17592186044416))) (IntKind.u64.wrap i)
theorem wdV_eq {o a b c i : Int} (ho : 0 ≤ o ∧ o < 256) (ha : 0 ≤ a ∧ a < 256) (hb : 0 ≤ b ∧ b < 256) (hc : 0 ≤ c ∧ c < 256) (hi : 0 ≤ i ∧ i < 4294967296) : wdV o a b c i = wdI o a b c i := by
  unfold wdV wdI
  rw [and15_8 ha, and15_8 hb, and15_8 hc]
  have wr : ∀ x : Int, 0 ≤ x → x < 18446744073709551616 → IntKind.u64.wrap x = x := fun x h1 h2 => wrap_u64 ⟨h1, h2⟩
  rw [wr o (by omega) (by omega), wr (a % 16) (by omega) (by omega), wr (b % 16) (by omega) (by omega), wr (c % 16) (by omega) (by omega), wr i (by omega) (by omega),
    wr (o * 72057594037927936) (by omega) (by omega), wr (a % 16 * 4503599627370496) (by omega) (by omega), wr (b % 16 * 281474976710656) (by omega) (by omega), wr (c % 16 * 17592186044416) (by omega) (by omega)]
  have p56 : ((2 ^ 56 : Nat) : Int) = 72057594037927936 := by decide
  have p52 : ((2 ^ 52 : Nat) : Int) = 4503599627370496 := by decide
  have p48 : ((2 ^ 48 : Nat) : Int) = 281474976710656 := by decide
  have p44 : ((2 ^ 44 : Nat) : Int) = 17592186044416 := by decide
  rw [or_addI 56 (x := o * 72057594037927936) (y := a % 16 * 4503599627370496) ⟨by omega, by omega⟩ (by rw [p56]; omega) (by rw [p56]; omega) (by omega),
    or_addI 52 (x := o * 72057594037927936 + a % 16 * 4503599627370496) (y := b % 16 * 281474976710656) ⟨by omega, by omega⟩ (by rw [p52]; omega) (by rw [p52]; omega) (by omega),
    or_addI 48 (x := o * 72057594037927936 + a % 16 * 4503599627370496 + b % 16 * 281474976710656) (y := c % 16 * 17592186044416) ⟨by omega, by omega⟩ (by rw [p48]; omega) (by rw [p48]; omega) (by omega),
    or_addI 44 (x := o * 72057594037927936 + a % 16 * 4503599627370496 + b % 16 * 281474976710656 + c % 16 * 17592186044416) (y := i) ⟨by omega, by omega⟩ (by rw [p44]; omega) (by rw [p44]; omega) (by omega)]
set_option maxHeartbeats 1000000 in
theorem word_any {o a b c i : Int} (w : World) (ho : 0 ≤ o ∧ o < 256) (ha : 0 ≤ a ∧ a < 256) (hb : 0 ≤ b ∧ b < 256) (hc : 0 ≤ c ∧ c < 256) (hi : 0 ≤ i ∧ i < 4294967296) :
    Calls Try.prog 44 #[.agg (cdA o a b c i)] w fun e w' => e = .returned (.int .u64 (wdI o a b c i)) ∧ Below w.heap.size w w' := by
  have E := Hid.mk' (wdV_eq ho ha hb hc hi)
  clear ho ha hb hc hi
  unfold cdA
  go_enter Try.func44, Try.ntmps44
  go_wp2
  go_ret
  exact ⟨congrArg (fun z => Ending.returned (Value.int IntKind.u64 z)) E.out, (Below.refl _ _).alloc (Nat.le_refl _) _⟩
set_option maxHeartbeats 1000000 in
theorem refWord_any {o a b c i : Int} (w : World) (ho : 0 ≤ o ∧ o < 256) (ha : 0 ≤ a ∧ a < 256) (hb : 0 ≤ b ∧ b < 256) (hc : 0 ≤ c ∧ c < 256) (hi : 0 ≤ i ∧ i < 4294967296) :
    Calls Try.prog 92 #[.agg (cdA o a b c i)] w fun e w' => e = .returned (.int .u64 (wdI o a b c i)) ∧ Below w.heap.size w w' := by
  have E := Hid.mk' (wdV_eq ho ha hb hc hi)
  clear ho ha hb hc hi
  unfold cdA
  go_enter Try.func92, Try.ntmps92
  go_wp2
  go_ret
  exact ⟨congrArg (fun z => Ending.returned (Value.int IntKind.u64 z)) E.out, (Below.refl _ _).alloc (Nat.le_refl _) _⟩
end Go.Proofs.Ytimmiidkjpbffaa
