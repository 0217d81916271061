/- ZTo, Va, Vd, Ve, Vf, Mc, Vh. -/
import Derived.Test.YtnjbmffgbgbjmaaX01
import Derived.Test.YtnjbmffgbgbjmaaX02
import Derived.Test.YtnjbmffgbgbjmaaX03
import Derived.Test.YtnjbmffgbgbjmaaX06
import Derived.BigQuiet
import Derived.BigRegion
import Derived.ChangeKeysEq
import Derived.Deep.DeepCutAuto
import Derived.Deep.DrawnRows
import Derived.Deep.QuietTactic
import Derived.Deep.RegionHeld3
import Derived.Deep.RegionLaw
import Derived.Deep.RegionWith
import Derived.Deep.WholeRow
import Derived.Laws.AppendOwnNone
import Derived.Laws.BytesArg
import Derived.Laws.CopyOwn
import Derived.Laws.ResultCell
import Derived.Lib.SlBytesConst
import Derived.WalkKit
import Derived.WalkLawsBesides
import Derived.WalkSpells
import Derived.Laws.BitsLemmas
import Derived.Deep.MidRow
/- Layer vm: what the layers below give. -/
namespace Go.Proofs.Ytnjbmffgbgbjmaa
open Go.RowKit
set_option maxRecDepth 100000
set_option linter.unusedVariables false
set_option linter.unusedSimpArgs false

/-- Word j of a sum, of its first m bytes. -/
def wacc (H : Nat → Int) (j : Nat) : Nat → Int
  | 0 => 0
  | m + 1 => wacc H j m * 256 + H (8 * j + m)
/-- .. behind k bytes in all. -/
def wpart (H : Nat → Int) (k j : Nat) : Int := wacc H j (min (k - 8 * j) 8)
def u64s (n : Nat) (f : Nat → Int) : Array Value := arr n fun t => .int .u64 (f t)
theorem u64s_size (n : Nat) (f : Nat → Int) : (u64s n f).size = n := arr_size _ _
theorem u64s_get {n : Nat} {f : Nat → Int} {t : Nat} (h : t < n) : (u64s n f)[t]? = some (.int .u64 (f t)) := arr_get h
theorem u64s_one (n : Nat) (f : Nat → Int) : (u64s n f).all (·.oneCell') = true := one_ints (u64s_size n f) (fun _ h => u64s_get h)
theorem size30 : (Try.prog.info? 109).map (·.size) = some 4 := by kernel_rfl
theorem s30u (f : Nat → Int) : (Try.prog.info? 109).map (·.size) = some (u64s 4 f).size := by rw [u64s_size]; exact size30
def wordsOf (H : Nat → Int) : Array Value := u64s 4 fun j => wacc H j 8
theorem wacc_range {H : Nat → Int} (hH : ∀ t, t < 32 → 0 ≤ H t ∧ H t ≤ 255) {j : Nat} (hj : j < 4) : ∀ m, m ≤ 8 → 0 ≤ wacc H j m ∧ wacc H j m < 256 ^ m
  | 0, _ => by simp [wacc]
  | m + 1, h => by
    have ih := wacc_range hH hj m (by omega)
    have hb := hH (8 * j + m) (by omega)
    have e : (256 : Int) ^ (m + 1) = 256 ^ m * 256 := by rw [Int.pow_succ]
    simp only [wacc, e]; omega
theorem or8 (x b : Int) (hx : 0 ≤ x) (hx2 : x < 72057594037927936) (hb : 0 ≤ b) (hb2 : b ≤ 255) : bits .or .u64 (x * 256) b = x * 256 + b := by
  obtain ⟨k, rfl⟩ : ∃ k : Nat, x = k := ⟨x.toNat, by omega⟩
  obtain ⟨j, rfl⟩ : ∃ j : Nat, b = j := ⟨b.toNat, by omega⟩
  have h1 : (BitVec.ofInt 64 ((k : Int) * 256)).toNat = k * 256 := by
    rw [show ((k : Int) * 256) = ((k * 256 : Nat) : Int) by omega, BitVec.ofInt_natCast, BitVec.toNat_ofNat]; omega
  have h2 : (BitVec.ofInt 64 (j : Int)).toNat = j := by
    rw [BitVec.ofInt_natCast, BitVec.toNat_ofNat]; omega
  have h3 : k * 256 ||| j = k * 256 + j := by
    have := Nat.two_pow_add_eq_or_of_lt (i := 8) (b := j) (by omega) k
    rw [Nat.mul_comm] at this; exact this.symm
  show IntKind.u64.wrap ((BitVec.ofInt 64 ((k : Int) * 256) ||| BitVec.ofInt 64 (j : Int)).toNat : Int) = _
  rw [BitVec.toNat_or, h1, h2, h3]
  simp only [IntKind.wrap, IntKind.bits, IntKind.signed]
  simp; omega
theorem wrap64_of {x : Int} (h : 0 ≤ x) (h2 : x < 18446744073709551616) : IntKind.u64.wrap x = x := by
  simp only [IntKind.wrap, IntKind.bits, IntKind.signed]; simp; omega
theorem words_val {H : Nat → Int} (hH : ∀ t, t < 32 → 0 ≤ H t ∧ H t ≤ 255) {k : Nat} (hk : k < 32) :
    bits .or .u64 (IntKind.u64.wrap (wpart H k (k / 8) * 256)) (IntKind.u64.wrap (H k)) = wpart H (k + 1) (k / 8) := by
  have e1 : wpart H k (k / 8) = wacc H (k / 8) (k % 8) := by unfold wpart; congr 1; omega
  have e2 : wpart H (k + 1) (k / 8) = wacc H (k / 8) (k % 8 + 1) := by unfold wpart; congr 1; omega
  have e3 : 8 * (k / 8) + k % 8 = k := by omega
  have hr := wacc_range hH (show k / 8 < 4 by omega) (k % 8) (by omega)
  have hp : (256 : Int) ^ (k % 8) ≤ 72057594037927936 := by
    have : k % 8 < 8 := Nat.mod_lt _ (by omega)
    generalize k % 8 = m at this
    match m, this with
    | 0, _ => decide
    | 1, _ => decide
    | 2, _ => decide
    | 3, _ => decide
    | 4, _ => decide
    | 5, _ => decide
    | 6, _ => decide
    | 7, _ => decide
  have hb := hH k hk
  rw [e1, e2, wacc, e3, wrap64_of (by omega) (by omega), wrap64_of (by omega) (by omega), or8 _ _ (by omega) (by omega) hb.1 hb.2]
theorem words_other {H : Nat → Int} {k j : Nat} (h : j ≠ k / 8) : wpart H (k + 1) j = wpart H k j := by
  unfold wpart; congr 1; omega
theorem words_step {C : Array Value} {H : Nat → Int} {k : Nat} (hH : ∀ t, t < 32 → 0 ≤ H t ∧ H t ≤ 255) (hk : k < 32) (hs : C.size = 4) (h : ∀ j, j < 4 → C[j]? = some (.int .u64 (wpart H k j))) (v : Value) :
    ∀ j, j < 4 → ((C.setIfInBounds (k / 8) v).setIfInBounds (k / 8) (.int .u64 (bits .or .u64 (IntKind.u64.wrap (wpart H k (k / 8) * 256)) (IntKind.u64.wrap (H k)))))[j]? = some (.int .u64 (wpart H (k + 1) j)) := by
  intro j hj
  rw [words_val hH hk, Array.getElem?_setIfInBounds]
  by_cases e : k / 8 = j
  · subst e; simp [hs, hj]
  · rw [if_neg e, Array.getElem?_setIfInBounds, if_neg e, h j hj, words_other (Ne.symm e)]
set_option maxHeartbeats 1000000 in
theorem words_any (C0 : Array Value) (H : Nat → Int) (w : World) (hs : C0.size = 32) (hC0 : ∀ t, t < 32 → C0[t]? = some (.int .u8 (H t))) (hH : ∀ t, t < 32 → 0 ≤ H t ∧ H t ≤ 255) :
    Calls Try.prog 67 #[.agg C0] w fun e w' => e = .returned (.agg (wordsOf H)) ∧ Below w.heap.size w w' := by
  have s24 : (Try.prog.info? 31).map (·.size) = some C0.size := by rw [hs]; exact size24
  have hA0 : ∀ o1 o2, Arr (((w.alloc (.cells C0 31)).alloc o1).alloc o2) w.heap.size 31 C0 := fun o1 o2 => ((Arr.new w 31 C0).alloc o1).alloc o2
  go_enter Try.func67, Try.ntmps67
  go_wp2_with (refine wpList_load_row (by rfl) 31 (.tmp 1) (by rfl) w.heap.size (by rfl) 31 C0 (0, 0) _ (hA0 _ _) Try.underlying31 rfl s24 ?_)
  go_loopw [7] (fun i wr => ∃ (k : Nat) (C Z : Array Value), k ≤ 32 ∧ i = .int .i64 k ∧ Arr wr (w.heap.size + 1) 109 Z ∧ Z.size = 4 ∧ Arr wr (w.heap.size + 1 + 1) 109 C ∧ C.size = 4 ∧ (∀ j, j < 4 → C[j]? = some (.int .u64 (wpart H k j))) ∧ Below w.heap.size w wr)
    (fun i _ => 32 - (intOf i).toNat)
  case atStart => exact ⟨0, _, _, by omega, rfl, by simpa using (Arr.new (w.alloc _) 109 _).alloc _, rfl, by simpa using Arr.new ((w.alloc _).alloc _) 109 _, rfl, fun j hj => by (match j, hj with | 0, _ => rfl | 1, _ => rfl | 2, _ => rfl | 3, _ => rfl), (((Below.refl _ _).alloc (by simp) _).alloc (by simp) _).alloc (by simp; omega) _⟩
  case round =>
    clear hA0
    obtain ⟨k, C, Z, hk, rfl, hZ, hZs, hC, hCs, hw, hbl⟩ := hrel
    have HW := Hid.mk' hw
    clear hw
    by_cases hlt : k < 32
    · have h3 : (k : Int) < 32 := by omega
      have h4 : (0 : Int) ≤ k := by omega
      have hix := index24 C0 H hC0 k hlt
      have c0 : wr.cell? ⟨w.heap.size + 1 + 1, k / 8, none⟩ = some (.int .u64 (wpart H k (k / 8))) := (hC.cell _).trans (HW.out _ (by omega))
      have f0 := hC.frozen (k / 8)
      go_wp2
      go_roundw
      case rel =>
        exact ⟨k + 1, _, Z, by omega, by go_num, (hZ.setOther _ (by simp)).setOther _ (by simp), hZs, (hC.set _ _).set _ _, by simp [hCs], words_step hH hlt hCs HW.out _, (hbl.setCell (by simp; omega) _).setCell (by simp; omega) _⟩
      case measure => simp [intOf]; omega
    · obtain rfl : k = 32 := by omega
      have hCe : C = wordsOf H := arr_eq hCs (fun j hj => by rw [HW.out j hj]; unfold wpart; rw [show min (32 - 8 * j) 8 = 8 by omega])
      subst hCe
      go_wp2_with (first
        | (refine wpList_load_row (by rfl) 109 (.tmp 3) (by rfl) (w.heap.size + 1 + 1) (by rfl) 109 (wordsOf H) (0, 0) _ hC Try.underlying109 rfl (s30u _) ?_)
        | (refine wpList_store_arr (by rfl) 109 (.tmp 2) (.tmp 26) (by rfl) (w.heap.size + 1) (wordsOf H) (by rfl) (by rfl) 109 _ hZ (s30u _) (by rw [hZs]; exact (u64s_size _ _).symm) (u64s_one _ _) ?_))
      exact bodyPost_ret (v := .agg (wordsOf H)) (results_cell_row Try.results67 _ _ (w.heap.size + 1) 109 _ (0, 0) _ rfl (hZ.setRow _) Try.underlying109 rfl (s30u _)) rfl ⟨rfl, below_setRow hbl (by omega) _⟩
/-- Byte t of the sum of four words. -/
def fromB (W : Nat → Int) (t : Nat) : Int := W (t / 8) / 2 ^ (56 - 8 * (t % 8)) % 256
set_option maxHeartbeats 1000000 in
theorem from_any (C0 : Array Value) (W : Nat → Int) (w : World) (hC0 : ∀ t, t < 4 → C0[t]? = some (.int .u64 (W t))) :
    Calls Try.prog 70 #[.agg C0] w fun e w' => e = .returned (.agg (u8s 32 (fromB W))) ∧ Below w.heap.size w w' := by
  go_enter Try.func70, Try.ntmps70
  go_wp2
  go_loopw [5] (fun i wr => ∃ (k : Nat) (C Z : Array Value), k ≤ 32 ∧ i = .int .i64 k ∧ Arr wr w.heap.size 109 C0 ∧ Arr wr (w.heap.size + 1) 31 Z ∧ Z.size = 32 ∧ Arr wr (w.heap.size + 1 + 1) 31 C ∧ C.size = 32 ∧ (∀ t, t < k → C[t]? = some (.int .u8 (fromB W t))) ∧ Below w.heap.size w wr)
    (fun i _ => 32 - (intOf i).toNat)
  case atStart => exact ⟨0, _, _, by omega, rfl, ((Arr.new w 109 C0).alloc _).alloc _, by simpa using (Arr.new (w.alloc _) 31 _).alloc _, rfl, by simpa using Arr.new ((w.alloc _).alloc _) 31 _, rfl, fun j hj => by omega, (((Below.refl _ _).alloc (by simp) _).alloc (by simp) _).alloc (by simp; omega) _⟩
  case round =>
    obtain ⟨k, C, Z, hk, rfl, hX, hZ, hZs, hC, hCs, hw, hbl⟩ := hrel
    have HW := Hid.mk' hw
    clear hw
    by_cases hlt : k < 32
    · have h3 : (k : Int) < 32 := by omega
      have h4 : (0 : Int) ≤ k := by omega
      have c0 : wr.cell? ⟨w.heap.size, k / 8, none⟩ = some (.int .u64 (W (k / 8))) := (hX.cell _).trans (hC0 _ (by omega))
      obtain ⟨v1, c1⟩ := hC.got (j := k) (by omega)
      have f0 := hC.frozen k
      go_wp2
      go_roundw
      case rel =>
        have q := set_step (f := fun t => .int .u8 (fromB W t)) hCs (by omega) HW.out
        exact ⟨k + 1, _, Z, by omega, by go_num, hX.setOther _ (by simp; omega), hZ.setOther _ (by simp), hZs, hC.set _ _, by simp [hCs], q, hbl.setCell (by simp; omega) _⟩
      case measure => simp [intOf]; omega
    · obtain rfl : k = 32 := by omega
      have hCe : C = u8s 32 (fromB W) := arr_eq hCs HW.out
      subst hCe
      go_wp2_with (first
        | (refine wpList_load_row (by rfl) 31 (.tmp 3) (by rfl) (w.heap.size + 1 + 1) (by rfl) 31 (u8s 32 (fromB W)) (0, 0) _ hC Try.underlying31 rfl (s24u8 _) ?_)
        | (refine wpList_store_arr (by rfl) 31 (.tmp 2) (.tmp 21) (by rfl) (w.heap.size + 1) (u8s 32 (fromB W)) (by rfl) (by rfl) 31 _ hZ (s24u8 _) (by rw [hZs]; exact (u8s_size _ _).symm) (u8s_one _ _) ?_))
      exact bodyPost_ret (v := .agg (u8s 32 (fromB W))) (results_cell_row Try.results70 _ _ (w.heap.size + 1) 31 _ (0, 0) _ rfl (hZ.setRow _) Try.underlying31 rfl (s24u8 _)) rfl ⟨rfl, below_setRow hbl (by omega) _⟩
end Go.Proofs.Ytnjbmffgbgbjmaa
/- Layer vm: what instructions reckon. -/
namespace Go.Proofs.Ytnjbmffgbgbjmaa
open Go.RowKit
set_option maxRecDepth 100000
set_option linter.unusedVariables false
set_option linter.unusedSimpArgs false


/-- Is it a number of 64 bits? -/
def U64 (x : Int) : Prop := 0 ≤ x ∧ x < 18446744073709551616
theorem U64.wrap (x : Int) : U64 (IntKind.u64.wrap x) := by
  simp only [IntKind.wrap, IntKind.bits, IntKind.signed]
  unfold U64
  simp
  omega
theorem wrap_u64 {x : Int} (h : U64 x) : IntKind.u64.wrap x = x := wrap64_of h.1 h.2
theorem wrap_mod (x : Int) : IntKind.u64.wrap x = x % 18446744073709551616 := by
  simp only [IntKind.wrap, IntKind.bits, IntKind.signed]
  simp
theorem bits_u64 (op : BinOp) (x y : Int) : U64 (bits op .u64 x y) := by
  unfold bits
  exact U64.wrap _
/-- Moved up, moved down. -/
def sl64 (x y : Int) : Int := IntKind.u64.wrap (x * 2 ^ min y.toNat 64)
def sr64 (x y : Int) : Int := x / 2 ^ min y.toNat 64
theorem sl64_big {x y : Int} (h : 64 ≤ y) : sl64 x y = 0 := by
  unfold sl64
  rw [show min y.toNat 64 = 64 from Nat.min_eq_right (by omega), wrap_mod]
  omega
theorem sr64_big {x y : Int} (hx : U64 x) (h : 64 ≤ y) : sr64 x y = 0 := by
  have h1 := hx.1
  have h2 := hx.2
  unfold sr64
  rw [show min y.toNat 64 = 64 from Nat.min_eq_right (by omega)]
  omega
/-- What an instruction from ADD to EQ makes of two words. -/
def rk (op x y : Int) : Option Int :=
  if op = 5 then some (IntKind.u64.wrap (x + y)) else if op = 6 then some (IntKind.u64.wrap (x - y)) else if op = 7 then some (IntKind.u64.wrap (x * y))
  else if op = 8 then (if y = 0 then none else some (x / y)) else if op = 9 then (if y = 0 then none else some (x % y))
  else if op = 10 then some (bits .and .u64 x y) else if op = 11 then some (bits .or .u64 x y) else if op = 12 then some (bits .xor .u64 x y)
  else if op = 13 then some (sl64 x y) else if op = 14 then some (sr64 x y)
  else if op = 15 then some (if x < y then 1 else 0) else some (if x = y then 1 else 0)
theorem sl64_u (x y : Int) : U64 (sl64 x y) := U64.wrap _
theorem ediv_u {x y : Int} (hx : U64 x) (hy : 0 ≤ y) : U64 (x / y) := by
  have h1 := hx.1
  have h2 := hx.2
  refine ⟨Int.ediv_nonneg h1 hy, ?_⟩
  have := Int.ediv_le_self y h1
  omega
theorem sr64_u {x : Int} (y : Int) (hx : U64 x) : U64 (sr64 x y) := ediv_u hx (Int.le_of_lt (Int.pow_pos (by omega)))
theorem ops12 {op : Int} (h : 5 ≤ op ∧ op ≤ 16) : op = 5 ∨ op = 6 ∨ op = 7 ∨ op = 8 ∨ op = 9 ∨ op = 10 ∨ op = 11 ∨ op = 12 ∨ op = 13 ∨ op = 14 ∨ op = 15 ∨ op = 16 := by omega
theorem bit_u (b : Prop) [Decidable b] : U64 (if b then 1 else 0) := by
  split <;> (unfold U64; omega)
theorem rk_u {op x y z : Int} (ho : 5 ≤ op ∧ op ≤ 16) (hx : U64 x) (hy : U64 y) (h : rk op x y = some z) : U64 z := by
  have hy1 := hy.1
  have hy2 := hy.2
  rcases ops12 ho with rfl | rfl | rfl | rfl | rfl | rfl | rfl | rfl | rfl | rfl | rfl | rfl
  · rw [← show IntKind.u64.wrap (x + y) = z by simpa [rk] using h]; exact U64.wrap _
  · rw [← show IntKind.u64.wrap (x - y) = z by simpa [rk] using h]; exact U64.wrap _
  · rw [← show IntKind.u64.wrap (x * y) = z by simpa [rk] using h]; exact U64.wrap _
  · have hz' : ¬ y = 0 ∧ x / y = z := by simpa [rk] using h
    rw [← hz'.2]; exact ediv_u hx hy1
  · have hz' : ¬ y = 0 ∧ x % y = z := by simpa [rk] using h
    rw [← hz'.2]
    have h2 := Int.emod_nonneg x hz'.1
    have h3 := Int.emod_lt_of_pos x (show 0 < y by have := hz'.1; omega)
    unfold U64; omega
  · rw [← show bits .and .u64 x y = z by simpa [rk] using h]; exact bits_u64 _ _ _
  · rw [← show bits .or .u64 x y = z by simpa [rk] using h]; exact bits_u64 _ _ _
  · rw [← show bits .xor .u64 x y = z by simpa [rk] using h]; exact bits_u64 _ _ _
  · rw [← show sl64 x y = z by simpa [rk] using h]; exact sl64_u _ _
  · rw [← show sr64 x y = z by simpa [rk] using h]; exact sr64_u _ hx
  · rw [← show (if x < y then 1 else 0) = z by simpa [rk] using h]; exact bit_u _
  · rw [← show (if x = y then 1 else 0) = z by simpa [rk] using h]; exact bit_u _
theorem rk_none {op x y : Int} (ho : 5 ≤ op ∧ op ≤ 16) (hz : rk op x y = none) : (op = 8 ∨ op = 9) ∧ y = 0 := by
  rcases ops12 ho with rfl | rfl | rfl | rfl | rfl | rfl | rfl | rfl | rfl | rfl | rfl | rfl <;> simp [rk] at hz ⊢ <;> exact hz
/-- What leaves a step that can't be done. -/
def trapV : List PanicEntry := [{ v := .iface 90 (.agg #[]), recovered := false }]
end Go.Proofs.Ytnjbmffgbgbjmaa
/- Layer vm: instructions and their words. -/
namespace Go.Proofs.Ytnjbmffgbgbjmaa
open Go.RowKit
set_option maxRecDepth 100000
set_option linter.unusedVariables false
set_option linter.unusedSimpArgs false


/-- What stands in a word. -/
def dOp (w : Int) : Int := w / 72057594037927936
def dA (w : Int) : Int := w / 4503599627370496 % 16
def dB (w : Int) : Int := w / 281474976710656 % 16
def dC (w : Int) : Int := w / 17592186044416 % 16
def dI (w : Int) : Int := w % 4294967296
/-- Is it an instruction? -/
def dOk (w : Int) : Bool := decide (1 ≤ dOp w ∧ dOp w ≤ 25 ∧ w / 4294967296 % 4096 = 0)
/-- The word of an instruction. -/
def wdI (o a b c i : Int) : Int := o * 72057594037927936 + a % 16 * 4503599627370496 + b % 16 * 281474976710656 + c % 16 * 17592186044416 + i
theorem wdI_u {o a b c i : Int} (ho : 0 ≤ o ∧ o < 256) (hi : 0 ≤ i ∧ i < 4294967296) : U64 (wdI o a b c i) := by
  unfold U64 wdI; omega
/-- An instruction as it lies in memory. -/
def cdA (o a b c i : Int) : Array Value := #[.int .u8 o, .int .u8 a, .int .u8 b, .int .u8 c, .int .u32 i]
theorem dec_word {o a b c i : Int} (ho : 1 ≤ o ∧ o ≤ 25) (ha : 0 ≤ a ∧ a < 16) (hb : 0 ≤ b ∧ b < 16) (hc : 0 ≤ c ∧ c < 16) (hi : 0 ≤ i ∧ i < 4294967296) :
    dOp (wdI o a b c i) = o ∧ dA (wdI o a b c i) = a ∧ dB (wdI o a b c i) = b ∧ dC (wdI o a b c i) = c ∧ dI (wdI o a b c i) = i ∧ dOk (wdI o a b c i) = true := by
  have h : dOp (wdI o a b c i) = o ∧ dA (wdI o a b c i) = a ∧ dB (wdI o a b c i) = b ∧ dC (wdI o a b c i) = c ∧ dI (wdI o a b c i) = i ∧ (wdI o a b c i) / 4294967296 % 4096 = 0 := by
    unfold dOp dA dB dC dI wdI
    omega
  obtain ⟨h1, h2, h3, h4, h5, h6⟩ := h
  refine ⟨h1, h2, h3, h4, h5, ?_⟩
  unfold dOk
  rw [h1, h6]
  simp
  omega
theorem word_dec {w : Int} (hw : U64 w) : wdI (dOp w) (dA w) (dB w) (dC w) (dI w) = w ↔ w / 4294967296 % 4096 = 0 := by
  have h1 := hw.1
  have h2 := hw.2
  unfold wdI dOp dA dB dC dI
  omega
theorem toNat64 {x : Int} (h : U64 x) : (BitVec.ofInt 64 x).toNat = x.toNat := by
  have h1 := h.1
  have h2 := h.2
  rw [BitVec.toNat_ofInt]
  omega
theorem and15_64 {x : Int} (h : U64 x) : bits .and .u64 x 15 = x % 16 := by
  have h1 := h.1
  have e : (BitVec.ofInt 64 15).toNat = 2 ^ 4 - 1 := by decide
  show IntKind.u64.wrap ((BitVec.ofInt 64 x &&& BitVec.ofInt 64 15).toNat : Int) = _
  rw [BitVec.toNat_and, toNat64 h, e, Nat.and_two_pow_sub_one_eq_mod, wrap_mod]
  have := h.2
  omega
theorem and15_8 {x : Int} (h : 0 ≤ x ∧ x < 256) : bits .and .u8 x 15 = x % 16 := by
  have e : (BitVec.ofInt 8 15).toNat = 2 ^ 4 - 1 := by decide
  have e2 : (BitVec.ofInt 8 x).toNat = x.toNat := by rw [BitVec.toNat_ofInt]; omega
  show IntKind.u8.wrap ((BitVec.ofInt 8 x &&& BitVec.ofInt 8 15).toNat : Int) = _
  rw [BitVec.toNat_and, e2, e, Nat.and_two_pow_sub_one_eq_mod]
  simp only [IntKind.wrap, IntKind.bits, IntKind.signed]
  simp
  omega
theorem nat_gap (x : Nat) : x &&& 17587891077120 = x / 4294967296 % 4096 * 4294967296 := by
  have e : (17587891077120 : Nat) = 4095 <<< 32 := by decide
  have e2 : x / 4294967296 % 4096 * 4294967296 = ((x >>> 32) &&& 4095) <<< 32 := by
    rw [show (4095 : Nat) = 2 ^ 12 - 1 by decide, Nat.and_two_pow_sub_one_eq_mod, Nat.shiftLeft_eq, Nat.shiftRight_eq_div_pow]
  rw [e, e2]
  apply Nat.eq_of_testBit_eq
  intro i
  simp only [Nat.testBit_and, Nat.testBit_shiftLeft, Nat.testBit_shiftRight]
  by_cases h : 32 ≤ i
  · simp [h, show 32 + (i - 32) = i by omega]
  · simp [h]
theorem and_gap {x : Int} (h : U64 x) : bits .and .u64 x 17587891077120 = x / 4294967296 % 4096 * 4294967296 := by
  have h1 := h.1
  have h2 := h.2
  have e : (BitVec.ofInt 64 17587891077120).toNat = 17587891077120 := by decide
  show IntKind.u64.wrap ((BitVec.ofInt 64 x &&& BitVec.ofInt 64 17587891077120).toNat : Int) = _
  rw [BitVec.toNat_and, toNat64 h, e, nat_gap, wrap_mod]
  omega
theorem or_add (k q y : Nat) (hy : y < 2 ^ k) (h : 2 ^ k * q + y < 18446744073709551616) : bits .or .u64 ((2 ^ k * q : Nat) : Int) (y : Int) = ((2 ^ k * q + y : Nat) : Int) := by
  have e1 : (BitVec.ofInt 64 ((2 ^ k * q : Nat) : Int)).toNat = 2 ^ k * q := by rw [toNat64 ⟨by omega, by omega⟩]; omega
  have e2 : (BitVec.ofInt 64 (y : Int)).toNat = y := by rw [toNat64 ⟨by omega, by omega⟩]; omega
  show IntKind.u64.wrap ((BitVec.ofInt 64 ((2 ^ k * q : Nat) : Int) ||| BitVec.ofInt 64 (y : Int)).toNat : Int) = _
  rw [BitVec.toNat_or, e1, e2, ← Nat.two_pow_add_eq_or_of_lt hy, wrap_mod]
  omega
theorem or_addI (k : Nat) {x y : Int} (hx : U64 x) (hd : x % (2 ^ k : Nat) = 0) (hy : 0 ≤ y ∧ y < (2 ^ k : Nat)) (h : x + y < 18446744073709551616) : bits .or .u64 x y = x + y := by
  have h1 := hx.1
  obtain ⟨q, hq⟩ : ∃ q, x.toNat = 2 ^ k * q := by
    refine ⟨x.toNat / 2 ^ k, ?_⟩
    have : x.toNat % 2 ^ k = 0 := by
      have e : x = (x.toNat : Int) := by omega
      rw [e] at hd
      exact_mod_cast hd
    have h3 := Nat.div_add_mod x.toNat (2 ^ k)
    omega
  have hq' : x = ((2 ^ k * q : Nat) : Int) := by omega
  have := or_add k q y.toNat (by have := hy.1; have := hy.2; omega) (by have := hy.1; omega)
  rw [hq', show y = (y.toNat : Int) by have := hy.1; omega, this]
  omega
/-- Word, as the model reckons it. -/
def wdV (o a b c i : Int) : Int := bits .or .u64 (bits .or .u64 (bits .or .u64 (bits .or .u64 (IntKind.u64.wrap (IntKind.u64.wrap o * 72057594037927936)) (IntKind.u64.wrap (IntKind.u64.wrap (bits .and .u8 a 15) * 4503599627370496))) (IntKind.u64.wrap (IntKind.u64.wrap (bits .and .u8 b 15) * 281474976710656))) (IntKind.u64.wrap (IntKind.u64.wrap (bits .and .u8 c 15) * 17592186044416))) (IntKind.u64.wrap i)
theorem wdV_eq {o a b c i : Int} (ho : 0 ≤ o ∧ o < 256) (ha : 0 ≤ a ∧ a < 256) (hb : 0 ≤ b ∧ b < 256) (hc : 0 ≤ c ∧ c < 256) (hi : 0 ≤ i ∧ i < 4294967296) : wdV o a b c i = wdI o a b c i := by
  unfold wdV wdI
  rw [and15_8 ha, and15_8 hb, and15_8 hc]
  have wr : ∀ x : Int, 0 ≤ x → x < 18446744073709551616 → IntKind.u64.wrap x = x := fun x h1 h2 => wrap_u64 ⟨h1, h2⟩
  rw [wr o (by omega) (by omega), wr (a % 16) (by omega) (by omega), wr (b % 16) (by omega) (by omega), wr (c % 16) (by omega) (by omega), wr i (by omega) (by omega),
    wr (o * 72057594037927936) (by omega) (by omega), wr (a % 16 * 4503599627370496) (by omega) (by omega), wr (b % 16 * 281474976710656) (by omega) (by omega), wr (c % 16 * 17592186044416) (by omega) (by omega)]
  have p56 : ((2 ^ 56 : Nat) : Int) = 72057594037927936 := by decide
  have p52 : ((2 ^ 52 : Nat) : Int) = 4503599627370496 := by decide
  have p48 : ((2 ^ 48 : Nat) : Int) = 281474976710656 := by decide
  have p44 : ((2 ^ 44 : Nat) : Int) = 17592186044416 := by decide
  rw [or_addI 56 (x := o * 72057594037927936) (y := a % 16 * 4503599627370496) ⟨by omega, by omega⟩ (by rw [p56]; omega) (by rw [p56]; omega) (by omega),
    or_addI 52 (x := o * 72057594037927936 + a % 16 * 4503599627370496) (y := b % 16 * 281474976710656) ⟨by omega, by omega⟩ (by rw [p52]; omega) (by rw [p52]; omega) (by omega),
    or_addI 48 (x := o * 72057594037927936 + a % 16 * 4503599627370496 + b % 16 * 281474976710656) (y := c % 16 * 17592186044416) ⟨by omega, by omega⟩ (by rw [p48]; omega) (by rw [p48]; omega) (by omega),
    or_addI 44 (x := o * 72057594037927936 + a % 16 * 4503599627370496 + b % 16 * 281474976710656 + c % 16 * 17592186044416) (y := i) ⟨by omega, by omega⟩ (by rw [p44]; omega) (by rw [p44]; omega) (by omega)]
set_option maxHeartbeats 1000000 in
theorem word_any {o a b c i : Int} (w : World) (ho : 0 ≤ o ∧ o < 256) (ha : 0 ≤ a ∧ a < 256) (hb : 0 ≤ b ∧ b < 256) (hc : 0 ≤ c ∧ c < 256) (hi : 0 ≤ i ∧ i < 4294967296) :
    Calls Try.prog 13 #[.agg (cdA o a b c i)] w fun e w' => e = .returned (.int .u64 (wdI o a b c i)) ∧ Below w.heap.size w w' := by
  have E := Hid.mk' (wdV_eq ho ha hb hc hi)
  clear ho ha hb hc hi
  unfold cdA
  go_enter Try.func13, Try.ntmps13
  go_wp2
  go_ret
  exact ⟨congrArg (fun z => Ending.returned (Value.int IntKind.u64 z)) E.out, (Below.refl _ _).alloc (Nat.le_refl _) _⟩
set_option maxHeartbeats 1000000 in
theorem refWord_any {o a b c i : Int} (w : World) (ho : 0 ≤ o ∧ o < 256) (ha : 0 ≤ a ∧ a < 256) (hb : 0 ≤ b ∧ b < 256) (hc : 0 ≤ c ∧ c < 256) (hi : 0 ≤ i ∧ i < 4294967296) :
    Calls Try.prog 14 #[.agg (cdA o a b c i)] w fun e w' => e = .returned (.int .u64 (wdI o a b c i)) ∧ Below w.heap.size w w' := by
  have E := Hid.mk' (wdV_eq ho ha hb hc hi)
  clear ho ha hb hc hi
  unfold cdA
  go_enter Try.func14, Try.ntmps14
  go_wp2
  go_ret
  exact ⟨congrArg (fun z => Ending.returned (Value.int IntKind.u64 z)) E.out, (Below.refl _ _).alloc (Nat.le_refl _) _⟩
end Go.Proofs.Ytnjbmffgbgbjmaa
/- Layer vm: Decode. -/
namespace Go.Proofs.Ytnjbmffgbgbjmaa
open Go.RowKit
set_option maxRecDepth 100000
set_option linter.unusedVariables false
set_option linter.unusedSimpArgs false

/-- A bool and the words beside it. -/
def dV (x : Int) : Array Value := if dOk x = true then cdA (dOp x) (dA x) (dB x) (dC x) (dI x) else cdA 0 0 0 0 0
theorem dV_yes {x : Int} (h : dOk x = true) : dV x = cdA (dOp x) (dA x) (dB x) (dC x) (dI x) := if_pos h
theorem dV_no {x : Int} (h : dOk x = false) : dV x = cdA 0 0 0 0 0 := if_neg (by rw [h]; simp)
theorem dOk_no1 {x : Int} (h : x / 72057594037927936 < 1) : dOk x = false := by
  unfold dOk dOp; simp; omega
theorem dOk_no2 {x : Int} (h : 25 < x / 72057594037927936) : dOk x = false := by
  unfold dOk dOp; simp; omega
theorem dOk_gap {x : Int} (h : ¬ x / 72057594037927936 < 1) (h2 : ¬ 25 < x / 72057594037927936) : dOk x = decide (x / 4294967296 % 4096 = 0) := by
  unfold dOk dOp
  rw [Bool.eq_iff_iff]
  simp
  omega
theorem dRg {x : Int} (hx : U64 x) : (0 ≤ dOp x ∧ dOp x < 256) ∧ (0 ≤ dA x ∧ dA x < 16) ∧ (0 ≤ dB x ∧ dB x < 16) ∧ (0 ≤ dC x ∧ dC x < 16) ∧ (0 ≤ dI x ∧ dI x < 4294967296) := by
  have h1 := hx.1
  have h2 := hx.2
  unfold dOp dA dB dC dI
  omega
/-- What Decode answers. -/
def DPost (x : Int) (w : World) (e : Ending) (w' : World) : Prop := e = .returned (.tuple #[.agg (dV x), .bool (dOk x)]) ∧ Below w.heap.size w w'
theorem DPost.mk' {x : Int} {w w' : World} {e : Ending} (b : Bool) (C : Array Value) (hb : dOk x = b) (hC : C = dV x) (he : e = .returned (.tuple #[.agg C, .bool b])) (hl : Below w.heap.size w w') : DPost x w e w' := by
  subst hb hC; exact ⟨he, hl⟩
theorem wrap8_of {x : Int} (h : 0 ≤ x) (h2 : x < 256) : IntKind.u8.wrap x = x := by
  simp only [IntKind.wrap, IntKind.bits, IntKind.signed]; simp; omega
theorem a8 (x : Int) : bits .and .u8 (IntKind.u8.wrap x) 15 = x % 16 := by
  have e : IntKind.u8.wrap x = x % 256 := by simp only [IntKind.wrap, IntKind.bits, IntKind.signed]; simp
  rw [e, and15_8 (by omega)]
  omega
theorem w32 (x : Int) : IntKind.u32.wrap x = x % 4294967296 := by simp only [IntKind.wrap, IntKind.bits, IntKind.signed]; simp
theorem size25 : (Try.prog.info? 25).map (·.size) = some 5 := by kernel_rfl
theorem cdA_size (o a b c i : Int) : (cdA o a b c i).size = 5 := rfl
/-- An instruction, and a word beside it. -/
theorem resC {f : Func} {w : World} {tmps : Array Value} {g t k : Nat} {o a b c i : Int} {v : Value} (hf : f.results = #[.cell t 25, .tmp k]) (hp : tmps.getD t undef = .pointer (some ⟨g, 0, none⟩)) (hk : tmps.getD k undef = v) (hA : Arr w g 25 (cdA o a b c i)) :
    (results f tmps).run Try.prog w = .ok (.tuple #[.agg (cdA o a b c i), v]) w := by
  have hl := run_loadVar_mid (P := Try.prog) w g 0 25 (cdA o a b c i).toList _ (fun j v hv => by rw [Nat.zero_add, hA.cell]; simpa using hv) Try.underlying25 rfl size25
  have hp' : tmps[t]?.getD undef = .pointer (some ⟨g, 0, none⟩) := by simpa using hp
  have hk' : tmps[k]?.getD undef = v := by simpa using hk
  simp [results, hf, hp', hk', asAddr, hl]
theorem one25 (o a b c i : Int) : (cdA o a b c i).all (·.oneCell') = true := all_oneCell_toArray (cs := [.int .u8 o, .int .u8 a, .int .u8 b, .int .u8 c, .int .u32 i]) (by simp [Value.oneCell'])
/-- An instruction out of a block of its own, and into one. -/
theorem ldA25 {ops : Array Oper} {rest : List Oper} {o : Oper} {a : Act} {w : World} {Q : Exit → Act → World → Prop} (hgd : o.guard = none) (x : Operand) (ho : o.op = .load 25 x)
    (g : Nat) (hx : a.eval x = .pointer (some ⟨g, 0, none⟩)) (C : Array Value) (hC : C.size = 5) (hA : Arr w g 25 C)
    (h : wpList Try.prog ops Q rest (a.put o.dst (.agg C)) w) : wpList Try.prog ops Q (o :: rest) a w :=
  wpList_load_row hgd 25 x ho g hx 25 C (0, 0) _ hA Try.underlying25 rfl (by rw [hC]; exact size25) h
theorem stN25 {ops : Array Oper} {rest : List Oper} {o : Oper} {a : Act} {w : World} {Q : Exit → Act → World → Prop} {p q r s t : Int} (hgd : o.guard = none) (x y : Operand) (ho : o.op = .store 25 x y)
    (g : Nat) (hx : a.eval x = .pointer (some ⟨g, 0, none⟩)) (hy : a.eval y = .agg (cdA p q r s t)) (D : Array Value) (hA : Arr w g 25 D) (hD : D.size = 5)
    (h : wpList Try.prog ops Q rest (a.put o.dst undef) (w.setRow g (cdA p q r s t))) : wpList Try.prog ops Q (o :: rest) a w :=
  wpList_store_arr hgd 25 x y ho g _ hx hy 25 D hA size25 hD (one25 p q r s t) h
set_option maxHeartbeats 1000000 in
theorem decode_any {x : Int} (w : World) (hx : U64 x) :
    Calls Try.prog 9 #[.int .u64 x] w (DPost x w) := by
  have hx1 := hx.1
  have hx2 := hx.2
  by_cases h1 : x / 72057594037927936 < 1
  · have hd := dOk_no1 h1
    have hv := dV_no hd
    replace hd := Hid.mk' hd
    replace hv := Hid.mk' hv
    go_enter Try.func9, Try.ntmps9
    go_wp2
    exact bodyPost_ret (resC Try.results9 rfl rfl (o := 0) (a := 0) (b := 0) (c := 0) (i := 0) (Arr.new _ _ _)) rfl (DPost.mk' false _ hd.out hv.out.symm rfl ((Below.refl _ _).alloc (Nat.le_refl _) _))
  by_cases h2 : 25 < x / 72057594037927936
  · have hd := dOk_no2 h2
    have hv := dV_no hd
    replace hd := Hid.mk' hd
    replace hv := Hid.mk' hv
    go_enter Try.func9, Try.ntmps9
    go_wp2
    exact bodyPost_ret (resC Try.results9 rfl rfl (o := 0) (a := 0) (b := 0) (c := 0) (i := 0) (Arr.new _ _ _)) rfl (DPost.mk' false _ hd.out hv.out.symm rfl ((Below.refl _ _).alloc (Nat.le_refl _) _))
  have hg := and_gap hx
  have hd := dOk_gap h1 h2
  by_cases h3 : x / 4294967296 % 4096 = 0
  · rw [h3] at hg
    simp only [Int.zero_mul] at hg
    replace hd : dOk x = true := by rw [hd, h3]; rfl
    have hv := dV_yes hd
    have hcd : cdA (x / 72057594037927936) (x / 4503599627370496 % 16) (x / 281474976710656 % 16) (x / 17592186044416 % 16) (x % 4294967296) = dV x := by rw [hv]; rfl
    replace hd := Hid.mk' hd
    replace hcd := Hid.mk' hcd
    clear hv
    go_enter Try.func9, Try.ntmps9
    go_wp2
    exact bodyPost_ret (resC Try.results9 rfl rfl (Arr.new _ _ _)) rfl (DPost.mk' true _ hd.out hcd.out rfl ((Below.refl _ _).alloc (Nat.le_refl _) _))
  · have hne : (bits .and .u64 x 17587891077120 != 0) = true := by rw [hg]; simp; omega
    replace hd : dOk x = false := by rw [hd]; simpa using h3
    have hv := dV_no hd
    replace hd := Hid.mk' hd
    replace hv := Hid.mk' hv
    clear hg
    go_enter Try.func9, Try.ntmps9
    go_wp2
    exact bodyPost_ret (resC Try.results9 rfl rfl (o := 0) (a := 0) (b := 0) (c := 0) (i := 0) (Arr.new _ _ _)) rfl (DPost.mk' false _ hd.out hv.out.symm rfl ((Below.refl _ _).alloc (Nat.le_refl _) _))
set_option maxHeartbeats 1000000 in
theorem refdecode_any {x : Int} (w : World) (hx : U64 x) :
    Calls Try.prog 10 #[.int .u64 x] w (DPost x w) := by
  have hx1 := hx.1
  have hx2 := hx.2
  have hR := dRg hx
  have e1 : bits .and .u64 (x / 4503599627370496) 15 = dA x := and15_64 (ediv_u hx (by omega))
  have e2 : bits .and .u64 (x / 281474976710656) 15 = dB x := and15_64 (ediv_u hx (by omega))
  have e3 : bits .and .u64 (x / 17592186044416) 15 = dC x := and15_64 (ediv_u hx (by omega))
  have e5 := w32 x
  have f1 := wrap8_of (x := dA x) (by omega) (by omega)
  have f2 := wrap8_of (x := dB x) (by omega) (by omega)
  have f3 := wrap8_of (x := dC x) (by omega) (by omega)
  have hcall : ∀ W, Calls Try.prog 14 #[.agg #[.int .u8 (x / 72057594037927936), .int .u8 (dA x), .int .u8 (dB x), .int .u8 (dC x), .int .u32 (x % 4294967296)]] W fun e w' => e = .returned (.int .u64 (wdI (x / 72057594037927936) (dA x) (dB x) (dC x) (x % 4294967296))) ∧ Below W.heap.size W w' := fun W => refWord_any W (by have := hR.1; unfold dOp at this; exact this) (by omega) (by omega) (by omega) (by omega)
  have hww := Hid.mk' (word_dec hx)
  clear hR
  by_cases h1 : x / 72057594037927936 < 1
  · have hd := dOk_no1 h1
    have hv := dV_no hd
    replace hd := Hid.mk' hd
    replace hv := Hid.mk' hv
    go_enter Try.func10, Try.ntmps10
    go_wp2_with (refine stN25 (by rfl) (.tmp 2) (.tmp 37) (by rfl) w.heap.size (by rfl) (by rfl) _ ((Arr.new w 25 _).alloc _) rfl ?_)
    exact bodyPost_ret (resC Try.results10 rfl rfl (o := 0) (a := 0) (b := 0) (c := 0) (i := 0) (((Arr.new w 25 _).alloc _).setRow _)) rfl (DPost.mk' false _ hd.out hv.out.symm rfl (below_setRow (((Below.refl _ _).alloc (Nat.le_refl _) _).alloc (by simp) _) (Nat.le_refl _) _))
  by_cases h2 : 25 < x / 72057594037927936
  · have hd := dOk_no2 h2
    have hv := dV_no hd
    replace hd := Hid.mk' hd
    replace hv := Hid.mk' hv
    go_enter Try.func10, Try.ntmps10
    go_wp2_with (refine stN25 (by rfl) (.tmp 2) (.tmp 37) (by rfl) w.heap.size (by rfl) (by rfl) _ ((Arr.new w 25 _).alloc _) rfl ?_)
    exact bodyPost_ret (resC Try.results10 rfl rfl (o := 0) (a := 0) (b := 0) (c := 0) (i := 0) (((Arr.new w 25 _).alloc _).setRow _)) rfl (DPost.mk' false _ hd.out hv.out.symm rfl (below_setRow (((Below.refl _ _).alloc (Nat.le_refl _) _).alloc (by simp) _) (Nat.le_refl _) _))
  have hd := dOk_gap h1 h2
  by_cases h3 : x / 4294967296 % 4096 = 0
  · replace hd : dOk x = true := by rw [hd, h3]; rfl
    have hv := dV_yes hd
    have hcd : cdA (x / 72057594037927936) (dA x) (dB x) (dC x) (x % 4294967296) = dV x := by rw [hv]; rfl
    clear hv
    replace hd := Hid.mk' hd
    replace hcd := Hid.mk' hcd
    have hq : wdI (x / 72057594037927936) (dA x) (dB x) (dC x) (x % 4294967296) = x := hww.out.2 h3
    replace hq := Hid.mk' hq
    go_enter Try.func10, Try.ntmps10
    go_wp2_with (first
      | (go_at_call 14; go_must (refine (hcall _).mono ?_; rintro e w1 ⟨rfl, hb1⟩; rw [hq.out]; have A0 := ((Arr.new w 25 #[.int .u8 0, .int .u8 0, .int .u8 0, .int .u8 0, .int .u32 0]).alloc (.cells (cdA (x / 72057594037927936) (dA x) (dB x) (dC x) (x % 4294967296)) 25)).below hb1 (by simp; omega); have A1 := (Arr.new (w.alloc (.cells #[.int .u8 0, .int .u8 0, .int .u8 0, .int .u8 0, .int .u32 0] 25)) 25 (cdA (x / 72057594037927936) (dA x) (dB x) (dC x) (x % 4294967296))).below hb1 (by simp); simp only [World.size_alloc] at A1; have B1 := (((Below.refl w.heap.size w).alloc (Nat.le_refl _) (.cells #[.int .u8 0, .int .u8 0, .int .u8 0, .int .u8 0, .int .u32 0] 25)).alloc (by simp) (.cells (cdA (x / 72057594037927936) (dA x) (dB x) (dC x) (x % 4294967296)) 25)).trans (hb1.mono (by simp; omega)); generalize hcc : cdA (x / 72057594037927936) (dA x) (dB x) (dC x) (x % 4294967296) = CC at A0 A1 B1))
      | (refine ldA25 (by rfl) (.tmp 4) (by rfl) (w.heap.size + 1) (by rfl) CC (by rw [← hcc]; rfl) A1 ?_; go_simp)
      | (refine stN25 (by rfl) (.tmp 2) (.tmp 38) (by rfl) w.heap.size (by rfl) (by rw [← hcc]; rfl) _ A0 rfl ?_))
    subst hcc
    exact bodyPost_ret (resC Try.results10 rfl rfl (A0.setRow _)) rfl (DPost.mk' true _ hd.out hcd.out rfl (below_setRow B1 (Nat.le_refl _) _))
  · replace hd : dOk x = false := by rw [hd]; simpa using h3
    have hv := dV_no hd
    replace hd := Hid.mk' hd
    replace hv := Hid.mk' hv
    have hq : (wdI (x / 72057594037927936) (dA x) (dB x) (dC x) (x % 4294967296) != x) = true := by simp only [bne_iff_ne]; exact fun e => h3 (hww.out.1 e)
    go_enter Try.func10, Try.ntmps10
    go_wp2_with (first
      | (go_at_call 14; go_must (refine (hcall _).mono ?_; rintro e w1 ⟨rfl, hb1⟩; have A0 := ((Arr.new w 25 #[.int .u8 0, .int .u8 0, .int .u8 0, .int .u8 0, .int .u32 0]).alloc (.cells (cdA (x / 72057594037927936) (dA x) (dB x) (dC x) (x % 4294967296)) 25)).below hb1 (by simp; omega); have B1 := (((Below.refl w.heap.size w).alloc (Nat.le_refl _) (.cells #[.int .u8 0, .int .u8 0, .int .u8 0, .int .u8 0, .int .u32 0] 25)).alloc (by simp) (.cells (cdA (x / 72057594037927936) (dA x) (dB x) (dC x) (x % 4294967296)) 25)).trans (hb1.mono (by simp; omega))))
      | (refine stN25 (by rfl) (.tmp 2) (.tmp 37) (by rfl) w.heap.size (by rfl) (by rfl) _ A0 rfl ?_))
    exact bodyPost_ret (resC Try.results10 rfl rfl (o := 0) (a := 0) (b := 0) (c := 0) (i := 0) (A0.setRow _)) rfl (DPost.mk' false _ hd.out hv.out.symm rfl (below_setRow B1 (Nat.le_refl _) _))
end Go.Proofs.Ytnjbmffgbgbjmaa
/- Layer vm: a machine as numbers, and in memory. -/
namespace Go.Proofs.Ytnjbmffgbgbjmaa
open Go.RowKit
set_option maxRecDepth 100000
set_option linter.unusedVariables false
set_option linter.unusedSimpArgs false

/-- A machine, as numbers. -/
structure Mc where
  pc : Int
  rg : List Int
  st : Int
  me : List Int
structure Mc.ok (m : Mc) : Prop where
  pc : U64 m.pc
  r16 : m.rg.length = 16
  rg : ∀ k, U64 (m.rg.getD k 0)
  st : 0 ≤ m.st ∧ m.st < 256
  me : ∀ k, U64 (m.me.getD k 0)
/-- Words as they lie. -/
def by64 (L : List Int) : List Value := L.map (Value.int .u64)
theorem by64_len (L : List Int) : (by64 L).length = L.length := by simp [by64]
theorem by64_get {L : List Int} {t : Nat} (h : t < L.length) : (by64 L)[t]? = some (.int .u64 (L.getD t 0)) := by
  simp [by64, List.getElem?_eq_getElem h, List.getD_eq_getElem?_getD]
theorem by64_set (L : List Int) (t : Nat) (x : Int) : (by64 L).set t (.int .u64 x) = by64 (L.set t x) := by
  simp [by64, List.map_set]
def mcL (m : Mc) (v : Value) : List Value := .int .u64 m.pc :: (by64 m.rg ++ [.int .u8 m.st, v])
theorem mcL_len {m : Mc} (h : m.rg.length = 16) (v : Value) : (mcL m v).length = 19 := by simp [mcL, by64_len, h]
theorem mcL_reg {m : Mc} (h : m.rg.length = 16) (v : Value) (X : List Value) {a : Nat} (ha : a < 16) : (mcL m v ++ X)[1 + a]? = some (.int .u64 (m.rg.getD a 0)) := by
  rw [List.getElem?_append_left (by rw [mcL_len h]; omega), mcL, Nat.add_comm, List.getElem?_cons_succ, List.getElem?_append_left (by rw [by64_len, h]; exact ha)]
  exact by64_get (by rw [h]; exact ha)
theorem mcL_st {m : Mc} (h : m.rg.length = 16) (v : Value) (X : List Value) : (mcL m v ++ X)[17]? = some (.int .u8 m.st) := by
  rw [List.getElem?_append_left (by rw [mcL_len h]; omega), mcL, List.getElem?_cons_succ, List.getElem?_append_right (by rw [by64_len, h]; omega), by64_len, h]
  rfl
theorem mcL_me {m : Mc} (h : m.rg.length = 16) (v : Value) (X : List Value) : (mcL m v ++ X)[18]? = some v := by
  rw [List.getElem?_append_left (by rw [mcL_len h]; omega), mcL, List.getElem?_cons_succ, List.getElem?_append_right (by rw [by64_len, h]; omega), by64_len, h]
  rfl
theorem mcL_x {m : Mc} (h : m.rg.length = 16) (v : Value) (X : List Value) (j : Nat) : (mcL m v ++ X)[19 + j]? = X[j]? := by
  rw [List.getElem?_append_right (by rw [mcL_len h]; omega), mcL_len h, Nat.add_sub_cancel_left]
theorem mcL_setPc (m : Mc) (v : Value) (X : List Value) (x : Int) : (mcL m v ++ X).set 0 (.int .u64 x) = mcL { m with pc := x } v ++ X := rfl
theorem mcL_setReg {m : Mc} (h : m.rg.length = 16) (v : Value) (X : List Value) {a : Nat} (ha : a < 16) (x : Int) : (mcL m v ++ X).set (1 + a) (.int .u64 x) = mcL { m with rg := m.rg.set a x } v ++ X := by
  rw [List.set_append_left _ _ (by rw [mcL_len h]; omega), mcL, Nat.add_comm, List.set_cons_succ, List.set_append_left _ _ (by rw [by64_len, h]; exact ha), by64_set]
  rfl
theorem mcL_setSt {m : Mc} (h : m.rg.length = 16) (v : Value) (X : List Value) (x : Int) : (mcL m v ++ X).set 17 (.int .u8 x) = mcL { m with st := x } v ++ X := by
  rw [List.set_append_left _ _ (by rw [mcL_len h]; omega), mcL, List.set_cons_succ, List.set_append_right _ _ (by rw [by64_len, h]; omega), by64_len, h]
  rfl
/-- Words in block gm. -/
def MW (w : World) (gm : Nat) (L : List Int) : Prop := ∃ C : Array Value, Arr w gm 26 C ∧ ∀ t, t < L.length → C[t]? = some (.int .u64 (L.getD t 0))
theorem MW.cell {w : World} {gm : Nat} {L : List Int} (h : MW w gm L) {t : Nat} (ht : t < L.length) : w.cell? ⟨gm, t, none⟩ = some (.int .u64 (L.getD t 0)) := by
  obtain ⟨C, hA, hC⟩ := h
  rw [hA.cell]; exact hC t ht
theorem MW.frozen {w : World} {gm : Nat} {L : List Int} (h : MW w gm L) (t : Nat) : w.frozen? ⟨gm, t, none⟩ = false := by
  obtain ⟨C, hA, hC⟩ := h
  exact hA.frozen t
theorem MW.lt {w : World} {gm : Nat} {L : List Int} (h : MW w gm L) : gm < w.heap.size := by
  obtain ⟨C, hA, hC⟩ := h
  exact hA.lt
theorem MW.below {w w' : World} {gm B : Nat} {L : List Int} (h : MW w gm L) (hb : Below B w w') (hg : gm < B) : MW w' gm L := by
  obtain ⟨C, hA, hC⟩ := h
  exact ⟨C, hA.below hb hg, hC⟩
theorem getD_set (L : List Int) (k t : Nat) (x : Int) (hk : k < L.length) : (L.set k x).getD t 0 = if t = k then x else L.getD t 0 := by
  simp only [List.getD_eq_getElem?_getD, List.getElem?_set]
  by_cases h : k = t
  · subst h; simp [hk]
  · simp [h, Ne.symm h]
theorem MW.set {w : World} {gm : Nat} {L : List Int} (h : MW w gm L) {k : Nat} (hk : k < L.length) (x : Int) : MW (w.setCell ⟨gm, k, none⟩ (.int .u64 x)) gm (L.set k x) := by
  obtain ⟨C, hA, hC⟩ := h
  refine ⟨_, hA.set k _, fun t ht => ?_⟩
  rw [List.length_set] at ht
  rw [Array.getElem?_setIfInBounds, getD_set L k t x hk]
  by_cases e : k = t
  · subst e
    have : k < C.size := by
      have := hC k hk
      exact (Array.getElem?_eq_some_iff.1 this).1
    simp [this]
  · rw [if_neg e, if_neg (Ne.symm e)]
    exact hC t ht
theorem MW.setOther {w : World} {gm : Nat} {L : List Int} (h : MW w gm L) {a : Addr} (v : Value) (ha : gm ≠ a.block) : MW (w.setCell a v) gm L := by
  obtain ⟨C, hA, hC⟩ := h
  exact ⟨C, hA.setOther v ha, hC⟩
theorem MW.block {w w' : World} {gm : Nat} {L : List Int} (h : MW w gm L) (he : w'.heap[gm]? = w.heap[gm]?) : MW w' gm L := by
  obtain ⟨C, hA, hC⟩ := h
  exact ⟨C, he.trans hA, hC⟩
/-- A machine in block g, its words in block gm. -/
structure EN (w : World) (g : Nat) (ty : TypeId) (X : List Value) (gm n cap : Nat) (m : Mc) : Prop where
  eng : Arr w g ty (mcL m (.slice (some ⟨gm, 0, none⟩) n cap) ++ X).toArray
  mem : MW w gm m.me
  ne : g ≠ gm
  len : Hid (n = m.me.length)
  small : n ≤ 4096
  cap : n ≤ cap ∧ cap ≤ 9223372036854775807
  ok : m.ok
variable {w w' : World} {g gm n cap : Nat} {ty : TypeId} {X : List Value} {m : Mc}
theorem EN.c0 (h : EN w g ty X gm n cap m) : w.cell? ⟨g, 0, none⟩ = some (.int .u64 m.pc) := by
  rw [h.eng.cell]; rfl
theorem EN.cr (h : EN w g ty X gm n cap m) {a : Nat} (ha : a < 16) : w.cell? ⟨g, 1 + a, none⟩ = some (.int .u64 (m.rg.getD a 0)) := by
  rw [h.eng.cell]; simpa using mcL_reg h.ok.r16 _ X ha
theorem EN.c17 (h : EN w g ty X gm n cap m) : w.cell? ⟨g, 17, none⟩ = some (.int .u8 m.st) := by
  rw [h.eng.cell]; simpa using mcL_st h.ok.r16 _ X
theorem EN.c18 (h : EN w g ty X gm n cap m) : w.cell? ⟨g, 18, none⟩ = some (.slice (some ⟨gm, 0, none⟩) n cap) := by
  rw [h.eng.cell]; simpa using mcL_me h.ok.r16 _ X
theorem EN.cx (h : EN w g ty X gm n cap m) (j : Nat) : w.cell? ⟨g, 19 + j, none⟩ = X[j]? := by
  rw [h.eng.cell]; simpa using mcL_x h.ok.r16 _ X j
theorem EN.fz (h : EN w g ty X gm n cap m) (j : Nat) : w.frozen? ⟨g, j, none⟩ = false := h.eng.frozen j
theorem EN.cm (h : EN w g ty X gm n cap m) {t : Nat} (ht : t < n) : w.cell? ⟨gm, t, none⟩ = some (.int .u64 (m.me.getD t 0)) := h.mem.cell (by rw [← h.len.out]; exact ht)
theorem EN.fm (h : EN w g ty X gm n cap m) (j : Nat) : w.frozen? ⟨gm, j, none⟩ = false := h.mem.frozen j
theorem EN.lt (h : EN w g ty X gm n cap m) : g < w.heap.size := h.eng.lt
theorem EN.ltm (h : EN w g ty X gm n cap m) : gm < w.heap.size := h.mem.lt
theorem EN.below {B : Nat} (h : EN w g ty X gm n cap m) (hb : Below B w w') (hg : g < B) (hm : gm < B) : EN w' g ty X gm n cap m :=
  ⟨h.eng.below hb hg, h.mem.below hb hm, h.ne, h.len, h.small, h.cap, h.ok⟩
theorem EN.bel (h : EN w g ty X gm n cap m) (hb : Below w.heap.size w w') : EN w' g ty X gm n cap m := h.below hb h.lt h.ltm
theorem EN.block (h : EN w g ty X gm n cap m) (h1 : w'.heap[g]? = w.heap[g]?) (h2 : w'.heap[gm]? = w.heap[gm]?) : EN w' g ty X gm n cap m :=
  ⟨h1.trans h.eng, h.mem.block h2, h.ne, h.len, h.small, h.cap, h.ok⟩
theorem EN.setPc (h : EN w g ty X gm n cap m) {x : Int} (hx : U64 x) : EN (w.setCell ⟨g, 0, none⟩ (.int .u64 x)) g ty X gm n cap { m with pc := x } :=
  ⟨by have := h.eng.set 0 (.int .u64 x); rw [List.setIfInBounds_toArray, mcL_setPc] at this; exact this, h.mem.setOther _ (Ne.symm h.ne), h.ne, h.len, h.small, h.cap, ⟨hx, h.ok.r16, h.ok.rg, h.ok.st, h.ok.me⟩⟩
theorem EN.setSt (h : EN w g ty X gm n cap m) {x : Int} (hx : 0 ≤ x ∧ x < 256) : EN (w.setCell ⟨g, 17, none⟩ (.int .u8 x)) g ty X gm n cap { m with st := x } :=
  ⟨by have := h.eng.set 17 (.int .u8 x); rw [List.setIfInBounds_toArray, mcL_setSt h.ok.r16] at this; exact this, h.mem.setOther _ (Ne.symm h.ne), h.ne, h.len, h.small, h.cap, ⟨h.ok.pc, h.ok.r16, h.ok.rg, hx, h.ok.me⟩⟩
theorem EN.setReg (h : EN w g ty X gm n cap m) {a : Nat} (ha : a < 16) {x : Int} (hx : U64 x) : EN (w.setCell ⟨g, 1 + a, none⟩ (.int .u64 x)) g ty X gm n cap { m with rg := m.rg.set a x } :=
  ⟨by have := h.eng.set (1 + a) (.int .u64 x); rw [List.setIfInBounds_toArray, mcL_setReg h.ok.r16 _ _ ha] at this; exact this, h.mem.setOther _ (Ne.symm h.ne), h.ne, h.len, h.small, h.cap,
    ⟨h.ok.pc, by simpa using h.ok.r16, fun k => by rw [getD_set _ _ _ _ (by rw [h.ok.r16]; exact ha)]; split; exact hx; exact h.ok.rg k, h.ok.st, h.ok.me⟩⟩
theorem EN.setMem (h : EN w g ty X gm n cap m) {k : Nat} (hk : k < n) {x : Int} (hx : U64 x) : EN (w.setCell ⟨gm, k, none⟩ (.int .u64 x)) g ty X gm n cap { m with me := m.me.set k x } :=
  ⟨h.eng.setOther _ h.ne, h.mem.set (by rw [← h.len.out]; exact hk) x, h.ne, by show n = _; rw [List.length_set]; exact h.len.out, h.small, h.cap,
    ⟨h.ok.pc, h.ok.r16, h.ok.rg, h.ok.st, fun t => by rw [getD_set _ _ _ _ (by rw [← h.len.out]; exact hk)]; split; exact hx; exact h.ok.me t⟩⟩
end Go.Proofs.Ytnjbmffgbgbjmaa
/- Layer vm: what the layers below give. -/
namespace Go.Proofs.Ytnjbmffgbgbjmaa
open Go.RowKit
set_option maxRecDepth 100000
set_option linter.unusedVariables false
set_option linter.unusedSimpArgs false

theorem i64_and1 (n : Int) : bits .and .i64 n 1 = n % 2 := by
  have h1 : (BitVec.ofInt 64 1).toNat = 2 ^ 1 - 1 := by decide
  have key : (BitVec.ofInt 64 n &&& BitVec.ofInt 64 1).toNat = (n % ((2 ^ 64 : Nat) : Int)).toNat % 2 ^ 1 := by
    rw [BitVec.toNat_and, BitVec.toNat_ofInt, h1, Nat.and_two_pow_sub_one_eq_mod]
  show IntKind.i64.wrap ((BitVec.ofInt 64 n &&& BitVec.ofInt 64 1).toNat : Nat) = n % 2
  rw [key, IntKind.wrap_i64]
  omega
theorem xor_one (a : Nat) : a ^^^ 1 = sib a := by
  have h1 : (a ^^^ 1) / 2 = a / 2 := by rw [Nat.xor_div_two]; simp
  have h2 : (a ^^^ 1) % 2 = (a + 1) % 2 := by
    have h := Nat.xor_mod_two_pow (a := a) (b := 1) (n := 1)
    simp only [Nat.pow_one] at h
    rw [h]
    rcases Nat.mod_two_eq_zero_or_one a with e | e <;> rw [e] <;> simp <;> omega
  unfold sib
  split <;> omega
theorem i64_xor1 (a : Nat) (ha : a < 9223372036854775806) : bits .xor .i64 (a : Int) 1 = (sib a : Nat) := by
  have h1 : (BitVec.ofInt 64 (a : Int)).toNat = a := by
    rw [BitVec.ofInt_natCast, BitVec.toNat_ofNat]; exact Nat.mod_eq_of_lt (by omega)
  have h2 : (BitVec.ofInt 64 1).toNat = 1 := by decide
  show IntKind.i64.wrap ((BitVec.ofInt 64 (a : Int) ^^^ BitVec.ofInt 64 1).toNat : Int) = _
  rw [BitVec.toNat_xor, h1, h2, xor_one, IntKind.wrap_i64]
  unfold sib
  split <;> omega
theorem pow16 {d : Nat} (h : d ≤ 16) : 2 ^ d ≤ 65536 := Nat.pow_le_pow_right (n := 2) (by omega) h
theorem pow17 {d : Nat} (h : d ≤ 17) : 2 ^ d ≤ 131072 := Nat.pow_le_pow_right (n := 2) (by omega) h
theorem powc (d : Nat) : ((2 : Int) ^ d) = ((2 ^ d : Nat) : Int) := (Int.natCast_pow 2 d).symm
theorem wrap_pow {d : Nat} (h : d ≤ 16) : wrap64 ((2 : Int) ^ d) = ((2 ^ d : Nat) : Int) := by
  have := pow16 h
  rw [powc]
  generalize 2 ^ d = p at *
  unfold wrap64; omega
/-- A sum out of memory. -/
theorem ld24 {ops : Array Oper} {rest : List Oper} {o : Oper} {a : Act} {w : World} {Q : Exit → Act → World → Prop} (hgd : o.guard = none) (x : Operand) (ho : o.op = .load 31 x)
    (b off : Nat) (hx : a.eval x = .pointer (some ⟨b, off, none⟩)) (X : List Int) (hX : X.length = 32) (hc : w.rangeAt b off (by8 X))
    (h : wpList Try.prog ops Q rest (a.put o.dst (.agg (h8 X))) w) : wpList Try.prog ops Q (o :: rest) a w :=
  wpList_load_mid hgd 31 x ho b off hx (by8 X) _ hc Try.underlying31 rfl (by rw [by8_len, hX]; exact size24) h
/-- A sum into a block of its own. -/
theorem st24 {ops : Array Oper} {rest : List Oper} {o : Oper} {a : Act} {w : World} {Q : Exit → Act → World → Prop} (hgd : o.guard = none) (x y : Operand) (ho : o.op = .store 31 x y)
    (g : Nat) (X Y : List Int) (hx : a.eval x = .pointer (some ⟨g, 0, none⟩)) (hy : a.eval y = .agg (h8 X)) (hX : X.length = 32) (hY : Y.length = 32) (hg : Arr w g 31 (h8 Y))
    (h : wpList Try.prog ops Q rest (a.put o.dst undef) (w.setRow g (h8 X))) : wpList Try.prog ops Q (o :: rest) a w :=
  wpList_store_arr hgd 31 x y ho g (h8 X) hx hy 31 _ hg (s24h8 hX) (by rw [h8_size, h8_size, hX, hY]) (h8_one X) h
/-- .. into the newest block. -/
theorem st24n {ops : Array Oper} {rest : List Oper} {o : Oper} {a : Act} {Q : Exit → Act → World → Prop} (hgd : o.guard = none) (x y : Operand) (ho : o.op = .store 31 x y) (W : World) (g : Nat) (hgW : W.heap.size = g) {z : Array Value} (hz : z.size = 32)
    (X : List Int) (hx : a.eval x = .pointer (some ⟨g, 0, none⟩)) (hy : a.eval y = .agg (h8 X)) (hX : X.length = 32)
    (h : wpList Try.prog ops Q rest (a.put o.dst undef) (W.alloc (.cells (h8 X) 31))) : wpList Try.prog ops Q (o :: rest) a (W.alloc (.cells z 31)) := by
  subst hgW
  exact wpList_store_new W z 31 hgd 31 x y ho (h8 X) hx hy (s24h8 hX) (by rw [hz, h8_size, hX]) (h8_one X) h
/-- What is returned out of a block. -/
theorem res24 {f : Func} {w : World} {tmps : Array Value} {g t : Nat} {X : List Int} (hf : f.results = #[.cell t 31]) (hp : tmps.getD t undef = .pointer (some ⟨g, 0, none⟩)) (hX : X.length = 32) (hA : Arr w g 31 (h8 X)) :
    (results f tmps).run Try.prog w = .ok (.agg (h8 X)) w := results_cell_row hf _ _ g 31 _ (0, 0) _ hp hA Try.underlying31 rfl (s24h8 hX)
theorem resP {f : Func} {w : World} {tmps : Array Value} {g t k : Nat} {X : List Int} {v : Value} (hf : f.results = #[.cell t 31, .tmp k]) (hp : tmps.getD t undef = .pointer (some ⟨g, 0, none⟩)) (hk : tmps.getD k undef = v) (hX : X.length = 32) (hA : Arr w g 31 (h8 X)) :
    (results f tmps).run Try.prog w = .ok (.tuple #[.agg (h8 X), v]) w := by
  have hl := run_loadVar_mid (P := Try.prog) w g 0 31 (by8 X) _ hA.range Try.underlying31 rfl (by rw [by8_len, hX]; exact size24)
  have hp' : tmps[t]?.getD undef = .pointer (some ⟨g, 0, none⟩) := by simpa using hp
  have hk' : tmps[k]?.getD undef = v := by simpa using hk
  simp [results, hf, hp', hk', asAddr, hl, h8]
end Go.Proofs.Ytnjbmffgbgbjmaa
/- Layer vm: words of the memory. -/
namespace Go.Proofs.Ytnjbmffgbgbjmaa
open Go.RowKit
set_option maxRecDepth 100000
set_option linter.unusedVariables false
set_option linter.unusedSimpArgs false

theorem word_ok {g gm n cap k : Nat} {x : Int} (w : World) (hc : w.cell? ⟨g, 18, none⟩ = some (.slice (some ⟨gm, 0, none⟩) n cap)) (hn : n ≤ 4096) (hk : x = (k : Int)) (hlt : k < n) :
    Calls Try.prog 51 #[.pointer (some ⟨g, 0, none⟩), .int .u64 x] w fun e w' => e = .returned (.pointer (some ⟨gm, k, none⟩)) ∧ w' = w := by
  subst hk
  have h1 : ¬ (n : Int) ≤ k := by omega
  have h2 : (k : Int) < n := by omega
  go_enter Try.func51, Try.ntmps51
  go_wp2
  go_ret
  exact ⟨rfl, rfl⟩
theorem word_no {g gm n cap : Nat} {x : Int} (w : World) (hc : w.cell? ⟨g, 18, none⟩ = some (.slice (some ⟨gm, 0, none⟩) n cap)) (hn : n ≤ 4096) (hlt : (n : Int) ≤ x) :
    Calls Try.prog 51 #[.pointer (some ⟨g, 0, none⟩), .int .u64 x] w fun e w' => e = .panicked trapV ∧ w' = w := by
  go_enter Try.func51, Try.ntmps51
  go_wp2
  exact ⟨rfl, rfl, rfl⟩
theorem words_0 {g : Nat} {x y : Int} (w : World) (hy : y = 0) :
    Calls Try.prog 66 #[.pointer (some ⟨g, 0, none⟩), .int .u64 x, .int .u64 y] w fun e w' => e = .returned (.slice none 0 0) ∧ w' = w := by
  subst hy
  go_enter Try.func66, Try.ntmps66
  go_wp2
  go_ret
  exact ⟨rfl, rfl⟩
theorem words_ok {g gm n cap k c : Nat} {x y : Int} (w : World) (hc : w.cell? ⟨g, 18, none⟩ = some (.slice (some ⟨gm, 0, none⟩) n cap)) (hn : n ≤ 4096) (hcap : n ≤ cap) (hx : x = (k : Int)) (hy : y = (c : Int)) (h0 : 0 < c) (hlt : k + c ≤ n) :
    Calls Try.prog 66 #[.pointer (some ⟨g, 0, none⟩), .int .u64 x, .int .u64 y] w fun e w' => e = .returned (.slice (some ⟨gm, k, none⟩) c (cap - k)) ∧ w' = w := by
  subst hx hy
  have a1 : ((c : Int) == 0) = false := by simp; omega
  have a2 : ¬ (n : Int) < c := by omega
  have a3 : IntKind.u64.wrap ((n : Int) - c) = (n : Int) - c := wrap64_of (by omega) (by omega)
  have a4 : ¬ (n : Int) - c < k := by omega
  have a5 : IntKind.u64.wrap ((k : Int) + c) = ((k + c : Nat) : Int) := by rw [wrap64_of (by omega) (by omega)]; omega
  have a6 : ¬ cap = k := by omega
  have a7 : ((k + c : Nat) : Int) ≤ cap := by omega
  have a8 : (k : Int) ≤ ((k + c : Nat) : Int) := by omega
  have a9 : k + c - k = c := by omega
  go_enter Try.func66, Try.ntmps66
  go_wp2
  go_ret
  exact ⟨rfl, rfl⟩
theorem words_no {g gm n cap : Nat} {x y : Int} (w : World) (hc : w.cell? ⟨g, 18, none⟩ = some (.slice (some ⟨gm, 0, none⟩) n cap)) (hn : n ≤ 4096) (hx : U64 x) (hy : U64 y) (h0 : y ≠ 0) (hlt : ¬ x + y ≤ n) :
    Calls Try.prog 66 #[.pointer (some ⟨g, 0, none⟩), .int .u64 x, .int .u64 y] w fun e w' => e = .panicked trapV ∧ w' = w := by
  have h1 := hx.1
  have h2 := hx.2
  have h3 := hy.1
  have h4 := hy.2
  have a1 : (y == 0) = false := by simpa using h0
  by_cases h : (n : Int) < y
  · go_enter Try.func66, Try.ntmps66
    go_wp2
    exact ⟨rfl, rfl, rfl⟩
  · have a3 : IntKind.u64.wrap ((n : Int) - y) = (n : Int) - y := wrap64_of (by omega) (by omega)
    have a4 : (n : Int) - y < x := by omega
    go_enter Try.func66, Try.ntmps66
    go_wp2
    exact ⟨rfl, rfl, rfl⟩
theorem z32 : Z32.length = 32 := by decide
/-- The sum of four words. -/
def fmL (W : Nat → Int) : List Int := (List.range 32).map (fromB W)
theorem fmL_len (W : Nat → Int) : (fmL W).length = 32 := by simp [fmL]
theorem fmL_h8 (W : Nat → Int) : u8s 32 (fromB W) = h8 (fmL W) := by
  apply Array.ext_getElem?
  intro t
  by_cases h : t < 32
  · rw [u8s_get h, h8_get (by rw [fmL_len]; exact h)]
    simp [bat, fmL, List.getD_eq_getElem?_getD, h]
  · rw [Array.getElem?_eq_none (by rw [u8s_size]; omega), Array.getElem?_eq_none (by rw [h8_size, fmL_len]; omega)]
theorem arrayAt4 (a : Addr) (c : Nat) (w : World) : (Instr.arrayAt 109 (.slice (some a) 4 c)).run Try.prog w = .ok (.pointer (some a)) w := by
  simp [Instr.arrayAt, Sem.run_bind, run_underlying Try.underlying109]
def four (W : Nat → Int) : List Value := [.int .u64 (W 0), .int .u64 (W 1), .int .u64 (W 2), .int .u64 (W 3)]
theorem four_get (W : Nat → Int) : ∀ t, t < 4 → (four W).toArray[t]? = some (.int .u64 (W t)) := fun t ht => by
  match t, ht with
  | 0, _ => rfl
  | 1, _ => rfl
  | 2, _ => rfl
  | 3, _ => rfl
theorem four_range {w : World} {b o : Nat} {W : Nat → Int} (h : ∀ t, t < 4 → w.cell? ⟨b, o + t, none⟩ = some (.int .u64 (W t))) : w.rangeAt b o (four W) := fun j v hv => by
  have hj : j < 4 := (List.getElem?_eq_some_iff.1 hv).1
  rw [h j hj]
  have := four_get W j hj
  simp only [List.getElem?_toArray] at this
  rw [hv] at this
  exact this.symm
/-- Four words out of the memory. -/
theorem ld4 {ops : Array Oper} {rest : List Oper} {o : Oper} {a : Act} {w : World} {Q : Exit → Act → World → Prop} (hgd : o.guard = none) (x : Operand) (ho : o.op = .load 109 x)
    (b off : Nat) (hx : a.eval x = .pointer (some ⟨b, off, none⟩)) (W : Nat → Int) (hc : w.rangeAt b off (four W))
    (h : wpList Try.prog ops Q rest (a.put o.dst (.agg (four W).toArray)) w) : wpList Try.prog ops Q (o :: rest) a w :=
  wpList_load_mid hgd 109 x ho b off hx (four W) _ hc Try.underlying109 rfl size30 h
set_option maxHeartbeats 1000000 in
theorem sumAt_ok {g gm n cap k : Nat} {ty : TypeId} {X : List Value} {m : Mc} {x : Int} (w : World) (hE : EN w g ty X gm n cap m) (hx : x = (k : Int)) (hlt : k + 4 ≤ n) :
    Calls Try.prog 55 #[.pointer (some ⟨g, 0, none⟩), .int .u64 x] w fun e w' => e = .returned (.agg (h8 (fmL (fun t => m.me.getD (k + t) 0)))) ∧ Below w.heap.size w w' := by
  subst hx
  obtain ⟨W, hW⟩ : ∃ W : Nat → Int, W = fun t => m.me.getD (k + t) 0 := ⟨_, rfl⟩
  rw [← hW]
  have hE1 := fun o => hE.bel (alloc_bel' w o)
  have c18 := fun o => (hE1 o).c18
  have hf := fmL_h8 W
  have hl := fmL_len W
  have hg4 := four_get W
  have hn := hE.small
  have hcap := hE.cap.1
  have ha := arrayAt4 ⟨gm, k, none⟩ (cap - k)
  have hr : ∀ o, (w.alloc o).rangeAt gm k (four W) := fun o => four_range (fun t ht => by rw [(hE1 o).cm (by omega), hW])
  clear hE hE1 hW
  generalize fmL W = F at *
  replace hf := Hid.mk' hf
  replace hg4 := Hid.mk' hg4
  replace hl := Hid.mk' hl
  go_enter Try.func55, Try.ntmps55
  go_wp2_with (first
    | (go_at_call 66; go_must (refine (words_ok _ (c18 _) hn hcap rfl rfl (by omega) hlt).mono ?_; rintro e w1 ⟨rfl, h⟩; subst h))
    | (refine ld4 (by rfl) (.tmp 8) (by rfl) gm k (by rfl) W (hr _) ?_)
    | (go_at_call 70; go_must (refine (from_any _ W _ hg4.out).mono ?_; rintro e w2 ⟨rfl, hb2⟩; rw [hf.out]; have A2 := (Arr.new w 31 (h8 Z32)).below hb2 (by simp); have B2 := (alloc_bel' w (.cells (h8 Z32) 31)).trans (hb2.mono (by simp))))
    | (refine st24 (by rfl) (.tmp 4) (.tmp 10) (by rfl) w.heap.size F Z32 (by rfl) (by rfl) hl.out z32 A2 ?_))
  exact bodyPost_ret (v := .agg (h8 F)) (res24 Try.results55 rfl hl.out (A2.setRow _)) rfl ⟨rfl, below_setRow B2 (Nat.le_refl _) _⟩
set_option maxHeartbeats 1000000 in
theorem sumAt_no {g gm n cap : Nat} {ty : TypeId} {X : List Value} {m : Mc} {x : Int} (w : World) (hE : EN w g ty X gm n cap m) (hx : U64 x) (hlt : ¬ x + 4 ≤ n) :
    Calls Try.prog 55 #[.pointer (some ⟨g, 0, none⟩), .int .u64 x] w fun e w' => e = .panicked trapV ∧ Below w.heap.size w w' := by
  have hE1 := fun o => hE.bel (alloc_bel' w o)
  have c18 := fun o => (hE1 o).c18
  have hn := hE.small
  clear hE hE1
  go_enter Try.func55, Try.ntmps55
  go_wp2_with (go_at_call 66; go_must (refine (words_no _ (c18 _) hn hx (by unfold U64; omega) (by omega) hlt).mono ?_; rintro e w1 ⟨rfl, h⟩; subst h))
  exact ⟨rfl, rfl, alloc_bel' _ _⟩
end Go.Proofs.Ytnjbmffgbgbjmaa
