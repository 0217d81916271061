/- QZTo, QVh, QVj. -/
import Derived.Test.YtneihkegipcakaaGreatX01
import Derived.Test.YtneihkegipcakaaGreatX02
import Derived.Test.YtneihkegipcakaaGreatX03
import Derived.Test.YtneihkegipcakaaGreatX05
import Derived.Test.YtneihkegipcakaaGreatX07
import Derived.Test.YtneihkegipcakaaGreatX06
import Derived.Test.YtneihkegipcakaaGreatX08
import Derived.BigQuiet
import Derived.BigRegion
import Derived.ChangeKeysEq
import Derived.Deep.DeepCutAuto
import Derived.Deep.DrawnRows
import Derived.Deep.MidRow
import Derived.Deep.QuietTactic
import Derived.Deep.RegionHeld3
import Derived.Deep.RegionLaw
import Derived.Deep.RegionWith
import Derived.Deep.WholeRow
import Derived.DeepKeys3
import Derived.Great.BuildSlice
import Derived.Laws.AppendOwnNone
import Derived.Laws.BitsLemmas
import Derived.Laws.BytesArg
import Derived.Laws.CopyOwn
import Derived.Laws.ResultCell
import Derived.Laws.Tables
import Derived.Lib.SlBytesConst
import Derived.LoopIn
import Derived.LoopNIn
import Derived.Maps.AppendAt
import Derived.OwnWalkIn
import Derived.RangeFuncBound
import Derived.RangeFuncCalls
import Derived.RangeFuncLeaves
import Derived.RangeFuncNested
import Derived.RangeFuncRecord
import Derived.Shelf.Abstract
import Derived.Shelf.RegionOpen
import Derived.TacticsInMore
import Derived.WalkKit
import Derived.WalkLawsBesides
import Derived.WalkSpells
import Derived.Test.YtneihkegipcakaaGreatX04
/- Layer trace: what the layers below give. -/
namespace Go.Proofs.YtneihkegipcakaaGreat
open Go.RowKit
set_option maxRecDepth 100000
set_option linter.unusedVariables false
set_option linter.unusedSimpArgs false

/-- Word j of a sum, of its first m bytes. -/
def wacc (H : Nat → Int) (j : Nat) : Nat → Int
  | 0 => 0
  | m + 1 => wacc H j m * 256 + H (8 * j + m)
/-- .. behind k bytes in all. -/
def wpart (H : Nat → Int) (k j : Nat) : Int := wacc H j (min (k - 8 * j) 8)
def u64s (n : Nat) (f : Nat → Int) : Array Value := arr n fun t => .int .u64 (f t)
theorem u64s_size (n : Nat) (f : Nat → Int) : (u64s n f).size = n := arr_size _ _
theorem u64s_get {n : Nat} {f : Nat → Int} {t : Nat} (h : t < n) : (u64s n f)[t]? = some (.int .u64 (f t)) := arr_get h
theorem u64s_one (n : Nat) (f : Nat → Int) : (u64s n f).all (·.oneCell') = true := one_ints (u64s_size n f) (fun _ h => u64s_get h)
theorem size30 : (Tryz.prog.info? 138).map (·.size) = some 4 := by kernel_rfl
theorem s30u (f : Nat → Int) : (Tryz.prog.info? 138).map (·.size) = some (u64s 4 f).size := by rw [u64s_size]; exact size30
def wordsOf (H : Nat → Int) : Array Value := u64s 4 fun j => wacc H j 8
theorem wacc_range {H : Nat → Int} (hH : ∀ t, t < 32 → 0 ≤ H t ∧ H t ≤ 255) {j : Nat} (hj : j < 4) : ∀ m, m ≤ 8 → 0 ≤ wacc H j m ∧ wacc H j m < 256 ^ m
  | 0, _ => by simp [wacc]
  | m + 1, h => by
    have ih := wacc_range hH hj m (by omega)
    have hb := hH (8 * j + m) (by omega)
    have e : (256 : Int) ^ (m + 1) = 256 ^ m * 256 := by rw [Int.pow_succ]
    simp only [wacc, e]; omega
theorem or8 (x b : Int) (hx : 0 ≤ x) (hx2 : x < 72057594037927936) (hb : 0 ≤ b) (hb2 : b ≤ 255) : bits .or .u64 (x * 256) b = x * 256 + b := by
  obtain ⟨k, rfl⟩ : ∃ k : Nat, x = k := ⟨x.toNat, by omega⟩
  obtain ⟨j, rfl⟩ : ∃ j : Nat, b = j := ⟨b.toNat, by omega⟩
  have h1 : (BitVec.ofInt 64 ((k : Int) * 256)).toNat = k * 256 := by
    rw [show ((k : Int) * 256) = ((k * 256 : Nat) : Int) by omega, BitVec.ofInt_natCast, BitVec.toNat_ofNat]; omega
  have h2 : (BitVec.ofInt 64 (j : Int)).toNat = j := by
    rw [BitVec.ofInt_natCast, BitVec.toNat_ofNat]; omega
  have h3 : k * 256 ||| j = k * 256 + j := by
    have := Nat.two_pow_add_eq_or_of_lt (i := 8) (b := j) (by omega) k
    rw [Nat.mul_comm] at this; exact this.symm
  show IntKind.u64.wrap ((BitVec.ofInt 64 ((k : Int) * 256) ||| BitVec.ofInt 64 (j : Int)).toNat : Int) = _
  rw [BitVec.toNat_or, h1, h2, h3]
  simp only [IntKind.wrap, IntKind.bits, IntKind.signed]
  simp; omega
theorem words_val {H : Nat → Int} (hH : ∀ t, t < 32 → 0 ≤ H t ∧ H t ≤ 255) {k : Nat} (hk : k < 32) :
    bits .or .u64 (IntKind.u64.wrap (wpart H k (k / 8) * 256)) (IntKind.u64.wrap (H k)) = wpart H (k + 1) (k / 8) := by
  have e1 : wpart H k (k / 8) = wacc H (k / 8) (k % 8) := by unfold wpart; congr 1; omega
  have e2 : wpart H (k + 1) (k / 8) = wacc H (k / 8) (k % 8 + 1) := by unfold wpart; congr 1; omega
  have e3 : 8 * (k / 8) + k % 8 = k := by omega
  have hr := wacc_range hH (show k / 8 < 4 by omega) (k % 8) (by omega)
  have hp : (256 : Int) ^ (k % 8) ≤ 72057594037927936 := by
    have : k % 8 < 8 := Nat.mod_lt _ (by omega)
    generalize k % 8 = m at this
    match m, this with
    | 0, _ => decide
    | 1, _ => decide
    | 2, _ => decide
    | 3, _ => decide
    | 4, _ => decide
    | 5, _ => decide
    | 6, _ => decide
    | 7, _ => decide
  have hb := hH k hk
  rw [e1, e2, wacc, e3, wrap64_of (by omega) (by omega), wrap64_of (by omega) (by omega), or8 _ _ (by omega) (by omega) hb.1 hb.2]
theorem words_other {H : Nat → Int} {k j : Nat} (h : j ≠ k / 8) : wpart H (k + 1) j = wpart H k j := by
  unfold wpart; congr 1; omega
theorem words_step {C : Array Value} {H : Nat → Int} {k : Nat} (hH : ∀ t, t < 32 → 0 ≤ H t ∧ H t ≤ 255) (hk : k < 32) (hs : C.size = 4) (h : ∀ j, j < 4 → C[j]? = some (.int .u64 (wpart H k j))) (v : Value) :
    ∀ j, j < 4 → ((C.setIfInBounds (k / 8) v).setIfInBounds (k / 8) (.int .u64 (bits .or .u64 (IntKind.u64.wrap (wpart H k (k / 8) * 256)) (IntKind.u64.wrap (H k)))))[j]? = some (.int .u64 (wpart H (k + 1) j)) := by
  intro j hj
  rw [words_val hH hk, Array.getElem?_setIfInBounds]
  by_cases e : k / 8 = j
  · subst e; simp [hs, hj]
  · rw [if_neg e, Array.getElem?_setIfInBounds, if_neg e, h j hj, words_other (Ne.symm e)]
set_option maxHeartbeats 1000000 in
theorem words_any (C0 : Array Value) (H : Nat → Int) (w : World) (hs : C0.size = 32) (hC0 : ∀ t, t < 32 → C0[t]? = some (.int .u8 (H t))) (hH : ∀ t, t < 32 → 0 ≤ H t ∧ H t ≤ 255) :
    Calls Tryz.prog 123 #[.agg C0] w fun e w' => e = .returned (.agg (wordsOf H)) ∧ Below w.heap.size w w' := by
  have s24 : (Tryz.prog.info? 40).map (·.size) = some C0.size := by rw [hs]; exact size24
  have hA0 : ∀ o1 o2, Arr (((w.alloc (.cells C0 40)).alloc o1).alloc o2) w.heap.size 40 C0 := fun o1 o2 => ((Arr.new w 40 C0).alloc o1).alloc o2
  go_enter Tryz.func123, Tryz.ntmps123
  go_wp2_with (refine wpList_load_row (by rfl) 40 (.tmp 1) (by rfl) w.heap.size (by rfl) 40 C0 (0, 0) _ (hA0 _ _) Tryz.underlying40 rfl s24 ?_)
  go_loopw [7] (fun i wr => ∃ (k : Nat) (C Z : Array Value), k ≤ 32 ∧ i = .int .i64 k ∧ Arr wr (w.heap.size + 1) 138 Z ∧ Z.size = 4 ∧ Arr wr (w.heap.size + 1 + 1) 138 C ∧ C.size = 4 ∧ (∀ j, j < 4 → C[j]? = some (.int .u64 (wpart H k j))) ∧ Below w.heap.size w wr)
    (fun i _ => 32 - (intOf i).toNat)
  case atStart => exact ⟨0, _, _, by omega, rfl, by simpa using (Arr.new (w.alloc _) 138 _).alloc _, rfl, by simpa using Arr.new ((w.alloc _).alloc _) 138 _, rfl, fun j hj => by (match j, hj with | 0, _ => rfl | 1, _ => rfl | 2, _ => rfl | 3, _ => rfl), (((Below.refl _ _).alloc (by simp) _).alloc (by simp) _).alloc (by simp; omega) _⟩
  case round =>
    clear hA0
    obtain ⟨k, C, Z, hk, rfl, hZ, hZs, hC, hCs, hw, hbl⟩ := hrel
    have HW := Hid.mk' hw
    clear hw
    by_cases hlt : k < 32
    · have h3 : (k : Int) < 32 := by omega
      have h4 : (0 : Int) ≤ k := by omega
      have hix := index24 C0 H hC0 k hlt
      have c0 : wr.cell? ⟨w.heap.size + 1 + 1, k / 8, none⟩ = some (.int .u64 (wpart H k (k / 8))) := (hC.cell _).trans (HW.out _ (by omega))
      have f0 := hC.frozen (k / 8)
      go_wp2
      go_roundw
      case rel =>
        exact ⟨k + 1, _, Z, by omega, by go_num, (hZ.setOther _ (by simp)).setOther _ (by simp), hZs, (hC.set _ _).set _ _, by simp [hCs], words_step hH hlt hCs HW.out _, (hbl.setCell (by simp; omega) _).setCell (by simp; omega) _⟩
      case measure => simp [intOf]; omega
    · obtain rfl : k = 32 := by omega
      have hCe : C = wordsOf H := arr_eq hCs (fun j hj => by rw [HW.out j hj]; unfold wpart; rw [show min (32 - 8 * j) 8 = 8 by omega])
      subst hCe
      go_wp2_with (first
        | (refine wpList_load_row (by rfl) 138 (.tmp 3) (by rfl) (w.heap.size + 1 + 1) (by rfl) 138 (wordsOf H) (0, 0) _ hC Tryz.underlying138 rfl (s30u _) ?_)
        | (refine wpList_store_arr (by rfl) 138 (.tmp 2) (.tmp 26) (by rfl) (w.heap.size + 1) (wordsOf H) (by rfl) (by rfl) 138 _ hZ (s30u _) (by rw [hZs]; exact (u64s_size _ _).symm) (u64s_one _ _) ?_))
      exact bodyPost_ret (v := .agg (wordsOf H)) (results_cell_row Tryz.results123 _ _ (w.heap.size + 1) 138 _ (0, 0) _ rfl (hZ.setRow _) Tryz.underlying138 rfl (s30u _)) rfl ⟨rfl, below_setRow hbl (by omega) _⟩
/-- Byte t of the sum of four words. -/
def fromB (W : Nat → Int) (t : Nat) : Int := W (t / 8) / 2 ^ (56 - 8 * (t % 8)) % 256
set_option maxHeartbeats 1000000 in
theorem from_any (C0 : Array Value) (W : Nat → Int) (w : World) (hC0 : ∀ t, t < 4 → C0[t]? = some (.int .u64 (W t))) :
    Calls Tryz.prog 149 #[.agg C0] w fun e w' => e = .returned (.agg (u8s 32 (fromB W))) ∧ Below w.heap.size w w' := by
  go_enter Tryz.func149, Tryz.ntmps149
  go_wp2
  go_loopw [5] (fun i wr => ∃ (k : Nat) (C Z : Array Value), k ≤ 32 ∧ i = .int .i64 k ∧ Arr wr w.heap.size 138 C0 ∧ Arr wr (w.heap.size + 1) 40 Z ∧ Z.size = 32 ∧ Arr wr (w.heap.size + 1 + 1) 40 C ∧ C.size = 32 ∧ (∀ t, t < k → C[t]? = some (.int .u8 (fromB W t))) ∧ Below w.heap.size w wr)
    (fun i _ => 32 - (intOf i).toNat)
  case atStart => exact ⟨0, _, _, by omega, rfl, ((Arr.new w 138 C0).alloc _).alloc _, by simpa using (Arr.new (w.alloc _) 40 _).alloc _, rfl, by simpa using Arr.new ((w.alloc _).alloc _) 40 _, rfl, fun j hj => by omega, (((Below.refl _ _).alloc (by simp) _).alloc (by simp) _).alloc (by simp; omega) _⟩
  case round =>
    obtain ⟨k, C, Z, hk, rfl, hX, hZ, hZs, hC, hCs, hw, hbl⟩ := hrel
    have HW := Hid.mk' hw
    clear hw
    by_cases hlt : k < 32
    · have h3 : (k : Int) < 32 := by omega
      have h4 : (0 : Int) ≤ k := by omega
      have c0 : wr.cell? ⟨w.heap.size, k / 8, none⟩ = some (.int .u64 (W (k / 8))) := (hX.cell _).trans (hC0 _ (by omega))
      obtain ⟨v1, c1⟩ := hC.got (j := k) (by omega)
      have f0 := hC.frozen k
      go_wp2
      go_roundw
      case rel =>
        have q := set_step (f := fun t => .int .u8 (fromB W t)) hCs (by omega) HW.out
        exact ⟨k + 1, _, Z, by omega, by go_num, hX.setOther _ (by simp; omega), hZ.setOther _ (by simp), hZs, hC.set _ _, by simp [hCs], q, hbl.setCell (by simp; omega) _⟩
      case measure => simp [intOf]; omega
    · obtain rfl : k = 32 := by omega
      have hCe : C = u8s 32 (fromB W) := arr_eq hCs HW.out
      subst hCe
      go_wp2_with (first
        | (refine wpList_load_row (by rfl) 40 (.tmp 3) (by rfl) (w.heap.size + 1 + 1) (by rfl) 40 (u8s 32 (fromB W)) (0, 0) _ hC Tryz.underlying40 rfl (s24u8 _) ?_)
        | (refine wpList_store_arr (by rfl) 40 (.tmp 2) (.tmp 21) (by rfl) (w.heap.size + 1) (u8s 32 (fromB W)) (by rfl) (by rfl) 40 _ hZ (s24u8 _) (by rw [hZs]; exact (u8s_size _ _).symm) (u8s_one _ _) ?_))
      exact bodyPost_ret (v := .agg (u8s 32 (fromB W))) (results_cell_row Tryz.results149 _ _ (w.heap.size + 1) 40 _ (0, 0) _ rfl (hZ.setRow _) Tryz.underlying40 rfl (s24u8 _)) rfl ⟨rfl, below_setRow hbl (by omega) _⟩
end Go.Proofs.YtneihkegipcakaaGreat
/- Layer trace: what the layers below give. -/
namespace Go.Proofs.YtneihkegipcakaaGreat
open Go.RowKit
set_option maxRecDepth 100000
set_option linter.unusedVariables false
set_option linter.unusedSimpArgs false

theorem word_ok {g gm n cap k : Nat} {x : Int} (w : World) (hc : w.cell? ⟨g, 18, none⟩ = some (.slice (some ⟨gm, 0, none⟩) n cap)) (hn : n ≤ 4096) (hk : x = (k : Int)) (hlt : k < n) :
    Calls Tryz.prog 132 #[.pointer (some ⟨g, 0, none⟩), .int .u64 x] w fun e w' => e = .returned (.pointer (some ⟨gm, k, none⟩)) ∧ w' = w := by
  subst hk
  have h1 : ¬ (n : Int) ≤ k := by omega
  have h2 : (k : Int) < n := by omega
  go_enter Tryz.func132, Tryz.ntmps132
  go_wp2
  go_ret
  exact ⟨rfl, rfl⟩
theorem word_no {g gm n cap : Nat} {x : Int} (w : World) (hc : w.cell? ⟨g, 18, none⟩ = some (.slice (some ⟨gm, 0, none⟩) n cap)) (hn : n ≤ 4096) (hlt : (n : Int) ≤ x) :
    Calls Tryz.prog 132 #[.pointer (some ⟨g, 0, none⟩), .int .u64 x] w fun e w' => e = .panicked trapV ∧ w' = w := by
  go_enter Tryz.func132, Tryz.ntmps132
  go_wp2
  exact ⟨rfl, rfl, rfl⟩
theorem words_0 {g : Nat} {x y : Int} (w : World) (hy : y = 0) :
    Calls Tryz.prog 151 #[.pointer (some ⟨g, 0, none⟩), .int .u64 x, .int .u64 y] w fun e w' => e = .returned (.slice none 0 0) ∧ w' = w := by
  subst hy
  go_enter Tryz.func151, Tryz.ntmps151
  go_wp2
  go_ret
  exact ⟨rfl, rfl⟩
theorem words_ok {g gm n cap k c : Nat} {x y : Int} (w : World) (hc : w.cell? ⟨g, 18, none⟩ = some (.slice (some ⟨gm, 0, none⟩) n cap)) (hn : n ≤ 4096) (hcap : n ≤ cap) (hx : x = (k : Int)) (hy : y = (c : Int)) (h0 : 0 < c) (hlt : k + c ≤ n) :
    Calls Tryz.prog 151 #[.pointer (some ⟨g, 0, none⟩), .int .u64 x, .int .u64 y] w fun e w' => e = .returned (.slice (some ⟨gm, k, none⟩) c (cap - k)) ∧ w' = w := by
  subst hx hy
  have a1 : ((c : Int) == 0) = false := by simp; omega
  have a2 : ¬ (n : Int) < c := by omega
  have a3 : IntKind.u64.wrap ((n : Int) - c) = (n : Int) - c := wrap64_of (by omega) (by omega)
  have a4 : ¬ (n : Int) - c < k := by omega
  have a5 : IntKind.u64.wrap ((k : Int) + c) = ((k + c : Nat) : Int) := by rw [wrap64_of (by omega) (by omega)]; omega
  have a6 : ¬ cap = k := by omega
  have a7 : ((k + c : Nat) : Int) ≤ cap := by omega
  have a8 : (k : Int) ≤ ((k + c : Nat) : Int) := by omega
  have a9 : k + c - k = c := by omega
  go_enter Tryz.func151, Tryz.ntmps151
  go_wp2
  go_ret
  exact ⟨rfl, rfl⟩
theorem words_no {g gm n cap : Nat} {x y : Int} (w : World) (hc : w.cell? ⟨g, 18, none⟩ = some (.slice (some ⟨gm, 0, none⟩) n cap)) (hn : n ≤ 4096) (hx : U64 x) (hy : U64 y) (h0 : y ≠ 0) (hlt : ¬ x + y ≤ n) :
    Calls Tryz.prog 151 #[.pointer (some ⟨g, 0, none⟩), .int .u64 x, .int .u64 y] w fun e w' => e = .panicked trapV ∧ w' = w := by
  have h1 := hx.1
  have h2 := hx.2
  have h3 := hy.1
  have h4 := hy.2
  have a1 : (y == 0) = false := by simpa using h0
  by_cases h : (n : Int) < y
  · go_enter Tryz.func151, Tryz.ntmps151
    go_wp2
    exact ⟨rfl, rfl, rfl⟩
  · have a3 : IntKind.u64.wrap ((n : Int) - y) = (n : Int) - y := wrap64_of (by omega) (by omega)
    have a4 : (n : Int) - y < x := by omega
    go_enter Tryz.func151, Tryz.ntmps151
    go_wp2
    exact ⟨rfl, rfl, rfl⟩
theorem z32 : Z32.length = 32 := by decide
/-- The sum of four words. -/
def fmL (W : Nat → Int) : List Int := (List.range 32).map (fromB W)
theorem fmL_len (W : Nat → Int) : (fmL W).length = 32 := by simp [fmL]
theorem fmL_h8 (W : Nat → Int) : u8s 32 (fromB W) = h8 (fmL W) := by
  apply Array.ext_getElem?
  intro t
  by_cases h : t < 32
  · rw [u8s_get h, h8_get (by rw [fmL_len]; exact h)]
    simp [bat, fmL, List.getD_eq_getElem?_getD, h]
  · rw [Array.getElem?_eq_none (by rw [u8s_size]; omega), Array.getElem?_eq_none (by rw [h8_size, fmL_len]; omega)]
theorem arrayAt4 (a : Addr) (c : Nat) (w : World) : (Instr.arrayAt 138 (.slice (some a) 4 c)).run Tryz.prog w = .ok (.pointer (some a)) w := by
  simp [Instr.arrayAt, Sem.run_bind, run_underlying Tryz.underlying138]
def four (W : Nat → Int) : List Value := [.int .u64 (W 0), .int .u64 (W 1), .int .u64 (W 2), .int .u64 (W 3)]
theorem four_get (W : Nat → Int) : ∀ t, t < 4 → (four W).toArray[t]? = some (.int .u64 (W t)) := fun t ht => by
  match t, ht with
  | 0, _ => rfl
  | 1, _ => rfl
  | 2, _ => rfl
  | 3, _ => rfl
theorem four_range {w : World} {b o : Nat} {W : Nat → Int} (h : ∀ t, t < 4 → w.cell? ⟨b, o + t, none⟩ = some (.int .u64 (W t))) : w.rangeAt b o (four W) := fun j v hv => by
  have hj : j < 4 := (List.getElem?_eq_some_iff.1 hv).1
  rw [h j hj]
  have := four_get W j hj
  simp only [List.getElem?_toArray] at this
  rw [hv] at this
  exact this.symm
/-- Four words out of the memory. -/
theorem ld4 {ops : Array Oper} {rest : List Oper} {o : Oper} {a : Act} {w : World} {Q : Exit → Act → World → Prop} (hgd : o.guard = none) (x : Operand) (ho : o.op = .load 138 x)
    (b off : Nat) (hx : a.eval x = .pointer (some ⟨b, off, none⟩)) (W : Nat → Int) (hc : w.rangeAt b off (four W))
    (h : wpList Tryz.prog ops Q rest (a.put o.dst (.agg (four W).toArray)) w) : wpList Tryz.prog ops Q (o :: rest) a w :=
  wpList_load_mid hgd 138 x ho b off hx (four W) _ hc Tryz.underlying138 rfl size30 h
set_option maxHeartbeats 1000000 in
theorem sumAt_ok {g gm n cap k : Nat} {ty : TypeId} {X : List Value} {m : Mc} {x : Int} (w : World) (hE : EN w g ty X gm n cap m) (hx : x = (k : Int)) (hlt : k + 4 ≤ n) :
    Calls Tryz.prog 136 #[.pointer (some ⟨g, 0, none⟩), .int .u64 x] w fun e w' => e = .returned (.agg (h8 (fmL (fun t => m.me.getD (k + t) 0)))) ∧ Below w.heap.size w w' := by
  subst hx
  obtain ⟨W, hW⟩ : ∃ W : Nat → Int, W = fun t => m.me.getD (k + t) 0 := ⟨_, rfl⟩
  rw [← hW]
  have hE1 := fun o => hE.bel (alloc_bel' w o)
  have c18 := fun o => (hE1 o).c18
  have hf := fmL_h8 W
  have hl := fmL_len W
  have hg4 := four_get W
  have hn := hE.small
  have hcap := hE.cap.1
  have ha := arrayAt4 ⟨gm, k, none⟩ (cap - k)
  have hr : ∀ o, (w.alloc o).rangeAt gm k (four W) := fun o => four_range (fun t ht => by rw [(hE1 o).cm (by omega), hW])
  clear hE hE1 hW
  generalize fmL W = F at *
  replace hf := Hid.mk' hf
  replace hg4 := Hid.mk' hg4
  replace hl := Hid.mk' hl
  go_enter Tryz.func136, Tryz.ntmps136
  go_wp2_with (first
    | (go_at_call 151; go_must (refine (words_ok _ (c18 _) hn hcap rfl rfl (by omega) hlt).mono ?_; rintro e w1 ⟨rfl, h⟩; subst h))
    | (refine ld4 (by rfl) (.tmp 8) (by rfl) gm k (by rfl) W (hr _) ?_)
    | (go_at_call 149; go_must (refine (from_any _ W _ hg4.out).mono ?_; rintro e w2 ⟨rfl, hb2⟩; rw [hf.out]; have A2 := (Arr.new w 40 (h8 Z32)).below hb2 (by simp); have B2 := (alloc_bel' w (.cells (h8 Z32) 40)).trans (hb2.mono (by simp))))
    | (refine st24 (by rfl) (.tmp 4) (.tmp 10) (by rfl) w.heap.size F Z32 (by rfl) (by rfl) hl.out z32 A2 ?_))
  exact bodyPost_ret (v := .agg (h8 F)) (res24 Tryz.results136 rfl hl.out (A2.setRow _)) rfl ⟨rfl, below_setRow B2 (Nat.le_refl _) _⟩
set_option maxHeartbeats 1000000 in
theorem sumAt_no {g gm n cap : Nat} {ty : TypeId} {X : List Value} {m : Mc} {x : Int} (w : World) (hE : EN w g ty X gm n cap m) (hx : U64 x) (hlt : ¬ x + 4 ≤ n) :
    Calls Tryz.prog 136 #[.pointer (some ⟨g, 0, none⟩), .int .u64 x] w fun e w' => e = .panicked trapV ∧ Below w.heap.size w w' := by
  have hE1 := fun o => hE.bel (alloc_bel' w o)
  have c18 := fun o => (hE1 o).c18
  have hn := hE.small
  clear hE hE1
  go_enter Tryz.func136, Tryz.ntmps136
  go_wp2_with (go_at_call 151; go_must (refine (words_no _ (c18 _) hn hx (by unfold U64; omega) (by omega) hlt).mono ?_; rintro e w1 ⟨rfl, h⟩; subst h))
  exact ⟨rfl, rfl, alloc_bel' _ _⟩
end Go.Proofs.YtneihkegipcakaaGreat
/- Layer trace: what the layers below give. -/
namespace Go.Proofs.YtneihkegipcakaaGreat
open Go.RowKit
set_option maxRecDepth 100000
set_option linter.unusedVariables false
set_option linter.unusedSimpArgs false

/-- The byte ahead. -/
def mkL (i : Int) : Option (List Int) := if i = 0 then some [] else if 256 ≤ i ∧ i ≤ 511 then some [i - 256] else none
set_option maxHeartbeats 400000 in
theorem mark_ok {i : Int} {L : List Int} (w : World) (hi : 0 ≤ i ∧ i < 4294967296) (hL : mkL i = some L) :
    Calls Tryz.prog 152 #[.int .u32 i] w fun e w' => ∃ v, e = .returned v ∧ w'.ownsRow w.heap.size 5 1 v L.length (by8 L) ∧ Below w.heap.size w w' := by
  unfold mkL at hL
  by_cases h0 : i = 0
  · rw [if_pos h0] at hL
    cases hL
    subst h0
    go_enter Tryz.func152, Tryz.ntmps152
    go_wp2
    go_ret
    exact ⟨_, rfl, World.ownsRow_nil _ _ _ _, Below.refl _ _⟩
  · rw [if_neg h0] at hL
    by_cases h1 : 256 ≤ i ∧ i ≤ 511
    · rw [if_pos h1] at hL
      cases hL
      have a1 : (i == 0) = false := by simpa using h0
      have a2 : ¬ i < 256 := by omega
      have a3 : ¬ 511 < i := by omega
      have a4 : IntKind.u8.wrap (i - 256) = i - 256 := wrap8_of (by omega) (by omega)
      have a5 : IntKind.u32.wrap (i - 256) = i - 256 := by rw [w32]; omega
      clear h1 h0 hi
      have hlit : (w.alloc (.cells #[.int .u8 (i - 256)] 5)).ownsRow w.heap.size 5 1 (.slice (some ⟨w.heap.size, 0, none⟩) 1 1) 1 (by8 [i - 256]) := World.ownsRow_lit _ _ _ (Nat.le_refl _) (by unfold maxLen; omega) rfl
      go_enter Tryz.func152, Tryz.ntmps152
      go_wp2
      go_ret
      exact ⟨_, rfl, hlit, alloc_bel' _ _⟩
    · rw [if_neg h1] at hL
      cases hL
set_option maxHeartbeats 400000 in
theorem mark_no {i : Int} (w : World) (hi : 0 ≤ i ∧ i < 4294967296) (hL : mkL i = none) :
    Calls Tryz.prog 152 #[.int .u32 i] w fun e w' => e = .panicked trapV ∧ w' = w := by
  unfold mkL at hL
  by_cases h0 : i = 0
  · rw [if_pos h0] at hL
    cases hL
  · rw [if_neg h0] at hL
    by_cases h1 : 256 ≤ i ∧ i ≤ 511
    · rw [if_pos h1] at hL
      cases hL
    · have a1 : (i == 0) = false := by simpa using h0
      by_cases h2 : i < 256
      · go_enter Tryz.func152, Tryz.ntmps152
        go_wp2
        exact ⟨rfl, rfl, rfl⟩
      · have h3 : 511 < i := by omega
        go_enter Tryz.func152, Tryz.ntmps152
        go_wp2
        exact ⟨rfl, rfl, rfl⟩
/-- The first bytes of words. -/
def fbL (W : Nat → Int) (s : Nat) : List Int := (List.range s).map (fromB W)
theorem fbL_len (W : Nat → Int) (s : Nat) : (fbL W s).length = s := by simp [fbL]
theorem fbL_succ (W : Nat → Int) (s : Nat) : fbL W s ++ [fromB W s] = fbL W (s + 1) := by simp [fbL, List.range_succ]
theorem fbL_bts (W : Nat → Int) (s : Nat) : Bts (fbL W s) := by
  intro x hx
  simp only [fbL, List.mem_map] at hx
  obtain ⟨t, -, rfl⟩ := hx
  unfold fromB
  omega
set_option maxHeartbeats 1000000 in
theorem firstBytes_any {sp : Option Addr} {c cap s : Nat} {y : Int} {W : Nat → Int} (w : World) (hy : y = (s : Int)) (hs : s ≤ 128) (hW : ∀ t, U64 (W t)) (hc : s ≤ 8 * c) (hcc : c ≤ cap) (hb : c ≤ 4096)
    (hw : 0 < c → ∃ gm k, sp = some ⟨gm, k, none⟩ ∧ gm < w.heap.size ∧ ∀ t, t < c → w.cell? ⟨gm, k + t, none⟩ = some (.int .u64 (W t))) :
    Calls Tryz.prog 153 #[.slice sp c cap, .int .u64 y] w fun e w' => ∃ v, e = .returned v ∧ w'.ownsRow w.heap.size 5 1 v s (by8 (fbL W s)) ∧ Below w.heap.size w w' := by
  subst hy
  obtain ⟨i0, hi, hz0, hz1, hz2⟩ := info_parts info5
  go_enter Tryz.func153, Tryz.ntmps153
  go_wp2_with (at_make; go_must (refine wpList_make_own _ (by rfl) (.const (.int .i64 0)) (.tmp 7) 50 (by rfl) w.heap.size 5 i0 (.int .u8 0) 1 Tryz.underlying50 hi hz0 hz1 .i64 .u64 _ s (by rfl) (by rfl) (by omega) (by rw [hz2]; omega) (Nat.le_trans (by omega) maxLen_ge) (Nat.le_refl _) ?_; intro w1 hown1 hg1))
  have hB1 : Below w.heap.size w w1 := (Below.refl _ _).grown hg1 (Nat.le_refl _) (fun k e => by cases e)
  go_loopw [5, 10] (fun v q wr => ∃ (k : Nat), q = .int .u64 (k : Int) ∧ k ≤ s ∧ wr.ownsRow w.heap.size 5 1 v k (by8 (fbL W k)) ∧ Below w.heap.size w wr)
    (fun _ q _ => s - (intOf q).toNat)
  case atStart => exact ⟨0, rfl, by omega, hown1, hB1⟩
  case round =>
    clear hown1 hB1 hg1
    obtain ⟨k, rfl, hk, hown, hbl⟩ := hrel
    by_cases hlt : k < s
    · have hI : (k : Int) < s := by omega
      obtain ⟨gm, o, rfl, hgl, hcell⟩ := hw (by omega)
      have hcl : wr.cell? ⟨gm, o + k / 8, none⟩ = some (.int .u64 (W (k / 8))) := (hbl.cell (p := ⟨gm, o + k / 8, none⟩) hgl).trans (hcell (k / 8) (by omega))
      have hki : ((k : Int) / 8) < c := by omega
      have hkn : ((k : Int) / 8).toNat = k / 8 := by omega
      have hU := hW (k / 8)
      have hU1 := hU.1
      have hU2 := hU.2
      have m8 : (k : Int) % 8 < 8 := by omega
      have m0 : 0 ≤ (k : Int) % 8 := by omega
      have e2 : (56 - 8 * ((k : Int) % 8)).toNat = 56 - 8 * (k % 8) := by omega
      go_upto_region 6 with (at_builtin; go_must (refine append_bytes (by rfl) (.tmp 13) (.tmp 25) (by rfl) w.heap.size _ k (fbL W k) (by rfl) (hown.alloc _) (some ⟨wr.heap.size, 0, none⟩) 1 1 [fromB W k] (by rfl) (by rfl) (fun h => by cases h) (Arr.sl (Arr.new wr 5 _)) (by omega) (by have := hbl.size; simp; omega) ?_; intro v3 w3 hown3 hg3))
      have hB3 : Below w.heap.size w w3 := (hbl.alloc hbl.size _).grown hg3 (by have := hbl.size; simp; omega) (fun k e => own_ge hown k e)
      go_wp2_with fail
      go_roundw
      case rel => exact ⟨k + 1, by go_num, by omega, by rw [← fbL_succ]; exact hown3, hB3⟩
      case measure => simp [intOf]; omega
    · obtain rfl : k = s := by omega
      go_wp2_with fail
      go_ret
      exact ⟨_, rfl, hown, hbl⟩
end Go.Proofs.YtneihkegipcakaaGreat
