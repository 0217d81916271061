/- Layer interp: what the layers below give. -/
import Derived.Test.YtmljihggooaboaaX15
import Derived.Test.YtmljihggooaboaaX01
import Derived.Test.YtmljihggooaboaaX16
import Derived.Test.YtmljihggooaboaaX17
import Derived.Test.YtmljihggooaboaaX18
import Derived.BigQuiet
import Derived.BigRegion
import Derived.Deep.DrawnRows
import Derived.Deep.QuietTactic
import Derived.Deep.RegionHeld3
import Derived.Deep.WholeRow
import Derived.Laws.CopyOwn
import Derived.WalkKit
import Derived.WalkLawsBesides
import Derived.WalkSpells
namespace Go.Proofs.Ytmljihggooaboaa
open Go.RowKit
set_option maxRecDepth 100000
set_option linter.unusedVariables false
set_option linter.unusedSimpArgs false

set_option maxRecDepth 100000 in
set_option maxHeartbeats 1000000 in
theorem kays_any (w : World) :
    Calls Try.prog 31 #[] w fun e w' => e = .returned (.agg kCells) ∧ Below w.heap.size w w' := by
  have s46 : (Try.prog.info? 98).map (·.size) = some kCells.size := by rw [kCells_size]; exact size46
  have o46 := one_ints kCells_size kCells_get
  go_enter Try.func31, Try.ntmps31
  go_wp2_with ((refine wpList_store_new w _ 98 (by rfl) 98 (.tmp 0) (.tmp 1) (by rfl) kCells (by rfl) (by rfl) s46 (Eq.trans (by rfl) kCells_size.symm) o46 ?_))
  exact bodyPost_ret (v := .agg kCells) (results_cell_row Try.results31 _ _ w.heap.size 98 _ (0, 0) _ rfl (Arr.new w 98 kCells) Try.underlying98 rfl s46) rfl ⟨rfl, (Below.refl _ _).alloc (Nat.le_refl _) _⟩
set_option maxRecDepth 100000 in
set_option maxHeartbeats 400000 in
theorem turn_any (x n : Int) (w : World) (h0 : 0 ≤ n) (h1 : n ≤ 31) :
    Calls Try.prog 32 #[.int .u32 x, .int .u64 n] w fun e w' => e = .returned (.int .u32 (rotr x n.toNat)) ∧ w' = w := by
  have e : (32 - n).toNat = 32 - n.toNat := by omega
  have E : Hid ((32 - n).toNat = 32 - n.toNat) := e
  clear e
  go_enter Try.func32, Try.ntmps32
  go_wp2
  go_ret
  refine ⟨?_, rfl⟩
  unfold rotr
  rw [← E.out]; rfl
theorem wrap32_nat (v : BitVec 32) : IntKind.u32.wrap (v.toNat : Int) = v.toNat := by
  have := v.isLt
  simp only [IntKind.wrap, IntKind.bits, IntKind.signed]; simp; omega
theorem of_nat32 (v : BitVec 32) : BitVec.ofInt 32 (v.toNat : Int) = v := by
  rw [BitVec.ofInt_natCast, BitVec.ofNat_toNat]; simp
theorem bits_and (x y : Int) : bits .and .u32 x y = ((BitVec.ofInt 32 x &&& BitVec.ofInt 32 y).toNat : Int) := wrap32_nat _
theorem bits_or (x y : Int) : bits .or .u32 x y = ((BitVec.ofInt 32 x ||| BitVec.ofInt 32 y).toNat : Int) := wrap32_nat _
theorem bits_xor (x y : Int) : bits .xor .u32 x y = ((BitVec.ofInt 32 x ^^^ BitVec.ofInt 32 y).toNat : Int) := wrap32_nat _
theorem cho_xor (x y z : Int) : bits .xor .u32 (bits .and .u32 x y) (bits .and .u32 (bits .xor .u32 IntKind.u32.max x) z) = cho x y z := by
  unfold cho
  simp only [bits_and, bits_or, bits_xor, of_nat32]
  have hm : BitVec.ofInt 32 IntKind.u32.max = BitVec.allOnes 32 := by decide
  rw [hm]
  congr 2
  ext i hi
  simp only [BitVec.getElem_xor, BitVec.getElem_and, BitVec.getElem_or, BitVec.getElem_allOnes]
  generalize (BitVec.ofInt 32 x)[i] = a
  generalize (BitVec.ofInt 32 y)[i] = b
  generalize (BitVec.ofInt 32 z)[i] = c
  cases a <;> cases b <;> cases c <;> rfl
theorem maj_xor (x y z : Int) : bits .xor .u32 (bits .xor .u32 (bits .and .u32 x y) (bits .and .u32 x z)) (bits .and .u32 y z) = maj x y z := by
  unfold maj
  simp only [bits_and, bits_or, bits_xor, of_nat32]
  congr 2
  ext i hi
  simp only [BitVec.getElem_xor, BitVec.getElem_and, BitVec.getElem_or]
  generalize (BitVec.ofInt 32 x)[i] = a
  generalize (BitVec.ofInt 32 y)[i] = b
  generalize (BitVec.ofInt 32 z)[i] = c
  cases a <;> cases b <;> cases c <;> rfl
end Go.Proofs.Ytmljihggooaboaa
