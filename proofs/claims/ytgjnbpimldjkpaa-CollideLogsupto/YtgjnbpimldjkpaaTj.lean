import Derived.Test.YtgjnbpimldjkpaaTh
import Derived.Test.YtgjnbpimldjkpaaTi
import Derived.ChangeKeysEq
import Derived.Lib.SlBytesConst
namespace Go.Proofs.Ytgjnbpimldjkpaa
open Go.RowKit

/-- Byte t of the sum of n bytes. -/
def shaB (B : Nat → Int) (n t : Nat) : Int := outB (shaSt B (n / 64) (n % 64)) t
theorem outB_range (s : St) (t : Nat) : 0 ≤ outB s t ∧ outB s t ≤ 255 := by unfold outB; omega
theorem shaB_range (B : Nat → Int) (n t : Nat) : 0 ≤ shaB B n t ∧ shaB B n t ≤ 255 := outB_range _ _
theorem u8s_size (n : Nat) (f : Nat → Int) : (u8s n f).size = n := arr_size _ _
theorem u8s_get {n : Nat} {f : Nat → Int} {t : Nat} (h : t < n) : (u8s n f)[t]? = some (.int .u8 (f t)) := arr_get h

theorem sum_any (b off n cap : Nat) (B : Nat → Int) (w : World) (hB : Bytes w b off n B) (hcap : n ≤ cap) (hn : n ≤ 140737488355328) :
    Calls Try.prog 27 #[.slice (some ⟨b, off, none⟩) n cap] w fun e w' => e = .returned (.agg (u8s 32 (shaB B n))) ∧ Below w.heap.size w w' := by
  have e : 64 * (n / 64) + n % 64 = n := Nat.div_add_mod n 64
  have := sum_some b off (n / 64) (n % 64) cap B w (by rw [e]; exact hB) (Nat.mod_lt _ (by omega)) (by omega) (by omega)
  rw [e] at this
  refine this.mono ?_
  rintro e w' ⟨C, rfl, hs, hC, hb⟩
  exact ⟨by rw [arr_eq hs hC]; rfl, hb⟩

theorem eqItems_same {P : Program} (w : World) (d : Nat) {e : TypeId} {k : IntKind} (he : P.underlying e = some (.int k)) (ha : ∀ w, (isAgg e).run P w = .ok false w) (C : Array Value) (f : Nat → Int) :
    ∀ is : List Nat, (∀ i ∈ is, C[i]? = some (.int k (f i))) → (Op.eqItems (d + 1) e 1 C C is).run P w = .ok true w
  | [], _ => by simp [Op.eqItems]
  | i :: is, h => by
    have hi := h i (by simp)
    have ih := eqItems_same w d he ha C f is (fun j hj => h j (by simp [hj]))
    simp [Op.eqItems, part, ha, hi, run_equalIn_int w d e k k _ _ he, ih]

theorem eql24 (f : Nat → Int) (w : World) : (binOp .eql 29 (.agg (u8s 32 f)) (.agg (u8s 32 f))).run Try.prog w = .ok (.bool true) w := by
  obtain ⟨i0, hi, -⟩ := info_parts info5
  have hc : Try.prog.cellsOf 5 = 1 := by kernel_rfl
  rw [run_eql_struct, run_equalIn_array w 9999 _ _ Try.underlying29 hi, hc, eqItems_same w 9998 Try.underlying5 Try.isAgg5 _ f (List.range 32) (fun i h => u8s_get (by simpa using h))]
  rfl

def abcB (t : Nat) : Int := [97, 98, 99].getD t 0
theorem abc_hex : hexS (shaB abcB 3) = ⟨#[98, 97, 55, 56, 49, 54, 98, 102, 56, 102, 48, 49, 99, 102, 101, 97, 52, 49, 52, 49, 52, 48, 100, 101, 53, 100, 97, 101, 50, 50, 50, 51, 98, 48, 48, 51, 54, 49, 97, 51, 57, 54, 49, 55, 55, 97, 57, 99, 98, 52, 49, 48, 102, 102, 54, 49, 102, 50, 48, 48, 49, 53, 97, 100]⟩ := by
  have e : shaSt abcB (3 / 64) (3 % 64) = ⟨3128432319, 2399260650, 1094795486, 1571693091, 2953011619, 2518121116, 3021012833, 4060091821⟩ := by kernel_rfl
  have e2 : ∀ t, shaB abcB 3 t = outB ⟨3128432319, 2399260650, 1094795486, 1571693091, 2953011619, 2518121116, 3021012833, 4060091821⟩ t := fun t => by unfold shaB; rw [e]
  have e3 : hexS (outB ⟨3128432319, 2399260650, 1094795486, 1571693091, 2953011619, 2518121116, 3021012833, 4060091821⟩) = ⟨#[98, 97, 55, 56, 49, 54, 98, 102, 56, 102, 48, 49, 99, 102, 101, 97, 52, 49, 52, 49, 52, 48, 100, 101, 53, 100, 97, 101, 50, 50, 50, 51, 98, 48, 48, 51, 54, 49, 97, 51, 57, 54, 49, 55, 55, 97, 57, 99, 98, 52, 49, 48, 102, 102, 54, 49, 102, 50, 48, 48, 49, 53, 97, 100]⟩ := by kernel_rfl
  rw [show shaB abcB 3 = _ from funext e2]
  exact e3

end Go.Proofs.Ytgjnbpimldjkpaa
