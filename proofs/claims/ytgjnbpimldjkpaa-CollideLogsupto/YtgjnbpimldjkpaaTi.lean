import Derived.Test.YtgjnbpimldjkpaaTf
import Derived.Laws.BytesArg
import Derived.Deep.RegionLaw
namespace Go.Proofs.Ytgjnbpimldjkpaa
open Go.RowKit

/-- An array written by a rule. -/
def arr (n : Nat) (f : Nat → Value) : Array Value := ((List.range n).map f).toArray
theorem arr_size (n : Nat) (f : Nat → Value) : (arr n f).size = n := by simp [arr]
theorem arr_get {n : Nat} {f : Nat → Value} {t : Nat} (h : t < n) : (arr n f)[t]? = some (f t) := by simp [arr, h]
theorem arr_eq {C : Array Value} {n : Nat} {f : Nat → Value} (hs : C.size = n) (h : ∀ t, t < n → C[t]? = some (f t)) : C = arr n f := by
  apply Array.ext_getElem?
  intro i
  by_cases hi : i < n
  · rw [h i hi, arr_get hi]
  · rw [Array.getElem?_eq_none (by omega), Array.getElem?_eq_none (by rw [arr_size]; omega)]
def u8s (n : Nat) (f : Nat → Int) : Array Value := arr n fun t => .int .u8 (f t)

def hexc (v : Int) : Int := if v < 10 then 48 + v else 87 + v
def hexAt (H : Nat → Int) (t : Nat) : Int := if t % 2 = 0 then hexc (H (t / 2) / 16) else hexc (H (t / 2) % 16)
def hexd : ByteArray := { data := #[48, 49, 50, 51, 52, 53, 54, 55, 56, 57, 97, 98, 99, 100, 101, 102] }

theorem hexd_get (v : Nat) (h : v < 16) (h' : v < hexd.size) : (((hexd[v]'h').toNat : Nat) : Int) = hexc v := by
  have : ∀ v : Fin 16, ((hexd.data[v.val]'(by exact v.isLt)).toNat : Int) = hexc v.val := by decide +kernel
  exact this ⟨v, h⟩

theorem index_hex (v : Int) (h0 : 0 ≤ v) (h1 : v < 16) (w : World) : (Instr.index 9 (.string hexd) (.int .u8 v)).run Try.prog w = .ok (.int .u8 (hexc v)) w := by
  obtain ⟨k, rfl⟩ : ∃ k : Nat, v = k := ⟨v.toNat, by omega⟩
  have hs : hexd.size = 16 := rfl
  rw [run_index_string w 9 hexd .u8 k Try.underlying9, dif_pos (by rw [hs]; omega)]
  rw [show ((hexd[(k : Int).toNat]'(by rw [hs]; omega)).toNat : Int) = hexc k from hexd_get k (by omega) (by rw [hs]; omega)]

theorem index24 (C : Array Value) (f : Nat → Int) (hC : ∀ t, t < 32 → C[t]? = some (.int .u8 (f t))) (k : Nat) (hk : k < 32) (w : World) :
    (Instr.index 29 (.agg C) (.int .i64 k)).run Try.prog w = .ok (.int .u8 (f k)) w := by
  have e : C[k]? = some (.int .u8 (f k)) := hC k hk
  simp [Instr.index, asIntOf, run_underlying Try.underlying29, Try.sizeOf5, part, Try.isAgg5, hk, e]

theorem and15 (b : Int) (h0 : 0 ≤ b) (h1 : b ≤ 255) : bits .and .u8 b 15 = b % 16 := by
  obtain ⟨k, rfl⟩ : ∃ k : Nat, b = k := ⟨b.toNat, by omega⟩
  have : ∀ k : Fin 256, bits .and .u8 (k.val : Int) 15 = (k.val : Int) % 16 := by decide +kernel
  exact this ⟨k, by omega⟩

theorem two_cells {W : World} {g t : Nat} {a b : Value} (h : Arr W g t #[a, b]) : ∀ (j : Nat) (u : Value), [a, b][j]? = some u → W.cell? ((⟨g, 0, none⟩ : Addr).add j) = some u := by
  intro j u hj
  rw [Addr.add_mid, Nat.zero_add, h.cell j]
  simpa using hj
theorem Arr.spare {W : World} {g t o n : Nat} {D : Array Value} (h : Arr W g t D) (hn : o + n ≤ D.size) : ∀ j, j < n → (W.cell? ⟨g, o + j, none⟩).isSome = true ∧ W.frozen? ⟨g, o + j, none⟩ = false := fun j hj =>
  ⟨by rw [h.cell, Array.getElem?_eq_getElem (by omega)]; rfl, h.frozen _⟩

def hexS (H : Nat → Int) : ByteArray := strOfNums ((List.range 64).map (hexAt H))

end Go.Proofs.Ytgjnbpimldjkpaa
