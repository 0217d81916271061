/- Layer merkle: make and copy of sums. -/
import Derived.Test.YthpinikdkfiagaaMq
import Derived.Laws.MakeOwn
import Derived.Laws.CopyRow
namespace Go.Proofs.Ythpinikdkfiagaa
open Go.RowKit
set_option linter.unusedVariables false
set_option linter.unusedSimpArgs false

theorem zeros32 (k : Nat) : ∀ x ∈ List.replicate k Z32, x.length = 32 := fun x hx => by rw [(List.mem_replicate.1 hx).2]; exact Z32_len
theorem made24 (k : Nat) : madeCells (Value.agg (h8 Z32)).cells (k * 32) = (flat32 (List.replicate k Z32)).toArray := by
  apply Array.ext_getElem?
  intro j
  by_cases hj : j < k * 32
  · have hd : j / 32 < k := by omega
    have hm : j % 32 < 32 := Nat.mod_lt _ (by omega)
    have h1 : (flat32 (List.replicate k Z32))[j / 32 * 32 + j % 32]? = some (.int .u8 0) := flat32_at (zeros32 k) (X := Z32) (by rw [List.getElem?_replicate, if_pos hd]) (by rw [by8_get (by rw [Z32_len]; exact hm), bat_Z])
    rw [Nat.div_add_mod' j 32] at h1
    have h2 : (h8 Z32)[j % 32]? = some (.int .u8 0) := by rw [h8_get (by rw [Z32_len]; exact hm), bat_Z]
    have h3 : (h8 Z32)[j % (h8 Z32).size]! = .int .u8 0 := by
      rw [h8_size, Z32_len, getElem!_def, h2]
    have h4 : (flat32 (List.replicate k Z32)).toArray[j]? = some (.int .u8 0) := by simpa using h1
    rw [h4]
    simp only [madeCells, Value.cells]
    rw [Array.getElem?_map, Array.getElem?_eq_getElem (by simpa using hj)]
    simp only [Array.getElem_range, Option.map_some]
    rw [h3]
  · rw [Array.getElem?_eq_none (by rw [size_madeCells]; omega), Array.getElem?_eq_none (by rw [List.size_toArray, flat32_len (zeros32 k), List.length_replicate]; omega)]
theorem flat32_of {ls : List (List Int)} (hl : ∀ x ∈ ls, x.length = 32) {j : Nat} {v : Value} (h : (flat32 ls)[j]? = some v) : ∃ X, ls[j / 32]? = some X ∧ (by8 X)[j % 32]? = some v := by
  have hj := (List.getElem?_eq_some_iff.1 h).1
  rw [flat32_len hl] at hj
  have hd : j / 32 < ls.length := by omega
  obtain ⟨X, hX⟩ : ∃ X, ls[j / 32]? = some X := ⟨ls[j / 32], List.getElem?_eq_getElem hd⟩
  have h32 := hl X (List.mem_of_getElem? hX)
  have hm : j % 32 < 32 := Nat.mod_lt _ (by omega)
  have h1 := flat32_at hl hX (by8_get (L := X) (t := j % 32) (by omega))
  rw [Nat.div_add_mod' j 32, h] at h1
  refine ⟨X, hX, ?_⟩
  rw [by8_get (by omega)]
  exact h1.symm
theorem flat32_append (a b : List (List Int)) : flat32 (a ++ b) = flat32 a ++ flat32 b := by simp [flat32]
/-- copy of sums over noughts. -/
theorem run_copy24 (w : World) (g k N : Nat) (sp : Option Addr) (n cap : Nat) (ls : List (List Int)) (ty : TypeId) (hS : HS N w sp n cap ls) (hA : Arr w g 24 (flat32 (List.replicate k Z32)).toArray) (hn : n ≤ k) :
    (Builtin.copy_ #[22, 22] ty #[.slice (some ⟨g, 0, none⟩) k k, .slice sp n cap]).run Try.prog w = .ok (goInt n) (w.setRow g (flat32 (ls ++ List.replicate (k - n) Z32)).toArray) := by
  have hln := hS.len.out
  have hlen := flat32_len hS.l32
  obtain ⟨i0, hi0, hz0, hz1, hz2⟩ := info_parts info24
  by_cases h0 : n = 0
  · subst h0
    obtain rfl : ls = [] := List.eq_nil_of_length_eq_zero hln.symm
    have e : w.setRow g (flat32 ([] ++ List.replicate (k - 0) Z32)).toArray = w := by
      simp only [List.nil_append, Nat.sub_zero]
      exact setRow_self w g _ 24 (0, 0) hA
    rw [e]
    cases sp with
    | none => simp [Builtin.copy_, run_underlying Try.underlying22, Builtin.lenOf, Builtin.firstCells, sizeOf, typeInfo, hi0, storeCells]
    | some ad => simp [Builtin.copy_, run_underlying Try.underlying22, Builtin.lenOf, Builtin.firstCells, sizeOf, typeInfo, hi0, loadCells, loadCellsFrom, storeCells]
  · obtain ⟨b, off, rfl, -, hR⟩ := hS.at0 (by omega)
    have hl := run_loadCells_list (P := Try.prog) w ⟨b, off, none⟩ (flat32 ls) (fun j v hv => by
      obtain ⟨X, hX, hv'⟩ := flat32_of hS.l32 hv
      have := hR _ X hX _ v hv'
      rw [Addr.add_mid]
      rwa [Nat.add_assoc, Nat.div_add_mod' j 32] at this)
    have hst := run_storeCells_at Try.prog g 0 24 (flat32 ls) 0 _ w hA (by rw [List.size_toArray, flat32_len (zeros32 k), List.length_replicate, hlen]; omega) (fun v hv => by
      obtain ⟨L, hL, hv'⟩ := List.mem_flatten.1 hv
      obtain ⟨X, -, rfl⟩ := List.mem_map.1 hL
      exact by8_one X v hv')
    have e : (List.take (0 + 0) (flat32 (List.replicate k Z32)).toArray.toList ++ flat32 ls ++ List.drop (0 + 0 + (flat32 ls).length) (flat32 (List.replicate k Z32)).toArray.toList) = flat32 (ls ++ List.replicate (k - n) Z32) := by
      rw [flat32_append]
      simp only [Nat.add_zero, Nat.zero_add, List.take_zero, List.nil_append]
      congr 1
      have hsplit : List.replicate k Z32 = List.replicate n Z32 ++ List.replicate (k - n) Z32 := by rw [List.replicate_append_replicate]; congr 1; omega
      rw [hsplit, flat32_append]
      rw [List.drop_append_of_le_length (by rw [hlen, flat32_len (zeros32 n), List.length_replicate, hln]; exact Nat.le_refl _), List.drop_eq_nil_of_le (by rw [hlen, flat32_len (zeros32 n), List.length_replicate, hln]; exact Nat.le_refl _)]
      rfl
    rw [e] at hst
    rw [hlen, ← hln] at hl
    have hmin : Nat.min n k = n := Nat.min_eq_left hn
    simp [Builtin.copy_, run_underlying Try.underlying22, Builtin.lenOf, Builtin.firstCells, sizeOf, typeInfo, hi0, hz1, hmin, hl, hst]
end Go.Proofs.Ythpinikdkfiagaa
