import Derived.Test.YtfmjapopnomkkaaTf
import Derived.Laws.BytesArg
import Derived.Deep.RegionLaw
namespace Go.Proofs.Ytfmjapopnomkkaa
open Go.RowKit

/-- An array written by a rule. -/
def arr (n : Nat) (f : Nat → Value) : Array Value := ((List.range n).map f).toArray
theorem arr_size (n : Nat) (f : Nat → Value) : (arr n f).size = n := by simp [arr]
theorem arr_get {n : Nat} {f : Nat → Value} {t : Nat} (h : t < n) : (arr n f)[t]? = some (f t) := by simp [arr, h]
theorem arr_eq {C : Array Value} {n : Nat} {f : Nat → Value} (hs : C.size = n) (h : ∀ t, t < n → C[t]? = some (f t)) : C = arr n f := by
  apply Array.ext_getElem?
  intro i
  by_cases hi : i < n
  · rw [h i hi, arr_get hi]
  · rw [Array.getElem?_eq_none (by omega), Array.getElem?_eq_none (by rw [arr_size]; omega)]
def u8s (n : Nat) (f : Nat → Int) : Array Value := arr n fun t => .int .u8 (f t)

def hexc (v : Int) : Int := if v < 10 then 48 + v else 87 + v
def hexAt (H : Nat → Int) (t : Nat) : Int := if t % 2 = 0 then hexc (H (t / 2) / 16) else hexc (H (t / 2) % 16)
def hexd : ByteArray := { data := #[48, 49, 50, 51, 52, 53, 54, 55, 56, 57, 97, 98, 99, 100, 101, 102] }

theorem hexd_get (v : Nat) (h : v < 16) (h' : v < hexd.size) : (((hexd[v]'h').toNat : Nat) : Int) = hexc v := by
  have : ∀ v : Fin 16, ((hexd.data[v.val]'(by exact v.isLt)).toNat : Int) = hexc v.val := by decide +kernel
  exact this ⟨v, h⟩

theorem index_hex (v : Int) (h0 : 0 ≤ v) (h1 : v < 16) (w : World) : (Instr.index 9 (.string hexd) (.int .u8 v)).run Try.prog w = .ok (.int .u8 (hexc v)) w := by
  obtain ⟨k, rfl⟩ : ∃ k : Nat, v = k := ⟨v.toNat, by omega⟩
  have hs : hexd.size = 16 := rfl
  rw [run_index_string w 9 hexd .u8 k Try.underlying9, dif_pos (by rw [hs]; omega)]
  rw [show ((hexd[(k : Int).toNat]'(by rw [hs]; omega)).toNat : Int) = hexc k from hexd_get k (by omega) (by rw [hs]; omega)]

theorem index24 (C : Array Value) (f : Nat → Int) (hC : ∀ t, t < 32 → C[t]? = some (.int .u8 (f t))) (k : Nat) (hk : k < 32) (w : World) :
    (Instr.index 24 (.agg C) (.int .i64 k)).run Try.prog w = .ok (.int .u8 (f k)) w := by
  have e : C[k]? = some (.int .u8 (f k)) := hC k hk
  simp [Instr.index, asIntOf, run_underlying Try.underlying24, Try.sizeOf5, part, Try.isAgg5, hk, e]

theorem and15 (b : Int) (h0 : 0 ≤ b) (h1 : b ≤ 255) : bits .and .u8 b 15 = b % 16 := by
  obtain ⟨k, rfl⟩ : ∃ k : Nat, b = k := ⟨b.toNat, by omega⟩
  have : ∀ k : Fin 256, bits .and .u8 (k.val : Int) 15 = (k.val : Int) % 16 := by decide +kernel
  exact this ⟨k, by omega⟩

theorem two_cells {W : World} {g t : Nat} {a b : Value} (h : Arr W g t #[a, b]) : ∀ (j : Nat) (u : Value), [a, b][j]? = some u → W.cell? ((⟨g, 0, none⟩ : Addr).add j) = some u := by
  intro j u hj
  rw [Addr.add_mid, Nat.zero_add, h.cell j]
  simpa using hj
theorem Arr.spare {W : World} {g t o n : Nat} {D : Array Value} (h : Arr W g t D) (hn : o + n ≤ D.size) : ∀ j, j < n → (W.cell? ⟨g, o + j, none⟩).isSome = true ∧ W.frozen? ⟨g, o + j, none⟩ = false := fun j hj =>
  ⟨by rw [h.cell, Array.getElem?_eq_getElem (by omega)]; rfl, h.frozen _⟩

def hexS (H : Nat → Int) : ByteArray := strOfNums ((List.range 64).map (hexAt H))

set_option maxHeartbeats 1000000 in
theorem hex_any (C : Array Value) (H : Nat → Int) (w : World) (hs : C.size = 32) (hC : ∀ t, t < 32 → C[t]? = some (.int .u8 (H t))) (hH : ∀ t, t < 32 → 0 ≤ H t ∧ H t ≤ 255) :
    Calls Try.prog 22 #[.agg C] w fun e w' => e = .returned (.string (hexS H)) ∧ Below w.heap.size w w' := by
  obtain ⟨i0, hi, hz0, hz1, hz2⟩ := info_parts info5
  have s24 : (Try.prog.info? 24).map (·.size) = some C.size := by rw [hs]; exact size24
  have hmk : ∀ u : World, (Instr.makeSlice 22 (.int .i64 0) (.int .i64 64)).run Try.prog u = .ok (.slice (some ⟨u.heap.size, 0, none⟩) 0 64) (u.alloc (.cells (madeCells #[.int .u8 0] 64) 5)) := fun u => by
    have h := run_make (P := Try.prog) (w := u) 22 5 i0 (.int .u8 0) Try.underlying22 hi hz0 .i64 .i64 0 64 (by omega) (by omega) (by rw [hz2]; omega) (by omega)
    simpa [hz1, Value.cells] using h
  have hA0 : ∀ o, Arr ((w.alloc (.cells C 24)).alloc o) w.heap.size 24 C := fun o => (Arr.new w 24 C).alloc o
  go_enter Try.func22, Try.ntmps22
  go_wp2_with (refine wpList_load_row rfl 24 (.tmp 1) rfl w.heap.size rfl 24 C (0, 0) _ (hA0 _) Try.underlying24 rfl s24 ?_)
  go_loopw [3, 8] (fun v i wr => ∃ (k : Nat) (D : Array Value), k ≤ 32 ∧ i = .int .i64 k ∧ v = .slice (some ⟨w.heap.size + 1, 0, none⟩) (2 * k) 64 ∧ Arr wr (w.heap.size + 1) 5 D ∧ D.size = 64 ∧ (∀ t, t < 2 * k → D[t]? = some (.int .u8 (hexAt H t))) ∧ Below w.heap.size w wr)
    (fun _ i _ => 32 - (intOf i).toNat)
  case atStart => exact ⟨0, _, by omega, rfl, rfl, by simpa using Arr.new (w.alloc _) 5 _, by rw [size_madeCells], fun t h => by omega, ((Below.refl _ _).alloc (by simp) _).alloc (by simp) _⟩
  case round =>
    clear hmk hA0
    obtain ⟨k, D, hk, rfl, rfl, hD, hDs, hw, hbl⟩ := hrel
    have HW := Hid.mk' hw
    clear hw
    by_cases hlt : k < 32
    · have h3 : (k : Int) < 32 := by omega
      have h4 : (0 : Int) ≤ k := by omega
      have hix := index24 C H hC k hlt
      obtain ⟨b0, b1⟩ := hH k hlt
      have e15 := and15 (H k) b0 b1
      have q1 : 0 ≤ H k / 16 := by omega
      have q2 : H k / 16 < 16 := by omega
      have q3 : 0 ≤ H k % 16 := by omega
      have q4 : H k % 16 < 16 := by omega
      have x1 := index_hex (H k / 16) q1 q2
      have x2 := index_hex (H k % 16) q3 q4
      simp only [hexd] at x1 x2
      go_wp2
      go_region_law ((refine step_append_room (by rfl) (.tmp 11) (.tmp 18) 22 (by rfl) 5 i0 1 Try.underlying22 hi hz1 (w.heap.size + 1) 0 (2 * k) 64 (by rfl) ⟨wr.heap.size, 0, none⟩ 2 2 [.int .u8 (hexc (H k / 16)), .int .u8 (hexc (H k % 16))] (by rfl) (by rfl) (two_cells (Arr.new wr 5 #[_, _])) (by simp [Value.oneCell']) (by omega) (Arr.spare (hD.alloc (.cells #[.int .u8 (hexc (H k / 16)), .int .u8 (hexc (H k % 16))] 5)) (by rw [hDs]; simp; omega)) ?_))
      all_goals go_wp2
      all_goals
        clear x1 x2 hix e15
        go_roundw
        case rel =>
          have e0 : hexAt H (2 * k) = hexc (H k / 16) := by simp [hexAt]
          have e1 : hexAt H (2 * k + 1) = hexc (H k % 16) := by simp [hexAt, show (2 * k + 1) % 2 = 1 by omega, show (2 * k + 1) / 2 = k by omega]
          have q0 := set_step (f := fun t => .int .u8 (hexAt H t)) hDs (by omega) HW.out
          have q1 := set_step (f := fun t => .int .u8 (hexAt H t)) (k := 2 * k + 1) (n := 64) (by simp [hDs]) (by omega) q0
          rw [← e0, ← e1]
          exact ⟨k + 1, _, by omega, by go_num, rfl, (((hD.alloc _).drew).set _ _).set _ _, by simp [hDs], q1, (((hbl.alloc hbl.size _).drew).setCell (by simp) _).setCell (by simp) _⟩
        case measure => simp [intOf]; omega
    · obtain rfl : k = 32 := by omega
      have hcv := run_convert_bytes_arg (P := Try.prog) wr 22 5 Try.underlying22 Try.underlying5 (w.heap.size + 1) 0 64 64 ((List.range 64).map (hexAt H)) (by simp) (fun i hi => by
        rw [Nat.zero_add, hD.cell, HW.out i (by omega)]; simp [hi]) 9 Try.underlying9
      go_wp2
      go_ret
      exact ⟨rfl, hbl⟩
end Go.Proofs.Ytfmjapopnomkkaa
