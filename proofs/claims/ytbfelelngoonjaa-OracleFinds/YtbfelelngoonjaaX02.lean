/- Td, Tf, Ti, Te. -/
import Derived.Test.YtbfelelngoonjaaX01
import Derived.BigQuiet
import Derived.BigRegion
import Derived.Deep.DrawnRows
import Derived.Deep.QuietTactic
import Derived.Deep.RegionHeld3
import Derived.Deep.WholeRow
import Derived.WalkKit
import Derived.WalkLawsBesides
import Derived.WalkSpells
import Derived.Laws.CopyOwn
import Derived.Deep.RegionLaw
import Derived.Laws.BytesArg
/- Layer oracle: what the layers below give. -/
namespace Go.Proofs.Ytbfelelngoonjaa
open Go.RowKit
set_option maxRecDepth 100000
set_option linter.unusedVariables false
set_option linter.unusedSimpArgs false

def absorbN (K B : Nat → Int) (s : St) : Nat → St
  | 0 => s
  | m + 1 => (absorbN K B s m).plus (rnd K (WW fun t => B (64 * m + t)) (absorbN K B s m) 64)
theorem Arr.row {w : World} {g ty : Nat} {C : Array Value} (h : Arr w g ty C) {n : Nat} {f : Nat → Int} (hf : ∀ t, t < n → C[t]? = some (.int .u32 (f t))) : Row w g n f := fun t ht => (h.cell t).trans (hf t ht)
theorem Row.below {w w' : World} {b n B : Nat} {f : Nat → Int} (h : Row w b n f) (hb : Below B w w') (hlt : b < B) : Row w' b n f := fun t ht => (hb.cell (p := ⟨b, t, none⟩) hlt).trans (h t ht)
theorem Row.alloc {w : World} {b n : Nat} {f : Nat → Int} (h : Row w b n f) (hlt : b < w.heap.size) (o : Obj) : Row (w.alloc o) b n f := fun t ht => by
  rw [World.cell?_alloc_lt _ _ _ hlt]; exact h t ht
theorem St.size (s : St) : s.cells.size = 8 := rfl
theorem St.one (s : St) : s.cells.all (·.oneCell') = true := by simp [St.cells, Value.oneCell']
theorem compress_cells (s : St) (bw bk : Nat) (W K : Nat → Int) (w : World) (hbw : bw < w.heap.size) (hbk : bk < w.heap.size)
    (hW : Row w bw 64 W) (hK : Row w bk 64 K) :
    Calls Try.prog 63 #[.agg s.cells, .pointer (some ⟨bw, 0, none⟩), .pointer (some ⟨bk, 0, none⟩)] w fun e w' => e = .returned (.agg (s.plus (rnd K W s 64)).cells) ∧ Below w.heap.size w w' :=
  compress_any s bw bk W K w hbw hbk hW hK
theorem s48 (s : St) : (Try.prog.info? 79).map (·.size) = some s.cells.size := size48
set_option maxRecDepth 100000 in
set_option maxHeartbeats 1000000 in
theorem absorb_any (s : St) (b off cap m bk : Nat) (K B : Nat → Int) (w : World) (hB : Bytes w b off (64 * m) B) (hcap : 64 * m ≤ cap) (hcap2 : 64 * m ≤ 140737488355328) (hbk : bk < w.heap.size) (hK : Row w bk 64 K) :
    Calls Try.prog 48 #[.agg s.cells, .slice (some ⟨b, off, none⟩) (64 * m) cap, .pointer (some ⟨bk, 0, none⟩)] w fun e w' => e = .returned (.agg (absorbN K B s m).cells) ∧ Below w.heap.size w w' := by
  have hs8 := St.size s
  go_enter Try.func48, Try.ntmps48
  go_wp2_with fail
  go_loopw [7] (fun i wr => ∃ j : Nat, j ≤ m ∧ i = .int .i64 (64 * (j : Int)) ∧ Arr wr w.heap.size 79 (absorbN K B s j).cells ∧ (∃ Z : St, Arr wr (w.heap.size + 1) 79 Z.cells) ∧ Below w.heap.size w wr)
    (fun i _ => 64 * m - (intOf i).toNat)
  case atStart => exact ⟨0, by omega, rfl, (Arr.new _ _ _).alloc _, ⟨⟨0, 0, 0, 0, 0, 0, 0, 0⟩, by simpa [St.cells] using Arr.new (w.alloc _) 79 _⟩, ((Below.refl _ _).alloc (by simp) _).alloc (by simp) _⟩
  case round =>
    obtain ⟨j, hj, rfl, hA, ⟨Z, hZ⟩, hbl⟩ := hrel
    have h3 : (j : Int) ≤ m := by omega
    have h4 : (0 : Int) ≤ j := by omega
    by_cases hlt : j < m
    · have hb : b < w.heap.size := block_lt_of_cell (hB 0 (by omega))
      have hB' : Bytes wr b (off + 64 * j) 64 (fun t => B (64 * j + t)) := fun t ht => by
        have := (hbl.cell (p := ⟨b, off + (64 * j + t), none⟩) hb).trans (hB (64 * j + t) (by omega))
        rw [← Nat.add_assoc] at this; exact this
      have hbr : b < wr.heap.size := Nat.lt_of_lt_of_le hb hbl.size
      have hl : 64 * j + 64 - 64 * j = 64 := by omega
      have h5 : (j : Int) + 1 ≤ m := by omega
      have HB : Hid (Bytes w b off (64 * m) B) := hB
      have HK : Hid (Row w bk 64 K) := hK
      clear hB hK
      have hbkr : bk < wr.heap.size := Nat.lt_of_lt_of_le hbk hbl.size
      have hKr : Row wr bk 64 K := HK.out.below hbl hbk
      go_wp2_with (first
        | (go_at_call 62; go_must (refine (schedule_any b (off + 64 * j) 64 (fun t => B (64 * j + t)) wr hbr hB' (by omega)).mono ?_; rintro e w1 ⟨C, rfl, hCs, hCw, hb1⟩; have hA1 := (hA.below hb1 hA.lt).alloc (.cells C 100); have hZ1 := (hZ.below hb1 hZ.lt).alloc (.cells C 100); have hW1 := (Arr.new w1 100 C).row hCw; have hbk1 : bk < (w1.alloc (.cells C 100)).heap.size := Nat.lt_of_lt_of_le hbkr (Nat.le_trans hb1.size (by simp)); have hK1 := (hKr.below hb1 hbkr).alloc (Nat.lt_of_lt_of_le hbkr hb1.size) (.cells C 100)))
        | (refine wpList_store_new w1 _ 100 (by rfl) 100 (.tmp 8) (.tmp 22) (by rfl) C (by rfl) (by rfl) (by rw [hCs]; exact size46) (Eq.trans (by rfl) hCs.symm) (one_ints hCs hCw) ?_)
        | (refine wpList_load_row rfl 79 (.tmp 3) rfl w.heap.size rfl 79 (absorbN K B s j).cells (0, 0) _ hA1 Try.underlying79 rfl (s48 _) ?_)
        | (go_at_call 63; go_must (refine (compress_cells (absorbN K B s j) w1.heap.size bk (WW fun t => B (64 * j + t)) K (w1.alloc (.cells C 100)) (by simp) hbk1 hW1 hK1).mono ?_; rintro e w2 ⟨rfl, hb2⟩; have hA2 := hA1.below hb2 hA1.lt; have hZ2 := hZ1.below hb2 hZ1.lt))
        | (refine wpList_store_arr rfl 79 (.tmp 3) (.tmp 25) rfl w.heap.size (absorbN K B s (j + 1)).cells rfl rfl 79 _ hA2 (s48 _) rfl (St.one _) ?_))
      go_roundw
      case rel => exact ⟨j + 1, by omega, by go_num, hA2.setRow _, ⟨Z, hZ2.setRowOther _ (by omega)⟩, below_setRow ((hbl.trans (hb1.mono hbl.size)).trans (((Below.refl _ _).alloc (Nat.le_trans hbl.size hb1.size) _).trans (hb2.mono (by simp; have := hbl.size; have := hb1.size; omega)))) (by omega) _⟩
      case measure => simp [intOf]; omega
    · obtain rfl : j = m := by omega
      clear hB hK
      go_wp2_with (first
        | (refine wpList_load_row rfl 79 (.tmp 3) rfl w.heap.size rfl 79 (absorbN K B s j).cells (0, 0) _ hA Try.underlying79 rfl (s48 _) ?_)
        | (refine wpList_store_arr rfl 79 (.tmp 6) (.tmp 26) rfl (w.heap.size + 1) (absorbN K B s j).cells rfl rfl 79 _ hZ (s48 _) rfl (St.one _) ?_))
      exact bodyPost_ret (v := .agg (absorbN K B s j).cells) (results_cell_row Try.results48 _ _ (w.heap.size + 1) 79 _ (0, 0) _ rfl (hZ.setRow _) Try.underlying79 rfl (s48 _)) rfl ⟨rfl, below_setRow hbl (by omega) _⟩
set_option maxRecDepth 100000 in
set_option maxHeartbeats 1000000 in
theorem absorb_zero (s : St) (ad : Option Addr) (cap bk : Nat) (w : World) :
    Calls Try.prog 48 #[.agg s.cells, .slice ad 0 cap, .pointer (some ⟨bk, 0, none⟩)] w fun e w' => e = .returned (.agg s.cells) ∧ Below w.heap.size w w' := by
  have hA : Arr ((w.alloc (.cells s.cells 79)).alloc (.cells (St.cells ⟨0, 0, 0, 0, 0, 0, 0, 0⟩) 79)) w.heap.size 79 s.cells := (Arr.new _ _ _).alloc _
  have hZ : Arr ((w.alloc (.cells s.cells 79)).alloc (.cells (St.cells ⟨0, 0, 0, 0, 0, 0, 0, 0⟩) 79)) (w.heap.size + 1) 79 (St.cells ⟨0, 0, 0, 0, 0, 0, 0, 0⟩) := by simpa using Arr.new (w.alloc (.cells s.cells 79)) 79 _
  go_enter Try.func48, Try.ntmps48
  go_wp2_with fail
  go_loopw [7] (fun i wr => i = .int .i64 0 ∧ wr = (w.alloc (.cells s.cells 79)).alloc (.cells (St.cells ⟨0, 0, 0, 0, 0, 0, 0, 0⟩) 79)) (fun _ _ => 0)
  case atStart => exact ⟨rfl, rfl⟩
  case round =>
    obtain ⟨rfl, rfl⟩ := hrel
    go_wp2_with (first
        | (refine wpList_load_row rfl 79 (.tmp 3) rfl w.heap.size rfl 79 s.cells (0, 0) _ hA Try.underlying79 rfl (s48 _) ?_)
        | (refine wpList_store_arr rfl 79 (.tmp 6) (.tmp 26) rfl (w.heap.size + 1) s.cells rfl rfl 79 _ hZ (s48 _) rfl (St.one _) ?_))
    exact bodyPost_ret (v := .agg s.cells) (results_cell_row Try.results48 _ _ (w.heap.size + 1) 79 _ (0, 0) _ rfl (hZ.setRow _) Try.underlying79 rfl (s48 _)) rfl ⟨rfl, below_setRow (((Below.refl _ _).alloc (by simp) _).alloc (by simp) _) (by omega) _⟩
end Go.Proofs.Ytbfelelngoonjaa
/- Layer oracle: what the layers below give. -/
namespace Go.Proofs.Ytbfelelngoonjaa
open Go.RowKit
set_option maxRecDepth 100000
set_option linter.unusedVariables false
set_option linter.unusedSimpArgs false

/-- What a slice of bytes reads: nil and empty ones too. -/
def Sl (w : World) (sp : Option Addr) (len : Nat) (B : Nat → Int) : Prop := 0 < len → ∃ b off, sp = some ⟨b, off, none⟩ ∧ Bytes w b off len B
set_option maxRecDepth 100000 in
set_option maxHeartbeats 400000 in
theorem lastRounds_two (r : Int) (w : World) (h : 55 < r) (h2 : r ≤ 1000) :
    Calls Try.prog 64 #[.int .i64 r] w fun e w' => e = .returned (.int .i64 2) ∧ w' = w := by
  have h3 : 64 < r + 1 + 8 := by omega
  go_enter Try.func64, Try.ntmps64
  go_wp2
  go_ret
  exact ⟨rfl, rfl⟩
set_option maxRecDepth 100000 in
set_option maxHeartbeats 400000 in
theorem lastRounds_one (r : Int) (w : World) (h0 : 0 ≤ r) (h : r ≤ 55) :
    Calls Try.prog 64 #[.int .i64 r] w fun e w' => e = .returned (.int .i64 1) ∧ w' = w := by
  have h3 : ¬ 64 < r + 1 + 8 := by omega
  go_enter Try.func64, Try.ntmps64
  go_wp2
  go_ret
  exact ⟨rfl, rfl⟩
theorem info5 : (Try.prog.info? 5).map (fun i => (i.zero, i.size, i.bytes)) = some (some (.int .u8 0), 1, 1) := by kernel_rfl
theorem size5 : (Try.prog.info? 5).map (·.size) = some 1 := by kernel_rfl
def lenB (T : Int) (n t : Nat) : Int := T * 8 / 2 ^ (8 * (n - 1 - t)) % 256
def baseB (B : Nat → Int) (r t : Nat) : Int := if t < r then B t else if t = r then 128 else 0
def padB (B : Nat → Int) (T : Int) (r n t : Nat) : Int := if t < n - 8 then baseB B r t else lenB T n t
theorem getElem?_madeCells (v : Value) (n t : Nat) (h : t < n) : (madeCells #[v] n)[t]? = some v := by
  simp [madeCells, h, Nat.mod_one]
theorem splice_head {L cs : List Value} (t : Nat) : (splice L 0 cs)[t]? = if t < cs.length then cs[t]? else L[t]? := by
  unfold splice
  by_cases ht : t < cs.length
  · simp [ht, List.getElem?_append_left]
  · rw [if_neg ht]; simp; rw [List.getElem?_append_right (by omega)]; simp; congr 1; omega
/-- The bytes of a slice as cells. -/
def cellsB (B : Nat → Int) (r : Nat) : List Value := (List.range r).map fun t => .int .u8 (B t)
theorem cellsB_len (B : Nat → Int) (r : Nat) : (cellsB B r).length = r := by simp [cellsB]
theorem cellsB_get {B : Nat → Int} {r t : Nat} (h : t < r) : (cellsB B r)[t]? = some (.int .u8 (B t)) := by simp [cellsB, h]
theorem cellsB_one (B : Nat → Int) (r : Nat) : ∀ v ∈ cellsB B r, v.oneCell' = true := by
  intro v hv; simp only [cellsB, List.mem_map] at hv; obtain ⟨t, -, rfl⟩ := hv; rfl
theorem Sl.pos {w : World} {sp : Option Addr} {r : Nat} {B : Nat → Int} (h : Sl w sp r B) (h0 : 0 < (cellsB B r).length) :
    ∃ ad, sp = some ad ∧ ∀ j v, (cellsB B r)[j]? = some v → w.cell? (ad.add j) = some v := by
  rw [cellsB_len] at h0
  obtain ⟨b, off, rfl, hB⟩ := h h0
  refine ⟨_, rfl, fun j v hv => ?_⟩
  have hj : j < r := by have := (List.getElem?_eq_some_iff.1 hv).1; rwa [cellsB_len] at this
  rw [cellsB_get hj] at hv
  rw [Addr.add_mid, hB j hj]; exact hv
theorem Sl.alloc {w : World} {sp : Option Addr} {r : Nat} {B : Nat → Int} (h : Sl w sp r B) (o : Obj) : Sl (w.alloc o) sp r B := fun h0 => by
  obtain ⟨b, off, rfl, hB⟩ := h h0
  exact ⟨b, off, rfl, fun t ht => by rw [World.cell?_alloc_lt _ _ _ (block_lt_of_cell (hB t ht))]; exact hB t ht⟩
theorem Sl.below {w w' : World} {sp : Option Addr} {r : Nat} {B : Nat → Int} (h : Sl w sp r B) (hb : Below w.heap.size w w') : Sl w' sp r B := fun h0 => by
  obtain ⟨b, off, rfl, hB⟩ := h h0
  exact ⟨b, off, rfl, fun t ht => by rw [hb.cell (p := ⟨b, off + t, none⟩) (block_lt_of_cell (hB t ht))]; exact hB t ht⟩
/-- The row behind the copy and the byte behind it. -/
theorem base_row {B : Nat → Int} {r n : Nat} (hr : r < n) (v0 : Value) (hv : v0 = .int .u8 0) :
    ∀ t, t < n → ((splice (madeCells #[v0] n).toList 0 (cellsB B r)).toArray.setIfInBounds r (.int .u8 128))[t]? = some (.int .u8 (baseB B r t)) := by
  intro t ht
  subst hv
  have hl : (splice (madeCells #[Value.int .u8 0] n).toList 0 (cellsB B r)).length = n := by
    rw [length_splice]
    · simp [size_madeCells]
    · simp [size_madeCells, cellsB_len]; omega
  rw [Array.getElem?_setIfInBounds]
  by_cases e : r = t
  · subst e; simp [hl, hr, baseB]
  · rw [if_neg e, List.getElem?_toArray, splice_head, cellsB_len]
    by_cases h : t < r
    · rw [if_pos h, cellsB_get h]; simp [baseB, h]
    · rw [if_neg h, Array.getElem?_toList, getElem?_madeCells _ _ _ ht]; simp [baseB, h]; omega
/-- A row whose last k bytes are the length's. -/
def lastK (B : Nat → Int) (T : Int) (r n k t : Nat) : Int := if t < n - k then baseB B r t else lenB T n t
theorem last_step {C : Array Value} {B : Nat → Int} {T : Int} {r n k : Nat} (hs : C.size = n) (hk : k < n) (h : ∀ t, t < n → C[t]? = some (.int .u8 (lastK B T r n k t))) :
    ∀ t, t < n → (C.setIfInBounds (n - 1 - k) (.int .u8 (lenB T n (n - 1 - k))))[t]? = some (.int .u8 (lastK B T r n (k + 1) t)) := by
  intro t ht
  rw [Array.getElem?_setIfInBounds]
  by_cases e : n - 1 - k = t
  · rw [if_pos e, if_pos (by omega), ← e]; simp only [lastK]; rw [if_neg (by omega)]
  · rw [if_neg e, h t ht]; simp only [lastK]
    by_cases h1 : t < n - k
    · rw [if_pos h1, if_pos (by omega)]
    · rw [if_neg h1, if_neg (by omega)]
theorem Hid.mk' {p : Prop} (h : p) : Hid p := h
theorem Arr.got {w : World} {g ty : Nat} {C : Array Value} (h : Arr w g ty C) {j : Nat} (hj : j < C.size) : ∃ v, w.cell? ⟨g, j, none⟩ = some v :=
  ⟨C[j], by rw [h.cell, Array.getElem?_eq_getElem hj]⟩
theorem splice_size {B : Nat → Int} {r n : Nat} (hr : r < n) : (splice (madeCells #[Value.int .u8 0] n).toList 0 (cellsB B r)).toArray.size = n := by
  rw [List.size_toArray, length_splice]
  · simp [size_madeCells]
  · simp [size_madeCells, cellsB_len]; omega
set_option maxRecDepth 100000 in
set_option maxHeartbeats 1000000 in
theorem lastBlocks_any (sp : Option Addr) (r cap n : Nat) (T : Int) (B : Nat → Int) (w : World) (hS : Sl w sp r B) (hn : (55 < r ∧ n = 128) ∨ (r ≤ 55 ∧ n = 64)) (hr : r < 64) (hT0 : 0 ≤ T) (hT : T ≤ 140737488355328) :
    Calls Try.prog 49 #[.slice sp r cap, .int .i64 T] w fun e w' => ∃ C : Array Value, e = .returned (.slice (some ⟨w.heap.size, 0, none⟩) n n) ∧ Arr w' w.heap.size 5 C ∧ C.size = n ∧ (∀ t, t < n → C[t]? = some (.int .u8 (padB B T r n t))) ∧ Below w.heap.size w w' := by
  obtain ⟨i0, hi, hz0, hz1, hz2⟩ := info_parts info5
  have hmk : ∀ (n : Nat) (u : World), n ≤ 128 → (Instr.makeSlice 29 (.int .i64 n) (.int .i64 n)).run Try.prog u = .ok (.slice (some ⟨u.heap.size, 0, none⟩) n n) (u.alloc (.cells (madeCells #[.int .u8 0] n) 5)) := fun n u hn => by
    have h := run_make (P := Try.prog) (w := u) 29 5 i0 (.int .u8 0) Try.underlying29 hi hz0 .i64 .i64 (n : Int) (n : Int) (by omega) (Int.le_refl _) (by rw [hz2]; omega) (by omega)
    simpa [hz1, Value.cells] using h
  have hrI : (r : Int) < 64 := by omega
  have hr0 : (0 : Int) ≤ r := by omega
  rcases hn with ⟨h, rfl⟩ | ⟨h, rfl⟩
  · have hm : ∀ u : World, (Instr.makeSlice 29 (.int .i64 128) (.int .i64 128)).run Try.prog u = .ok (.slice (some ⟨u.heap.size, 0, none⟩) 128 128) (u.alloc (.cells (madeCells #[.int .u8 0] 128) 5)) := fun u => hmk 128 u (by omega)
    clear hmk
    have h' : (55 : Int) < r := by omega
    have hrn : r < 128 := by omega
    have hrnI : (r : Int) < 128 := by omega
    go_enter Try.func49, Try.ntmps49
    go_wp2_with (first
      | (go_at_call 64; refine (lastRounds_two _ _ (by omega) (by omega)).mono ?_; rintro e w ⟨rfl, rfl⟩)
      | ((refine wpList_copy_splice (by rfl) (.tmp 13) (.tmp 14) 29 29 (by rfl) 5 Try.underlying29 size5 (some ⟨w.heap.size, 0, none⟩) sp 128 128 r cap (by rfl) (by rfl) w.heap.size 0 (madeCells #[.int .u8 0] 128).toList 5 (Arr.new w 5 (madeCells #[.int .u8 0] 128)) (cellsB B r) (by rw [cellsB_len]; exact (Nat.min_eq_left (by omega)).symm) (fun h0 => ⟨rfl, (hS.alloc _).pos h0⟩) (by simp [cellsB_len, size_madeCells]; omega) (cellsB_one B r) w.heap.size w ((Below.refl _ _).alloc (Nat.le_refl _) _) (Nat.le_refl _) ?_; intro w1 H1 hb1; have hA1 : Arr w1 w.heap.size 5 _ := H1.out; obtain ⟨v0, hv0⟩ := hA1.got (j := r) (by rw [splice_size hrn]; exact hrn); have hf0 := hA1.frozen r)))
    go_loopw [23] (fun i wr => ∃ (k : Nat) (C : Array Value), k ≤ 8 ∧ i = .int .i64 k ∧ Arr wr w.heap.size 5 C ∧ C.size = 128 ∧ (∀ t, t < 128 → C[t]? = some (.int .u8 (lastK B T r 128 k t))) ∧ Below w.heap.size w wr)
      (fun i _ => 8 - (intOf i).toNat)
    case atStart => exact ⟨0, _, by omega, rfl, hA1.set r _, by rw [Array.size_setIfInBounds, splice_size hrn], fun t ht => by rw [base_row hrn _ rfl t ht, lastK, if_pos (by omega)], hb1.setCell (Nat.le_refl _) _⟩
    case round =>
      clear hA1 H1 hv0 hf0 hb1 hS
      obtain ⟨k, C, hk, rfl, hC, hCs, hw, hbl⟩ := hrel
      have HW := Hid.mk' hw
      clear hw
      by_cases hlt : k < 8
      · have h3 : (k : Int) < 8 := by omega
        have h4 : (0 : Int) ≤ k := by omega
        obtain ⟨v1, hv1⟩ := hC.got (j := 128 - 1 - k) (by omega)
        have hf1 := hC.frozen (128 - 1 - k)
        have e1 : ((128 - 1 : Int) - k).toNat = 128 - 1 - k := by omega
        go_wp2
        go_roundw
        case rel =>
          have q := last_step hCs (by omega) HW.out
          have e2 : lenB T 128 (128 - 1 - k) = T * 8 / 2 ^ (8 * k) % 256 := by unfold lenB; rw [show 128 - 1 - (128 - 1 - k) = k by omega]
          rw [e2] at q
          exact ⟨k + 1, _, by omega, by go_num, hC.set _ _, by simp [hCs], q, hbl.setCell (Nat.le_refl _) _⟩
        case measure => simp [intOf]; omega
      · obtain rfl : k = 8 := by omega
        go_wp2
        go_ret
        exact ⟨C, rfl, hC, hCs, HW.out, hbl⟩
  · have hm : ∀ u : World, (Instr.makeSlice 29 (.int .i64 64) (.int .i64 64)).run Try.prog u = .ok (.slice (some ⟨u.heap.size, 0, none⟩) 64 64) (u.alloc (.cells (madeCells #[.int .u8 0] 64) 5)) := fun u => hmk 64 u (by omega)
    clear hmk
    have h' : (r : Int) ≤ 55 := by omega
    have hrn : r < 64 := by omega
    have hrnI : (r : Int) < 64 := by omega
    go_enter Try.func49, Try.ntmps49
    go_wp2_with (first
      | (go_at_call 64; refine (lastRounds_one _ _ (by omega) (by omega)).mono ?_; rintro e w ⟨rfl, rfl⟩)
      | ((refine wpList_copy_splice (by rfl) (.tmp 13) (.tmp 14) 29 29 (by rfl) 5 Try.underlying29 size5 (some ⟨w.heap.size, 0, none⟩) sp 64 64 r cap (by rfl) (by rfl) w.heap.size 0 (madeCells #[.int .u8 0] 64).toList 5 (Arr.new w 5 (madeCells #[.int .u8 0] 64)) (cellsB B r) (by rw [cellsB_len]; exact (Nat.min_eq_left (by omega)).symm) (fun h0 => ⟨rfl, (hS.alloc _).pos h0⟩) (by simp [cellsB_len, size_madeCells]; omega) (cellsB_one B r) w.heap.size w ((Below.refl _ _).alloc (Nat.le_refl _) _) (Nat.le_refl _) ?_; intro w1 H1 hb1; have hA1 : Arr w1 w.heap.size 5 _ := H1.out; obtain ⟨v0, hv0⟩ := hA1.got (j := r) (by rw [splice_size hrn]; exact hrn); have hf0 := hA1.frozen r)))
    go_loopw [23] (fun i wr => ∃ (k : Nat) (C : Array Value), k ≤ 8 ∧ i = .int .i64 k ∧ Arr wr w.heap.size 5 C ∧ C.size = 64 ∧ (∀ t, t < 64 → C[t]? = some (.int .u8 (lastK B T r 64 k t))) ∧ Below w.heap.size w wr)
      (fun i _ => 8 - (intOf i).toNat)
    case atStart => exact ⟨0, _, by omega, rfl, hA1.set r _, by rw [Array.size_setIfInBounds, splice_size hrn], fun t ht => by rw [base_row hrn _ rfl t ht, lastK, if_pos (by omega)], hb1.setCell (Nat.le_refl _) _⟩
    case round =>
      clear hA1 H1 hv0 hf0 hb1 hS
      obtain ⟨k, C, hk, rfl, hC, hCs, hw, hbl⟩ := hrel
      have HW := Hid.mk' hw
      clear hw
      by_cases hlt : k < 8
      · have h3 : (k : Int) < 8 := by omega
        have h4 : (0 : Int) ≤ k := by omega
        obtain ⟨v1, hv1⟩ := hC.got (j := 64 - 1 - k) (by omega)
        have hf1 := hC.frozen (64 - 1 - k)
        have e1 : ((64 - 1 : Int) - k).toNat = 64 - 1 - k := by omega
        go_wp2
        go_roundw
        case rel =>
          have q := last_step hCs (by omega) HW.out
          have e2 : lenB T 64 (64 - 1 - k) = T * 8 / 2 ^ (8 * k) % 256 := by unfold lenB; rw [show 64 - 1 - (64 - 1 - k) = k by omega]
          rw [e2] at q
          exact ⟨k + 1, _, by omega, by go_num, hC.set _ _, by simp [hCs], q, hbl.setCell (Nat.le_refl _) _⟩
        case measure => simp [intOf]; omega
      · obtain rfl : k = 8 := by omega
        go_wp2
        go_ret
        exact ⟨C, rfl, hC, hCs, HW.out, hbl⟩
end Go.Proofs.Ytbfelelngoonjaa
/- Layer oracle: what the layers below give. -/
namespace Go.Proofs.Ytbfelelngoonjaa
open Go.RowKit
set_option maxRecDepth 100000
set_option linter.unusedVariables false
set_option linter.unusedSimpArgs false

/-- An array written by a rule. -/
def arr (n : Nat) (f : Nat → Value) : Array Value := ((List.range n).map f).toArray
theorem arr_size (n : Nat) (f : Nat → Value) : (arr n f).size = n := by simp [arr]
theorem arr_get {n : Nat} {f : Nat → Value} {t : Nat} (h : t < n) : (arr n f)[t]? = some (f t) := by simp [arr, h]
theorem arr_eq {C : Array Value} {n : Nat} {f : Nat → Value} (hs : C.size = n) (h : ∀ t, t < n → C[t]? = some (f t)) : C = arr n f := by
  apply Array.ext_getElem?
  intro i
  by_cases hi : i < n
  · rw [h i hi, arr_get hi]
  · rw [Array.getElem?_eq_none (by omega), Array.getElem?_eq_none (by rw [arr_size]; omega)]
def u8s (n : Nat) (f : Nat → Int) : Array Value := arr n fun t => .int .u8 (f t)
end Go.Proofs.Ytbfelelngoonjaa
/- Layer oracle: what the layers below give. -/
namespace Go.Proofs.Ytbfelelngoonjaa
open Go.RowKit
set_option maxRecDepth 100000
set_option linter.unusedVariables false
set_option linter.unusedSimpArgs false

def St.at (s : St) (i : Nat) : Int := match i with | 0 => s.a | 1 => s.b | 2 => s.c | 3 => s.d | 4 => s.e | 5 => s.f | 6 => s.g | _ => s.h
def outB (s : St) (t : Nat) : Int := s.at (t / 4) / 2 ^ (24 - 8 * (t % 4)) % 256
theorem index48 (s : St) (k : Nat) (hk : k < 8) (w : World) : (Instr.index 79 (.agg s.cells) (.int .i64 k)).run Try.prog w = .ok (.int .u32 (s.at k)) w := by
  match k, hk with
  | 0, _ => rfl
  | 1, _ => rfl
  | 2, _ => rfl
  | 3, _ => rfl
  | 4, _ => rfl
  | 5, _ => rfl
  | 6, _ => rfl
  | 7, _ => rfl
theorem outB_at (s : St) (k i : Nat) (hi : i < 4) : outB s (4 * k + i) = s.at k / 2 ^ (24 - 8 * i) % 256 := by
  unfold outB; rw [show (4 * k + i) / 4 = k by omega, show (4 * k + i) % 4 = i by omega]
set_option maxRecDepth 100000 in
set_option maxHeartbeats 1000000 in
theorem fromWords_any (s : St) (w : World) :
    Calls Try.prog 50 #[.agg s.cells] w fun e w' => ∃ C : Array Value, e = .returned (.agg C) ∧ C.size = 32 ∧ (∀ t, t < 32 → C[t]? = some (.int .u8 (outB s t))) ∧ Below w.heap.size w w' := by
  have hA : ∀ o1 o2, Arr (((w.alloc (.cells s.cells 79)).alloc o1).alloc o2) w.heap.size 79 s.cells := fun o1 o2 => ((Arr.new _ _ _).alloc _).alloc _
  go_enter Try.func50, Try.ntmps50
  go_wp2_with (refine wpList_load_row rfl 79 (.tmp 1) rfl w.heap.size rfl 79 s.cells (0, 0) _ (hA _ _) Try.underlying79 rfl (s48 _) ?_)
  go_loopw [7] (fun i wr => ∃ (k : Nat) (C Z : Array Value), k ≤ 8 ∧ i = .int .i64 k ∧ Arr wr (w.heap.size + 1) 32 Z ∧ Arr wr (w.heap.size + 1 + 1) 32 C ∧ Z.size = 32 ∧ C.size = 32 ∧ (∀ t, t < 4 * k → C[t]? = some (.int .u8 (outB s t))) ∧ Below w.heap.size w wr)
    (fun i _ => 8 - (intOf i).toNat)
  case atStart => exact ⟨0, _, _, by omega, rfl, by simpa using (Arr.new (w.alloc _) 32 _).alloc _, by simpa using Arr.new ((w.alloc _).alloc _) 32 _, rfl, rfl, fun t h => by omega, (((Below.refl _ _).alloc (by simp) _).alloc (by simp) _).alloc (by simp; omega) _⟩
  case round =>
    obtain ⟨k, C, Z, hk, rfl, hZ, hC, hZs, hCs, hw, hbl⟩ := hrel
    by_cases hlt : k < 8
    · have h3 : (k : Int) < 8 := by omega
      have h4 : (0 : Int) ≤ k := by omega
      have hix := index48 s k hlt
      have c0 : wr.cell? ⟨w.heap.size + 1 + 1, 4 * k, none⟩ = some (C[4 * k]'(by omega)) := by rw [hC.cell, Array.getElem?_eq_getElem]
      have c1 : wr.cell? ⟨w.heap.size + 1 + 1, 4 * k + 1, none⟩ = some (C[4 * k + 1]'(by omega)) := by rw [hC.cell, Array.getElem?_eq_getElem]
      have c2 : wr.cell? ⟨w.heap.size + 1 + 1, 4 * k + 2, none⟩ = some (C[4 * k + 2]'(by omega)) := by rw [hC.cell, Array.getElem?_eq_getElem]
      have c3 : wr.cell? ⟨w.heap.size + 1 + 1, 4 * k + 3, none⟩ = some (C[4 * k + 3]'(by omega)) := by rw [hC.cell, Array.getElem?_eq_getElem]
      have f0 := hC.frozen (4 * k)
      have f1 := hC.frozen (4 * k + 1)
      have f2 := hC.frozen (4 * k + 2)
      have f3 := hC.frozen (4 * k + 3)
      go_wp2
      go_roundw
      case rel =>
        clear c0 c1 c2 c3 f0 f1 f2 f3 hix
        have o0 := outB_at s k 0 (by omega)
        have o1 := outB_at s k 1 (by omega)
        have o2 := outB_at s k 2 (by omega)
        have o3 := outB_at s k 3 (by omega)
        have q0 := set_step (f := fun t => .int .u8 (outB s t)) hCs (by omega) hw
        have q1 := set_step (f := fun t => .int .u8 (outB s t)) (k := 4 * k + 1) (n := 32) (by simp [hCs]) (by omega) q0
        have q2 := set_step (f := fun t => .int .u8 (outB s t)) (k := 4 * k + 2) (n := 32) (by simp [hCs]) (by omega) q1
        have q3 := set_step (f := fun t => .int .u8 (outB s t)) (k := 4 * k + 3) (n := 32) (by simp [hCs]) (by omega) q2
        have e0 : s.at k / 16777216 % 256 = outB s (4 * k) := o0.symm
        have e1 : s.at k / 65536 % 256 = outB s (4 * k + 1) := o1.symm
        have e2 : s.at k / 256 % 256 = outB s (4 * k + 2) := o2.symm
        have e3 : s.at k % 256 = outB s (4 * k + 3) := by rw [o3]; simp
        rw [e0, e1, e2, e3]
        exact ⟨k + 1, _, Z, by omega, by go_num, (((hZ.setOther _ (by simp)).setOther _ (by simp)).setOther _ (by simp)).setOther _ (by simp), (((hC.set _ _).set _ _).set _ _).set _ _, hZs, by simp [hCs], q3, (((hbl.setCell (by simp; omega) _).setCell (by simp; omega) _).setCell (by simp; omega) _).setCell (by simp; omega) _⟩
      case measure => simp [intOf]; omega
    · obtain rfl : k = 8 := by omega
      have s24 : (Try.prog.info? 32).map (·.size) = some C.size := by rw [hCs]; exact size24
      have o24 := one_ints hCs hw
      have z24 : Z.size = C.size := by rw [hZs, hCs]
      go_wp2_with (first | (refine wpList_load_row rfl 32 (.tmp 3) rfl (w.heap.size + 1 + 1) rfl 32 C (0, 0) _ hC Try.underlying32 rfl s24 ?_) | (refine wpList_store_arr rfl 32 (.tmp 2) (.tmp 38) rfl (w.heap.size + 1) C rfl rfl 32 Z hZ s24 z24 o24 ?_))
      exact bodyPost_ret (v := .agg C) (results_cell_row Try.results50 _ _ (w.heap.size + 1) 32 C (0, 0) _ rfl (hZ.setRow C) Try.underlying32 rfl s24) rfl ⟨C, rfl, hCs, hw, below_setRow hbl (by omega) C⟩
end Go.Proofs.Ytbfelelngoonjaa
