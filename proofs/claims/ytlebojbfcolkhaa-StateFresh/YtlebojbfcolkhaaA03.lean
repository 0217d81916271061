/- Th, Ti, Tj. -/
import Derived.Test.YtlebojbfcolkhaaTg
import Derived.Deep.RegionWith
import Derived.Deep.DeepCutAuto
import Derived.Test.YtlebojbfcolkhaaA02
import Derived.Laws.BytesArg
import Derived.Deep.RegionLaw
import Derived.ChangeKeysEq
import Derived.Lib.SlBytesConst
namespace Go.Proofs.Ytlebojbfcolkhaa
open Go.RowKit
set_option maxRecDepth 100000
theorem Arr.cells8 {w : World} {g t : Nat} {s : St} (h : Arr w g t s.cells) : w.cell? ⟨g, 0, none⟩ = some (.int .u32 s.a) ∧ w.cell? ⟨g, 1, none⟩ = some (.int .u32 s.b) ∧ w.cell? ⟨g, 2, none⟩ = some (.int .u32 s.c) ∧ w.cell? ⟨g, 3, none⟩ = some (.int .u32 s.d) ∧ w.cell? ⟨g, 4, none⟩ = some (.int .u32 s.e) ∧ w.cell? ⟨g, 5, none⟩ = some (.int .u32 s.f) ∧ w.cell? ⟨g, 6, none⟩ = some (.int .u32 s.g) ∧ w.cell? ⟨g, 7, none⟩ = some (.int .u32 s.h) :=
  ⟨h.cell 0, h.cell 1, h.cell 2, h.cell 3, h.cell 4, h.cell 5, h.cell 6, h.cell 7⟩
theorem Arr.frozen8 {w : World} {g t : Nat} {C : Array Value} (h : Arr w g t C) : w.frozen? ⟨g, 0, none⟩ = false ∧ w.frozen? ⟨g, 1, none⟩ = false ∧ w.frozen? ⟨g, 2, none⟩ = false ∧ w.frozen? ⟨g, 3, none⟩ = false ∧ w.frozen? ⟨g, 4, none⟩ = false ∧ w.frozen? ⟨g, 5, none⟩ = false ∧ w.frozen? ⟨g, 6, none⟩ = false ∧ w.frozen? ⟨g, 7, none⟩ = false :=
  ⟨h.frozen 0, h.frozen 1, h.frozen 2, h.frozen 3, h.frozen 4, h.frozen 5, h.frozen 6, h.frozen 7⟩
theorem Arr.store8 {w : World} {g t : Nat} {r : St} (h : Arr w g t r.cells) (s : St) : (storeCells ⟨g, 0, none⟩ s.cells.toList).run Try.prog w = .ok () (w.setRow g s.cells) := by
  have := run_storeCells_from (P := Try.prog) g t s.cells.toList 0 r.cells w h rfl (fun v hv => (Array.all_eq_true_iff_forall_mem.1 (St.one s)) v (by simpa using hv))
  simpa using this

/-- The eight words behind all blocks: m whole ones, and the last n bytes. -/
def shaSt (B : Nat → Int) (m r : Nat) : St :=
  absorbN kOf (padB (fun t => B (64 * m + t)) (64 * m + r) r (if 55 < r then 128 else 64)) (absorbN kOf B h0St m) (if 55 < r then 2 else 1)
theorem shaSt_two {B : Nat → Int} {m r : Nat} (h : 55 < r) : shaSt B m r = absorbN kOf (padB (fun t => B (64 * m + t)) (64 * m + r) r 128) (absorbN kOf B h0St m) 2 := by simp [shaSt, h]
theorem shaSt_one {B : Nat → Int} {m r : Nat} (h : ¬ 55 < r) : shaSt B m r = absorbN kOf (padB (fun t => B (64 * m + t)) (64 * m + r) r 64) (absorbN kOf B h0St m) 1 := by simp [shaSt, h]

set_option maxRecDepth 100000 in
set_option maxHeartbeats 2000000 in
theorem sum_some (b off m r cap : Nat) (B : Nat → Int) (w : World) (hB : Bytes w b off (64 * m + r) B) (hr : r < 64) (hcap : 64 * m + r ≤ cap) (hcap2 : 64 * m + r ≤ 140737488355328) :
    Calls Try.prog 79 #[.slice (some ⟨b, off, none⟩) (64 * m + r) cap] w fun e w' => ∃ C : Array Value, e = .returned (.agg C) ∧ C.size = 32 ∧ (∀ t, t < 32 → C[t]? = some (.int .u8 (outB (shaSt B m r) t))) ∧ Below w.heap.size w w' := by
  have hrI : (r : Int) < 64 := by omega
  have hr0 : (0 : Int) ≤ r := by omega
  have hm0 : (0 : Int) ≤ m := by omega
  have hcI : (64 * (m : Int) + r) ≤ cap := by omega
  have hcI2 : 64 * (m : Int) + r ≤ 140737488355328 := by omega
  have hcI3 : (64 * (m : Int)) ≤ cap := by omega
  have hmod : (64 * (m : Int) + r) % 64 = r := by omega
  go_enter Try.func79, Try.ntmps79
  go_upto_region 4 with (first
    | (go_at_call 93; go_must (refine (roundNumbers_any _).mono ?_; rintro e w1 ⟨rfl, hb1⟩))
    | (refine wpList_store_new w1 _ 141 (by rfl) 141 (.tmp 3) (.tmp 6) (by rfl) kCells (by rfl) (by rfl) (Eq.trans size46 (by rfl)) (by rfl) (one_ints kCells_size kCells_get) ?_)
    | (go_at_call 94; go_must (refine (firstWords_any _).mono ?_; rintro e w2 ⟨rfl, hb2⟩))
    | (refine wpList_store_new w2 _ 132 (by rfl) 132 (.tmp 4) (.tmp 7) (by rfl) h0St.cells (by rfl) (by rfl) (s48 _) (by rfl) (St.one _) ?_))
  have hA4 : Arr (w2.alloc (.cells h0St.cells 132)) w2.heap.size 132 h0St.cells := Arr.new _ _ _
  have hK3 : Arr (w2.alloc (.cells h0St.cells 132)) w1.heap.size 141 kCells := ((Arr.new w1 141 kCells).below hb2 (by simp)).alloc _
  have hg34 : w.heap.size < w1.heap.size := by have := hb1.size; simp at this; omega
  have hg45 : w1.heap.size < w2.heap.size := by have := hb2.size; simp at this; omega
  have hbl : Below w.heap.size w (w2.alloc (.cells h0St.cells 132)) :=
    ((((((Below.refl _ _).alloc (Nat.le_refl _) _).trans (hb1.mono (by simp))).alloc (by omega) _).trans (hb2.mono (by simp; omega))).alloc (by omega) _)
  have hR : ∃ Z : Array Value, Z.size = 32 ∧ Arr (w2.alloc (.cells h0St.cells 132)) w.heap.size 24 Z :=
    ⟨_, by rfl, ((((Arr.new w 24 _).below hb1 (by simp)).alloc _).below hb2 (by simp; omega)).alloc _⟩
  obtain ⟨Z, hZs, hZ⟩ := hR
  clear hb1 hb2
  generalize w2.alloc (.cells h0St.cells 132) = W at *
  generalize w2.heap.size = g4 at *
  generalize w1.heap.size = g3 at *
  go_cut [] from 6 (fun wc => Arr wc g4 132 (absorbN kOf B h0St m).cells ∧ Arr wc g3 141 kCells ∧ Arr wc w.heap.size 24 Z ∧ Below w.heap.size w wc)
  case first =>
    obtain ⟨c0, c1, c2, c3, c4, c5, c6, c7⟩ := hA4.cells8
    have hBW : Bytes W.drew b off (64 * m) B := fun t ht => (hbl.cell (p := ⟨b, off + t, none⟩) (block_lt_of_cell (hB t (by omega)))).trans (hB t (by omega))
    have hKW : Row W.drew g3 64 kOf := hK3.row kCells_get
    go_region_with (first
      | (go_at_call 95; go_must (refine (absorb_any h0St b off (64 * m) m g3 kOf B _ hBW (by omega) (by omega) hK3.lt hKW).mono ?_; rintro e w3 ⟨rfl, hb3⟩; have hA5 := hA4.drew.below hb3 hA4.lt; have hst := hA5.store8 (absorbN kOf B h0St m))))
    all_goals
      go_wp2_with fail
      go_meet
      exact ⟨hA5.setRow _, (hK3.drew.below hb3 hK3.lt).setRowOther _ (by omega), (hZ.drew.below hb3 hZ.lt).setRowOther _ (by omega), below_setRow (hbl.drew.trans (hb3.mono hbl.size)) (by omega) _⟩
  case rest =>
    clear hA4 hK3 hbl hZ
    obtain ⟨hA4, hK3, hZ, hbl⟩ := hcut
    go_upto_region 5 with fail
    have hl : 64 * m + r - 64 * m = r := by omega
    have hS : Sl wc.drew (some ⟨b, off + 64 * m, none⟩) r (fun t => B (64 * m + t)) := fun h0 => ⟨b, off + 64 * m, rfl, fun t ht => by
      have h1 := hB (64 * m + t) (by omega)
      have := (hbl.cell (p := ⟨b, off + (64 * m + t), none⟩) (block_lt_of_cell h1)).trans h1
      rw [← Nat.add_assoc] at this; exact this⟩
    obtain ⟨c0, c1, c2, c3, c4, c5, c6, c7⟩ := hA4.cells8
    go_cut [] from 6 (fun wc => Arr wc g4 132 (shaSt B m r).cells ∧ Arr wc w.heap.size 24 Z ∧ Below w.heap.size w wc)
    case first =>
      by_cases h55 : 55 < r
      · go_region_with (first
        | (go_at_call 96; go_must (refine (lastBlocks_any _ r _ 128 _ (fun t => B (64 * m + t)) wc.drew hS (Or.inl ⟨h55, rfl⟩) hr (by omega) (by omega)).mono ?_; rintro e w4 ⟨C, rfl, hC, hCs, hCw, hb4⟩; have hA6 := hA4.drew.below hb4 hA4.lt; have hK6 := (hK3.drew.below hb4 hK3.lt).row kCells_get; have hg3 := (hK3.drew.below hb4 hK3.lt).lt; have hBy : Bytes w4 wc.heap.size 0 (64 * 2) (padB (fun t => B (64 * m + t)) (64 * m + r) r 128) := (fun t ht => by rw [Nat.zero_add]; exact (hC.cell t).trans (hCw t ht)); obtain ⟨c0, c1, c2, c3, c4, c5, c6, c7⟩ := hA6.cells8; clear hCw))
        | (go_at_call 95; go_must (refine (absorb_any (absorbN kOf B h0St m) wc.heap.size 0 128 2 g3 kOf _ w4 hBy (by omega) (by omega) hg3 hK6).mono ?_; rintro e w5 ⟨rfl, hb5⟩; have hA7 := hA6.below hb5 hA6.lt; have hst := hA7.store8 (absorbN kOf (padB (fun t => B (64 * m + t)) (64 * m + r) r 128) (absorbN kOf B h0St m) 2))))
        all_goals
          go_wp2_with fail
          go_meet
          rw [shaSt_two h55]
          exact ⟨hA7.setRow _, (((hZ.drew.below hb4 hZ.lt).below hb5 (hZ.drew.below hb4 hZ.lt).lt)).setRowOther _ (by omega), below_setRow ((hbl.drew.trans (hb4.mono hbl.size)).trans (hb5.mono (Nat.le_trans hbl.size hb4.size))) (by omega) _⟩
      · by_cases hc : 64 * m = cap
        · obtain rfl : r = 0 := by omega
          subst hc
          have hS0 : Sl wc.drew (some ⟨b, off, none⟩) 0 (fun t => B (64 * m + t)) := fun h0 => absurd h0 (by omega)
          have e0 : (64 * (m : Int) + ((0 : Nat) : Int)) = 64 * m := by omega
          go_region_with (first
            | (go_at_call 96; go_must (refine (lastBlocks_any (some ⟨b, off, none⟩) 0 0 64 (64 * m) (fun t => B (64 * m + t)) wc.drew hS0 (Or.inr ⟨Nat.le_of_not_lt h55, rfl⟩) hr (by omega) (by omega)).mono ?_; rintro e w4 ⟨C, rfl, hC, hCs, hCw, hb4⟩; have hA6 := hA4.drew.below hb4 hA4.lt; have hK6 := (hK3.drew.below hb4 hK3.lt).row kCells_get; have hg3 := (hK3.drew.below hb4 hK3.lt).lt; have hBy : Bytes w4 wc.heap.size 0 (64 * 1) (padB (fun t => B (64 * m + t)) (64 * m) 0 64) := (fun t ht => by rw [Nat.zero_add]; exact (hC.cell t).trans (hCw t ht)); obtain ⟨c0, c1, c2, c3, c4, c5, c6, c7⟩ := hA6.cells8; clear hCw))
            | (go_at_call 95; go_must (refine (absorb_any (absorbN kOf B h0St m) wc.heap.size 0 64 1 g3 kOf _ w4 hBy (by omega) (by omega) hg3 hK6).mono ?_; rintro e w5 ⟨rfl, hb5⟩; have hA7 := hA6.below hb5 hA6.lt; have hst := hA7.store8 (absorbN kOf (padB (fun t => B (64 * m + t)) (64 * m) 0 64) (absorbN kOf B h0St m) 1))))
          all_goals
            go_wp2_with fail
            go_meet
            rw [shaSt_one h55, e0]
            exact ⟨hA7.setRow _, (((hZ.drew.below hb4 hZ.lt).below hb5 (hZ.drew.below hb4 hZ.lt).lt)).setRowOther _ (by omega), below_setRow ((hbl.drew.trans (hb4.mono hbl.size)).trans (hb5.mono (Nat.le_trans hbl.size hb4.size))) (by omega) _⟩
        · have hc1 : 64 * m < cap := by omega
          have hc2 : (64 * (m : Int)) < cap := by omega
          go_region_with (first
            | (go_at_call 96; go_must (refine (lastBlocks_any _ r _ 64 _ (fun t => B (64 * m + t)) wc.drew hS (Or.inr ⟨Nat.le_of_not_lt h55, rfl⟩) hr (by omega) (by omega)).mono ?_; rintro e w4 ⟨C, rfl, hC, hCs, hCw, hb4⟩; have hA6 := hA4.drew.below hb4 hA4.lt; have hK6 := (hK3.drew.below hb4 hK3.lt).row kCells_get; have hg3 := (hK3.drew.below hb4 hK3.lt).lt; have hBy : Bytes w4 wc.heap.size 0 (64 * 1) (padB (fun t => B (64 * m + t)) (64 * m + r) r 64) := (fun t ht => by rw [Nat.zero_add]; exact (hC.cell t).trans (hCw t ht)); obtain ⟨c0, c1, c2, c3, c4, c5, c6, c7⟩ := hA6.cells8; clear hCw))
            | (go_at_call 95; go_must (refine (absorb_any (absorbN kOf B h0St m) wc.heap.size 0 64 1 g3 kOf _ w4 hBy (by omega) (by omega) hg3 hK6).mono ?_; rintro e w5 ⟨rfl, hb5⟩; have hA7 := hA6.below hb5 hA6.lt; have hst := hA7.store8 (absorbN kOf (padB (fun t => B (64 * m + t)) (64 * m + r) r 64) (absorbN kOf B h0St m) 1))))
          all_goals
            go_wp2_with fail
            go_meet
            rw [shaSt_one h55]
            exact ⟨hA7.setRow _, (((hZ.drew.below hb4 hZ.lt).below hb5 (hZ.drew.below hb4 hZ.lt).lt)).setRowOther _ (by omega), below_setRow ((hbl.drew.trans (hb4.mono hbl.size)).trans (hb5.mono (Nat.le_trans hbl.size hb4.size))) (by omega) _⟩
    case rest =>
      clear hA4 hK3 hbl hZ hS c0 c1 c2 c3 c4 c5 c6 c7
      obtain ⟨hA4, hZ, hbl⟩ := hcut
      go_wp2_with (first
        | (refine wpList_load_row rfl 132 (.tmp 4) rfl g4 rfl 132 (shaSt B m r).cells (0, 0) _ hA4 Try.underlying132 rfl (s48 _) ?_)
        | (go_at_call 97; go_must (refine (fromWords_any (shaSt B m r) _).mono ?_; rintro e w6 ⟨C, rfl, hCs, hCw, hb6⟩; have hZ6 := hZ.below hb6 hZ.lt))
        | (refine wpList_store_arr rfl 24 (.tmp 2) (.tmp 29) rfl w.heap.size C rfl rfl 24 Z hZ6 (by rw [hCs]; exact size24) (by rw [hCs]; exact hZs) (one_ints hCs hCw) ?_))
      exact bodyPost_ret (v := .agg C) (results_cell_row Try.results79 _ _ w.heap.size 24 C (0, 0) _ rfl (hZ6.setRow C) Try.underlying24 rfl (by rw [hCs]; exact size24)) rfl ⟨C, rfl, hCs, hCw, below_setRow (hbl.trans (hb6.mono hbl.size)) (Nat.le_refl _) C⟩
end Go.Proofs.Ytlebojbfcolkhaa
namespace Go.Proofs.Ytlebojbfcolkhaa
open Go.RowKit
set_option maxRecDepth 100000

/-- An array written by a rule. -/
def arr (n : Nat) (f : Nat → Value) : Array Value := ((List.range n).map f).toArray
theorem arr_size (n : Nat) (f : Nat → Value) : (arr n f).size = n := by simp [arr]
theorem arr_get {n : Nat} {f : Nat → Value} {t : Nat} (h : t < n) : (arr n f)[t]? = some (f t) := by simp [arr, h]
theorem arr_eq {C : Array Value} {n : Nat} {f : Nat → Value} (hs : C.size = n) (h : ∀ t, t < n → C[t]? = some (f t)) : C = arr n f := by
  apply Array.ext_getElem?
  intro i
  by_cases hi : i < n
  · rw [h i hi, arr_get hi]
  · rw [Array.getElem?_eq_none (by omega), Array.getElem?_eq_none (by rw [arr_size]; omega)]
def u8s (n : Nat) (f : Nat → Int) : Array Value := arr n fun t => .int .u8 (f t)

def hexc (v : Int) : Int := if v < 10 then 48 + v else 87 + v
def hexAt (H : Nat → Int) (t : Nat) : Int := if t % 2 = 0 then hexc (H (t / 2) / 16) else hexc (H (t / 2) % 16)
def hexd : ByteArray := { data := #[48, 49, 50, 51, 52, 53, 54, 55, 56, 57, 97, 98, 99, 100, 101, 102] }

theorem hexd_get (v : Nat) (h : v < 16) (h' : v < hexd.size) : (((hexd[v]'h').toNat : Nat) : Int) = hexc v := by
  have : ∀ v : Fin 16, ((hexd.data[v.val]'(by exact v.isLt)).toNat : Int) = hexc v.val := by decide +kernel
  exact this ⟨v, h⟩

theorem index_hex (v : Int) (h0 : 0 ≤ v) (h1 : v < 16) (w : World) : (Instr.index 9 (.string hexd) (.int .u8 v)).run Try.prog w = .ok (.int .u8 (hexc v)) w := by
  obtain ⟨k, rfl⟩ : ∃ k : Nat, v = k := ⟨v.toNat, by omega⟩
  have hs : hexd.size = 16 := rfl
  rw [run_index_string w 9 hexd .u8 k Try.underlying9, dif_pos (by rw [hs]; omega)]
  rw [show ((hexd[(k : Int).toNat]'(by rw [hs]; omega)).toNat : Int) = hexc k from hexd_get k (by omega) (by rw [hs]; omega)]

theorem index24 (C : Array Value) (f : Nat → Int) (hC : ∀ t, t < 32 → C[t]? = some (.int .u8 (f t))) (k : Nat) (hk : k < 32) (w : World) :
    (Instr.index 24 (.agg C) (.int .i64 k)).run Try.prog w = .ok (.int .u8 (f k)) w := by
  have e : C[k]? = some (.int .u8 (f k)) := hC k hk
  simp [Instr.index, asIntOf, run_underlying Try.underlying24, Try.sizeOf5, part, Try.isAgg5, hk, e]

theorem and15 (b : Int) (h0 : 0 ≤ b) (h1 : b ≤ 255) : bits .and .u8 b 15 = b % 16 := by
  obtain ⟨k, rfl⟩ : ∃ k : Nat, b = k := ⟨b.toNat, by omega⟩
  have : ∀ k : Fin 256, bits .and .u8 (k.val : Int) 15 = (k.val : Int) % 16 := by decide +kernel
  exact this ⟨k, by omega⟩

theorem two_cells {W : World} {g t : Nat} {a b : Value} (h : Arr W g t #[a, b]) : ∀ (j : Nat) (u : Value), [a, b][j]? = some u → W.cell? ((⟨g, 0, none⟩ : Addr).add j) = some u := by
  intro j u hj
  rw [Addr.add_mid, Nat.zero_add, h.cell j]
  simpa using hj
theorem Arr.spare {W : World} {g t o n : Nat} {D : Array Value} (h : Arr W g t D) (hn : o + n ≤ D.size) : ∀ j, j < n → (W.cell? ⟨g, o + j, none⟩).isSome = true ∧ W.frozen? ⟨g, o + j, none⟩ = false := fun j hj =>
  ⟨by rw [h.cell, Array.getElem?_eq_getElem (by omega)]; rfl, h.frozen _⟩

def hexS (H : Nat → Int) : ByteArray := strOfNums ((List.range 64).map (hexAt H))

end Go.Proofs.Ytlebojbfcolkhaa
namespace Go.Proofs.Ytlebojbfcolkhaa
open Go.RowKit
set_option maxRecDepth 100000

/-- Byte t of the sum of n bytes. -/
def shaB (B : Nat → Int) (n t : Nat) : Int := outB (shaSt B (n / 64) (n % 64)) t
theorem outB_range (s : St) (t : Nat) : 0 ≤ outB s t ∧ outB s t ≤ 255 := by unfold outB; omega
theorem shaB_range (B : Nat → Int) (n t : Nat) : 0 ≤ shaB B n t ∧ shaB B n t ≤ 255 := outB_range _ _
theorem u8s_size (n : Nat) (f : Nat → Int) : (u8s n f).size = n := arr_size _ _
theorem u8s_get {n : Nat} {f : Nat → Int} {t : Nat} (h : t < n) : (u8s n f)[t]? = some (.int .u8 (f t)) := arr_get h

theorem sum_any (b off n cap : Nat) (B : Nat → Int) (w : World) (hB : Bytes w b off n B) (hcap : n ≤ cap) (hn : n ≤ 140737488355328) :
    Calls Try.prog 79 #[.slice (some ⟨b, off, none⟩) n cap] w fun e w' => e = .returned (.agg (u8s 32 (shaB B n))) ∧ Below w.heap.size w w' := by
  have e : 64 * (n / 64) + n % 64 = n := Nat.div_add_mod n 64
  have := sum_some b off (n / 64) (n % 64) cap B w (by rw [e]; exact hB) (Nat.mod_lt _ (by omega)) (by omega) (by omega)
  rw [e] at this
  refine this.mono ?_
  rintro e w' ⟨C, rfl, hs, hC, hb⟩
  exact ⟨by rw [arr_eq hs hC]; rfl, hb⟩

theorem eqItems_same {P : Program} (w : World) (d : Nat) {e : TypeId} {k : IntKind} (he : P.underlying e = some (.int k)) (ha : ∀ w, (isAgg e).run P w = .ok false w) (C : Array Value) (f : Nat → Int) :
    ∀ is : List Nat, (∀ i ∈ is, C[i]? = some (.int k (f i))) → (Op.eqItems (d + 1) e 1 C C is).run P w = .ok true w
  | [], _ => by simp [Op.eqItems]
  | i :: is, h => by
    have hi := h i (by simp)
    have ih := eqItems_same w d he ha C f is (fun j hj => h j (by simp [hj]))
    simp [Op.eqItems, part, ha, hi, run_equalIn_int w d e k k _ _ he, ih]

theorem eql24 (f : Nat → Int) (w : World) : (binOp .eql 24 (.agg (u8s 32 f)) (.agg (u8s 32 f))).run Try.prog w = .ok (.bool true) w := by
  obtain ⟨i0, hi, -⟩ := info_parts info5
  have hc : Try.prog.cellsOf 5 = 1 := by kernel_rfl
  rw [run_eql_struct, run_equalIn_array w 9999 _ _ Try.underlying24 hi, hc, eqItems_same w 9998 Try.underlying5 Try.isAgg5 _ f (List.range 32) (fun i h => u8s_get (by simpa using h))]
  rfl

def abcB (t : Nat) : Int := [97, 98, 99].getD t 0
theorem abc_hex : hexS (shaB abcB 3) = ⟨#[98, 97, 55, 56, 49, 54, 98, 102, 56, 102, 48, 49, 99, 102, 101, 97, 52, 49, 52, 49, 52, 48, 100, 101, 53, 100, 97, 101, 50, 50, 50, 51, 98, 48, 48, 51, 54, 49, 97, 51, 57, 54, 49, 55, 55, 97, 57, 99, 98, 52, 49, 48, 102, 102, 54, 49, 102, 50, 48, 48, 49, 53, 97, 100]⟩ := by
  have e : shaSt abcB (3 / 64) (3 % 64) = ⟨3128432319, 2399260650, 1094795486, 1571693091, 2953011619, 2518121116, 3021012833, 4060091821⟩ := by kernel_rfl
  have e2 : ∀ t, shaB abcB 3 t = outB ⟨3128432319, 2399260650, 1094795486, 1571693091, 2953011619, 2518121116, 3021012833, 4060091821⟩ t := fun t => by unfold shaB; rw [e]
  have e3 : hexS (outB ⟨3128432319, 2399260650, 1094795486, 1571693091, 2953011619, 2518121116, 3021012833, 4060091821⟩) = ⟨#[98, 97, 55, 56, 49, 54, 98, 102, 56, 102, 48, 49, 99, 102, 101, 97, 52, 49, 52, 49, 52, 48, 100, 101, 53, 100, 97, 101, 50, 50, 50, 51, 98, 48, 48, 51, 54, 49, 97, 51, 57, 54, 49, 55, 55, 97, 57, 99, 98, 52, 49, 48, 102, 102, 54, 49, 102, 50, 48, 48, 49, 53, 97, 100]⟩ := by kernel_rfl
  rw [show shaB abcB 3 = _ from funext e2]
  exact e3

end Go.Proofs.Ytlebojbfcolkhaa
