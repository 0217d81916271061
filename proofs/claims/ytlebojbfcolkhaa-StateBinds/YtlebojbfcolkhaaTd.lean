import Derived.Test.YtlebojbfcolkhaaTc
namespace Go.Proofs.Ytlebojbfcolkhaa
open Go.RowKit
set_option maxRecDepth 100000

def absorbN (K B : Nat → Int) (s : St) : Nat → St
  | 0 => s
  | m + 1 => (absorbN K B s m).plus (rnd K (WW fun t => B (64 * m + t)) (absorbN K B s m) 64)

theorem Arr.row {w : World} {g ty : Nat} {C : Array Value} (h : Arr w g ty C) {n : Nat} {f : Nat → Int} (hf : ∀ t, t < n → C[t]? = some (.int .u32 (f t))) : Row w g n f := fun t ht => (h.cell t).trans (hf t ht)
theorem Row.below {w w' : World} {b n B : Nat} {f : Nat → Int} (h : Row w b n f) (hb : Below B w w') (hlt : b < B) : Row w' b n f := fun t ht => (hb.cell (p := ⟨b, t, none⟩) hlt).trans (h t ht)
theorem Row.alloc {w : World} {b n : Nat} {f : Nat → Int} (h : Row w b n f) (hlt : b < w.heap.size) (o : Obj) : Row (w.alloc o) b n f := fun t ht => by
  rw [World.cell?_alloc_lt _ _ _ hlt]; exact h t ht
theorem St.size (s : St) : s.cells.size = 8 := rfl
theorem St.one (s : St) : s.cells.all (·.oneCell') = true := by simp [St.cells, Value.oneCell']
theorem compress_cells (s : St) (bw bk : Nat) (W K : Nat → Int) (w : World) (hbw : bw < w.heap.size) (hbk : bk < w.heap.size)
    (hW : Row w bw 64 W) (hK : Row w bk 64 K) :
    Calls Try.prog 111 #[.agg s.cells, .pointer (some ⟨bw, 0, none⟩), .pointer (some ⟨bk, 0, none⟩)] w fun e w' => e = .returned (.agg (s.plus (rnd K W s 64)).cells) ∧ Below w.heap.size w w' :=
  compress_any s bw bk W K w hbw hbk hW hK
theorem s48 (s : St) : (Try.prog.info? 132).map (·.size) = some s.cells.size := size48

set_option maxRecDepth 100000 in
set_option maxHeartbeats 1000000 in
theorem absorb_any (s : St) (b off cap m bk : Nat) (K B : Nat → Int) (w : World) (hB : Bytes w b off (64 * m) B) (hcap : 64 * m ≤ cap) (hcap2 : 64 * m ≤ 140737488355328) (hbk : bk < w.heap.size) (hK : Row w bk 64 K) :
    Calls Try.prog 95 #[.agg s.cells, .slice (some ⟨b, off, none⟩) (64 * m) cap, .pointer (some ⟨bk, 0, none⟩)] w fun e w' => e = .returned (.agg (absorbN K B s m).cells) ∧ Below w.heap.size w w' := by
  have hs8 := St.size s
  go_enter Try.func95, Try.ntmps95
  go_wp2_with fail
  go_loopw [7] (fun i wr => ∃ j : Nat, j ≤ m ∧ i = .int .i64 (64 * (j : Int)) ∧ Arr wr w.heap.size 132 (absorbN K B s j).cells ∧ (∃ Z : St, Arr wr (w.heap.size + 1) 132 Z.cells) ∧ Below w.heap.size w wr)
    (fun i _ => 64 * m - (intOf i).toNat)
  case atStart => exact ⟨0, by omega, rfl, (Arr.new _ _ _).alloc _, ⟨⟨0, 0, 0, 0, 0, 0, 0, 0⟩, by simpa [St.cells] using Arr.new (w.alloc _) 132 _⟩, ((Below.refl _ _).alloc (by simp) _).alloc (by simp) _⟩
  case round =>
    obtain ⟨j, hj, rfl, hA, ⟨Z, hZ⟩, hbl⟩ := hrel
    have h3 : (j : Int) ≤ m := by omega
    have h4 : (0 : Int) ≤ j := by omega
    by_cases hlt : j < m
    · have hb : b < w.heap.size := block_lt_of_cell (hB 0 (by omega))
      have hB' : Bytes wr b (off + 64 * j) 64 (fun t => B (64 * j + t)) := fun t ht => by
        have := (hbl.cell (p := ⟨b, off + (64 * j + t), none⟩) hb).trans (hB (64 * j + t) (by omega))
        rw [← Nat.add_assoc] at this; exact this
      have hbr : b < wr.heap.size := Nat.lt_of_lt_of_le hb hbl.size
      have hl : 64 * j + 64 - 64 * j = 64 := by omega
      have h5 : (j : Int) + 1 ≤ m := by omega
      have HB : Hid (Bytes w b off (64 * m) B) := hB
      have HK : Hid (Row w bk 64 K) := hK
      clear hB hK
      have hbkr : bk < wr.heap.size := Nat.lt_of_lt_of_le hbk hbl.size
      have hKr : Row wr bk 64 K := HK.out.below hbl hbk
      go_wp2_with (first
        | (go_at_call 110; go_must (refine (schedule_any b (off + 64 * j) 64 (fun t => B (64 * j + t)) wr hbr hB' (by omega)).mono ?_; rintro e w1 ⟨C, rfl, hCs, hCw, hb1⟩; have hA1 := (hA.below hb1 hA.lt).alloc (.cells C 141); have hZ1 := (hZ.below hb1 hZ.lt).alloc (.cells C 141); have hW1 := (Arr.new w1 141 C).row hCw; have hbk1 : bk < (w1.alloc (.cells C 141)).heap.size := Nat.lt_of_lt_of_le hbkr (Nat.le_trans hb1.size (by simp)); have hK1 := (hKr.below hb1 hbkr).alloc (Nat.lt_of_lt_of_le hbkr hb1.size) (.cells C 141)))
        | (refine wpList_store_new w1 _ 141 (by rfl) 141 (.tmp 8) (.tmp 22) (by rfl) C (by rfl) (by rfl) (by rw [hCs]; exact size46) (Eq.trans (by rfl) hCs.symm) (one_ints hCs hCw) ?_)
        | (refine wpList_load_row rfl 132 (.tmp 3) rfl w.heap.size rfl 132 (absorbN K B s j).cells (0, 0) _ hA1 Try.underlying132 rfl (s48 _) ?_)
        | (go_at_call 111; go_must (refine (compress_cells (absorbN K B s j) w1.heap.size bk (WW fun t => B (64 * j + t)) K (w1.alloc (.cells C 141)) (by simp) hbk1 hW1 hK1).mono ?_; rintro e w2 ⟨rfl, hb2⟩; have hA2 := hA1.below hb2 hA1.lt; have hZ2 := hZ1.below hb2 hZ1.lt))
        | (refine wpList_store_arr rfl 132 (.tmp 3) (.tmp 25) rfl w.heap.size (absorbN K B s (j + 1)).cells rfl rfl 132 _ hA2 (s48 _) rfl (St.one _) ?_))
      go_roundw
      case rel => exact ⟨j + 1, by omega, by go_num, hA2.setRow _, ⟨Z, hZ2.setRowOther _ (by omega)⟩, below_setRow ((hbl.trans (hb1.mono hbl.size)).trans (((Below.refl _ _).alloc (Nat.le_trans hbl.size hb1.size) _).trans (hb2.mono (by simp; have := hbl.size; have := hb1.size; omega)))) (by omega) _⟩
      case measure => simp [intOf]; omega
    · obtain rfl : j = m := by omega
      clear hB hK
      go_wp2_with (first
        | (refine wpList_load_row rfl 132 (.tmp 3) rfl w.heap.size rfl 132 (absorbN K B s j).cells (0, 0) _ hA Try.underlying132 rfl (s48 _) ?_)
        | (refine wpList_store_arr rfl 132 (.tmp 6) (.tmp 26) rfl (w.heap.size + 1) (absorbN K B s j).cells rfl rfl 132 _ hZ (s48 _) rfl (St.one _) ?_))
      exact bodyPost_ret (v := .agg (absorbN K B s j).cells) (results_cell_row Try.results95 _ _ (w.heap.size + 1) 132 _ (0, 0) _ rfl (hZ.setRow _) Try.underlying132 rfl (s48 _)) rfl ⟨rfl, below_setRow hbl (by omega) _⟩

set_option maxRecDepth 100000 in
set_option maxHeartbeats 1000000 in
theorem absorb_zero (s : St) (ad : Option Addr) (cap bk : Nat) (w : World) :
    Calls Try.prog 95 #[.agg s.cells, .slice ad 0 cap, .pointer (some ⟨bk, 0, none⟩)] w fun e w' => e = .returned (.agg s.cells) ∧ Below w.heap.size w w' := by
  have hA : Arr ((w.alloc (.cells s.cells 132)).alloc (.cells (St.cells ⟨0, 0, 0, 0, 0, 0, 0, 0⟩) 132)) w.heap.size 132 s.cells := (Arr.new _ _ _).alloc _
  have hZ : Arr ((w.alloc (.cells s.cells 132)).alloc (.cells (St.cells ⟨0, 0, 0, 0, 0, 0, 0, 0⟩) 132)) (w.heap.size + 1) 132 (St.cells ⟨0, 0, 0, 0, 0, 0, 0, 0⟩) := by simpa using Arr.new (w.alloc (.cells s.cells 132)) 132 _
  go_enter Try.func95, Try.ntmps95
  go_wp2_with fail
  go_loopw [7] (fun i wr => i = .int .i64 0 ∧ wr = (w.alloc (.cells s.cells 132)).alloc (.cells (St.cells ⟨0, 0, 0, 0, 0, 0, 0, 0⟩) 132)) (fun _ _ => 0)
  case atStart => exact ⟨rfl, rfl⟩
  case round =>
    obtain ⟨rfl, rfl⟩ := hrel
    go_wp2_with (first
        | (refine wpList_load_row rfl 132 (.tmp 3) rfl w.heap.size rfl 132 s.cells (0, 0) _ hA Try.underlying132 rfl (s48 _) ?_)
        | (refine wpList_store_arr rfl 132 (.tmp 6) (.tmp 26) rfl (w.heap.size + 1) s.cells rfl rfl 132 _ hZ (s48 _) rfl (St.one _) ?_))
    exact bodyPost_ret (v := .agg s.cells) (results_cell_row Try.results95 _ _ (w.heap.size + 1) 132 _ (0, 0) _ rfl (hZ.setRow _) Try.underlying132 rfl (s48 _)) rfl ⟨rfl, below_setRow (((Below.refl _ _).alloc (by simp) _).alloc (by simp) _) (by omega) _⟩
end Go.Proofs.Ytlebojbfcolkhaa
