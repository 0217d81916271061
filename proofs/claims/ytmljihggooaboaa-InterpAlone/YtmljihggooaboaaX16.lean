/- Tc, Td, Ti. -/
import Derived.Test.YtmljihggooaboaaX15
import Derived.Test.YtmljihggooaboaaX01
import Derived.BigQuiet
import Derived.BigRegion
import Derived.Deep.DrawnRows
import Derived.Deep.QuietTactic
import Derived.Deep.RegionHeld3
import Derived.Deep.WholeRow
import Derived.WalkKit
import Derived.WalkLawsBesides
import Derived.WalkSpells
import Derived.Deep.RegionLaw
import Derived.Laws.BytesArg
import Derived.Laws.CopyOwn
/- Layer interp: what the layers below give. -/
namespace Go.Proofs.Ytmljihggooaboaa
open Go.RowKit
set_option maxRecDepth 100000
set_option linter.unusedVariables false
set_option linter.unusedSimpArgs false
attribute [local go_sem ↓] Go.wp_at_zero Go.wp_at_succ

def Bytes (w : World) (b off n : Nat) (B : Nat → Int) : Prop := ∀ t, t < n → w.cell? ⟨b, off + t, none⟩ = some (.int .u8 (B t))
def word (B : Nat → Int) (t : Nat) : Int :=
  bits .or .u32 (bits .or .u32 (bits .or .u32 (B (4 * t) % 4294967296 * 16777216 % 4294967296) (B (4 * t + 1) % 4294967296 * 65536 % 4294967296)) (B (4 * t + 2) % 4294967296 * 256 % 4294967296)) (B (4 * t + 3) % 4294967296)
def wnext (l : List Int) : Int := (sg1 (l.getD (l.length - 2) 0) + l.getD (l.length - 7) 0 + sg0 (l.getD (l.length - 15) 0) + l.getD (l.length - 16) 0) % 4294967296
def wsn (B : Nat → Int) : Nat → List Int
  | 0 => (List.range 16).map (word B)
  | k + 1 => wsn B k ++ [wnext (wsn B k)]
def WW (B : Nat → Int) (t : Nat) : Int := (wsn B 48).getD t 0
theorem wsn_len (B : Nat → Int) (k : Nat) : (wsn B k).length = 16 + k := by
  induction k with
  | zero => simp [wsn]
  | succ k ih => simp [wsn, ih]; omega
theorem wsn_pre (B : Nat → Int) (j k t : Nat) (ht : t < 16 + k) : (wsn B (k + j)).getD t 0 = (wsn B k).getD t 0 := by
  induction j with
  | zero => rfl
  | succ j ih =>
    rw [← ih, ← Nat.add_assoc, wsn]
    have := wsn_len B (k + j)
    simp only [List.getD_eq_getElem?_getD]
    rw [List.getElem?_append_left (by omega)]
theorem WW_pre (B : Nat → Int) (k t : Nat) (hk : k ≤ 48) (ht : t < 16 + k) : WW B t = (wsn B k).getD t 0 := by
  have := wsn_pre B (48 - k) k t ht
  rw [show k + (48 - k) = 48 by omega] at this
  exact this
theorem WW_lo (B : Nat → Int) (t : Nat) (ht : t < 16) : WW B t = word B t := by
  rw [WW_pre B 0 t (by omega) (by omega)]; simp [wsn, List.getElem?_range ht]
theorem WW_hi (B : Nat → Int) (t : Nat) (h1 : 16 ≤ t) (h2 : t < 64) :
    WW B t = (sg1 (WW B (t - 2)) + WW B (t - 7) + sg0 (WW B (t - 15)) + WW B (t - 16)) % 4294967296 := by
  obtain ⟨k, rfl⟩ : ∃ k, t = 16 + k := ⟨t - 16, by omega⟩
  rw [WW_pre B (k + 1) _ (by omega) (by omega), WW_pre B k (16 + k - 2) (by omega) (by omega), WW_pre B k (16 + k - 7) (by omega) (by omega), WW_pre B k (16 + k - 15) (by omega) (by omega), WW_pre B k (16 + k - 16) (by omega) (by omega), wsn]
  have := wsn_len B k
  simp only [List.getD_eq_getElem?_getD]
  rw [List.getElem?_append_right (by omega), this, Nat.sub_self]
  simp [wnext, this]
theorem set_step {C : Array Value} {f : Nat → Value} {k n : Nat} (hs : C.size = n) (hk : k < n) (h : ∀ t, t < k → C[t]? = some (f t)) :
    ∀ t, t < k + 1 → (C.setIfInBounds k (f k))[t]? = some (f t) := by
  intro t ht
  rw [Array.getElem?_setIfInBounds]
  by_cases e : k = t
  · subst e; simp [hs, hk]
  · rw [if_neg e]; exact h t (by omega)
theorem keep_set {w : World} {g k j : Nat} {u v : Value} (h : w.cell? ⟨g, j, none⟩ = some v) (hk : k ≠ j) : (w.setCell ⟨g, k, none⟩ u).drew.cell? ⟨g, j, none⟩ = some v := by
  rw [World.cell?_drew, World.cell?_setCell_other]
  · exact h
  · intro e; injection e; contradiction
set_option maxRecDepth 100000 in
set_option maxHeartbeats 1000000 in
theorem schedule_any (b off cap : Nat) (B : Nat → Int) (w : World) (hb : b < w.heap.size) (hB : Bytes w b off 64 B) (hcap : 64 ≤ cap) :
    Calls Try.prog 83 #[.slice (some ⟨b, off, none⟩) 64 cap] w fun e w' => ∃ C : Array Value, e = .returned (.agg C) ∧ C.size = 64 ∧ (∀ t, t < 64 → C[t]? = some (.int .u32 (WW B t))) ∧ Below w.heap.size w w' := by
  go_enter Try.func83, Try.ntmps83
  go_wp2
  go_loopw [7] (fun i wr => ∃ (k : Nat) (C Z : Array Value), k ≤ 16 ∧ i = .int .i64 k ∧ Arr wr w.heap.size 98 Z ∧ Arr wr (w.heap.size + 1) 98 C ∧ Z.size = 64 ∧ C.size = 64 ∧ (∀ t, t < k → C[t]? = some (.int .u32 (WW B t))) ∧ Below w.heap.size w wr)
    (fun i _ => 16 - (intOf i).toNat)
  case atStart => exact ⟨0, _, _, by omega, rfl, (Arr.new _ _ _).alloc _, by simpa using Arr.new (w.alloc _) 98 _, rfl, rfl, fun t h => by omega, ((Below.refl _ _).alloc (by simp) _).alloc (by simp) _⟩
  case round =>
    obtain ⟨k, C, Z, hk, rfl, hZ, hC, hZs, hCs, hw, hbl⟩ := hrel
    by_cases hlt : k < 16
    · have h3 : (k : Int) < 16 := by omega
      have h4 : (0 : Int) ≤ k := by omega
      have c0 : wr.cell? ⟨b, off + 4 * k, none⟩ = some (.int .u8 (B (4 * k))) := by have := (hbl.cell (p := ⟨b, off + (4 * k), none⟩) hb).trans (hB (4 * k) (by omega)); exact this
      have c1 : wr.cell? ⟨b, off + 4 * k + 1, none⟩ = some (.int .u8 (B (4 * k + 1))) := by have := (hbl.cell (p := ⟨b, off + (4 * k + 1), none⟩) hb).trans (hB (4 * k + 1) (by omega)); exact this
      have c2 : wr.cell? ⟨b, off + 4 * k + 2, none⟩ = some (.int .u8 (B (4 * k + 2))) := by have := (hbl.cell (p := ⟨b, off + (4 * k + 2), none⟩) hb).trans (hB (4 * k + 2) (by omega)); exact this
      have c3 : wr.cell? ⟨b, off + 4 * k + 3, none⟩ = some (.int .u8 (B (4 * k + 3))) := by have := (hbl.cell (p := ⟨b, off + (4 * k + 3), none⟩) hb).trans (hB (4 * k + 3) (by omega)); exact this
      have cC : wr.cell? ⟨w.heap.size + 1, k, none⟩ = some (C[k]'(by omega)) := by rw [hC.cell, Array.getElem?_eq_getElem]
      have cF := hC.frozen k
      have hl : 4 * k + 4 - 4 * k = 4 := by omega
      have hne : b ≠ w.heap.size + 1 := by omega
      have hne' : w.heap.size + 1 ≠ b := by omega
      have h5 : (k : Int) < 64 := by omega
      clear hB
      go_wp2
      go_region_held3 (fun w' => w'.cell? ⟨b, off + 4 * k, none⟩ = some (.int .u8 (B (4 * k))) ∧ w'.cell? ⟨b, off + 4 * k + 1, none⟩ = some (.int .u8 (B (4 * k + 1))) ∧ w'.cell? ⟨b, off + 4 * k + 2, none⟩ = some (.int .u8 (B (4 * k + 2))) ∧ w'.cell? ⟨b, off + 4 * k + 3, none⟩ = some (.int .u8 (B (4 * k + 3)))) (go_keep) (fail)
      all_goals go_wp2
      all_goals go_roundw
      case rel =>
        have e := WW_lo B k hlt
        refine ⟨k + 1, _, Z, by omega, by go_num, (hZ.setOther _ (by simp)).drew, (hC.set k _).drew, hZs, by simp [hCs], ?_, (hbl.setCell (by simp) _).drew⟩
        have := set_step (f := fun t => .int .u32 (WW B t)) hCs (by omega) hw
        simp only [e] at this
        exact this
      case measure => simp [intOf]; omega
    · obtain rfl : k = 16 := by omega
      clear hlt hk hB
      obtain ⟨wo, rfl⟩ : ∃ wo : World, wo = wr := ⟨_, rfl⟩
      go_wp2
      go_loopw [6] (fun i wr => ∃ (k : Nat) (C : Array Value), 16 ≤ k ∧ k ≤ 64 ∧ i = .int .i64 k ∧ Arr wr w.heap.size 98 Z ∧ Arr wr (w.heap.size + 1) 98 C ∧ C.size = 64 ∧ (∀ t, t < k → C[t]? = some (.int .u32 (WW B t))) ∧ Below w.heap.size w wr)
        (fun i _ => 64 - (intOf i).toNat)
      case atStart => exact ⟨16, C, by omega, by omega, rfl, hZ, hC, hCs, hw, hbl⟩
      case round =>
        clear hC hCs hw hbl hZ
        obtain ⟨k, C, hk, hk2, rfl, hZ, hC, hCs, hw, hbl⟩ := hrel
        by_cases hlt : k < 64
        · have h3 : (k : Int) < 64 := by omega
          have h4 : (16 : Int) ≤ k := by omega
          have c2 : wr.cell? ⟨w.heap.size + 1, k - 2, none⟩ = some (.int .u32 (WW B (k - 2))) := (hC.cell _).trans (hw _ (by omega))
          have c7 : wr.cell? ⟨w.heap.size + 1, k - 7, none⟩ = some (.int .u32 (WW B (k - 7))) := (hC.cell _).trans (hw _ (by omega))
          have c15 : wr.cell? ⟨w.heap.size + 1, k - 15, none⟩ = some (.int .u32 (WW B (k - 15))) := (hC.cell _).trans (hw _ (by omega))
          have c16 : wr.cell? ⟨w.heap.size + 1, k - 16, none⟩ = some (.int .u32 (WW B (k - 16))) := (hC.cell _).trans (hw _ (by omega))
          have cC : wr.cell? ⟨w.heap.size + 1, k, none⟩ = some (C[k]'(by omega)) := by rw [hC.cell, Array.getElem?_eq_getElem]
          have cF := hC.frozen k
          have n2 : k ≠ k - 2 := by omega
          have n7 : k ≠ k - 7 := by omega
          have n15 : k ≠ k - 15 := by omega
          have n16 : k ≠ k - 16 := by omega
          have e2 : ((k : Int) - 2).toNat = k - 2 := by omega
          have e7 : ((k : Int) - 7).toNat = k - 7 := by omega
          have e15 : ((k : Int) - 15).toNat = k - 15 := by omega
          have e16 : ((k : Int) - 16).toNat = k - 16 := by omega
          have w2 : IntKind.i64.wrap ((k : Int) - 2) = (k : Int) - 2 := by simp [IntKind.wrap, IntKind.bits, IntKind.signed]; omega
          have a2 : (2 : Int) ≤ (k : Int) := by omega
          have z2 : (k : Int) - 2 < 64 := by omega
          have w7 : IntKind.i64.wrap ((k : Int) - 7) = (k : Int) - 7 := by simp [IntKind.wrap, IntKind.bits, IntKind.signed]; omega
          have a7 : (7 : Int) ≤ (k : Int) := by omega
          have z7 : (k : Int) - 7 < 64 := by omega
          have w15 : IntKind.i64.wrap ((k : Int) - 15) = (k : Int) - 15 := by simp [IntKind.wrap, IntKind.bits, IntKind.signed]; omega
          have a15 : (15 : Int) ≤ (k : Int) := by omega
          have z15 : (k : Int) - 15 < 64 := by omega
          have w16 : IntKind.i64.wrap ((k : Int) - 16) = (k : Int) - 16 := by simp [IntKind.wrap, IntKind.bits, IntKind.signed]; omega
          have a16 : (16 : Int) ≤ (k : Int) := by omega
          have z16 : (k : Int) - 16 < 64 := by omega
          go_wp2
          go_region_held3 (fun w' => w'.cell? ⟨w.heap.size + 1, k - 2, none⟩ = some (.int .u32 (WW B (k - 2))) ∧ w'.cell? ⟨w.heap.size + 1, k - 7, none⟩ = some (.int .u32 (WW B (k - 7))) ∧ w'.cell? ⟨w.heap.size + 1, k - 15, none⟩ = some (.int .u32 (WW B (k - 15))) ∧ w'.cell? ⟨w.heap.size + 1, k - 16, none⟩ = some (.int .u32 (WW B (k - 16)))) (first | exact ⟨keep_set c2 n2, keep_set c7 n7, keep_set c15 n15, keep_set c16 n16⟩ | go_keep) ((first | (go_at_call 88; refine (sg1_any _ _).mono ?_; rintro e w' ⟨rfl, rfl⟩) | (go_at_call 89; refine (sg0_any _ _).mono ?_; rintro e w' ⟨rfl, rfl⟩)))
          all_goals clear c2 c7 c15 c16 n2 n7 n15 n16 e2 e7 e15 e16 w2 w7 w15 w16 a2 a7 a15 a16 z2 z7 z15 z16 cC cF
          all_goals go_wp2
          all_goals go_roundw
          case rel =>
            repeat apply Exists.intro
            refine And.intro ?_ rfl
            have e := WW_hi B k hk hlt
            refine ⟨k + 1, _, by omega, by omega, by go_num, (hZ.setOther _ (by simp)).drew, (hC.set k _).drew, by simp [hCs], ?_, (hbl.setCell (by simp) _).drew⟩
            have := set_step (f := fun t => .int .u32 (WW B t)) hCs (by omega) hw
            have e' : WW B k = (((sg1 (WW B (k - 2)) + WW B (k - 7)) % 4294967296 + sg0 (WW B (k - 15))) % 4294967296 + WW B (k - 16)) % 4294967296 := by rw [e]; omega
            simp only [e'] at this
            simp only [← e'] at this
            rw [← e']
            exact this
          case measure => simp [intOf]; omega
        · obtain rfl : k = 64 := by omega
          have s46 : (Try.prog.info? 98).map (·.size) = some C.size := by rw [hCs]; exact size46
          have o46 := one_ints hCs hw
          have z46 : Z.size = C.size := by rw [hZs, hCs]
          go_wp2_with (first | (refine wpList_load_row rfl 98 (.tmp 3) rfl (w.heap.size + 1) rfl 98 C (0, 0) _ hC Try.underlying98 rfl s46 ?_) | (refine wpList_store_arr rfl 98 (.tmp 2) (.tmp 72) rfl w.heap.size C rfl rfl 98 Z hZ s46 z46 o46 ?_))
          refine bodyPost_ret (v := .agg C) (results_cell_row Try.results83 _ _ w.heap.size 98 C (0, 0) _ rfl (hZ.setRow C) Try.underlying98 rfl s46) rfl ⟨C, rfl, hCs, hw, below_setRow hbl (by omega) C⟩
end Go.Proofs.Ytmljihggooaboaa
/- Layer interp: what the layers below give. -/
namespace Go.Proofs.Ytmljihggooaboaa
open Go.RowKit
set_option maxRecDepth 100000
set_option linter.unusedVariables false
set_option linter.unusedSimpArgs false

def absorbN (K B : Nat → Int) (s : St) : Nat → St
  | 0 => s
  | m + 1 => (absorbN K B s m).plus (rnd K (WW fun t => B (64 * m + t)) (absorbN K B s m) 64)
theorem Arr.row {w : World} {g ty : Nat} {C : Array Value} (h : Arr w g ty C) {n : Nat} {f : Nat → Int} (hf : ∀ t, t < n → C[t]? = some (.int .u32 (f t))) : Row w g n f := fun t ht => (h.cell t).trans (hf t ht)
theorem Row.below {w w' : World} {b n B : Nat} {f : Nat → Int} (h : Row w b n f) (hb : Below B w w') (hlt : b < B) : Row w' b n f := fun t ht => (hb.cell (p := ⟨b, t, none⟩) hlt).trans (h t ht)
theorem Row.alloc {w : World} {b n : Nat} {f : Nat → Int} (h : Row w b n f) (hlt : b < w.heap.size) (o : Obj) : Row (w.alloc o) b n f := fun t ht => by
  rw [World.cell?_alloc_lt _ _ _ hlt]; exact h t ht
theorem St.size (s : St) : s.cells.size = 8 := rfl
theorem St.one (s : St) : s.cells.all (·.oneCell') = true := by simp [St.cells, Value.oneCell']
theorem compress_cells (s : St) (bw bk : Nat) (W K : Nat → Int) (w : World) (hbw : bw < w.heap.size) (hbk : bk < w.heap.size)
    (hW : Row w bw 64 W) (hK : Row w bk 64 K) :
    Calls Try.prog 84 #[.agg s.cells, .pointer (some ⟨bw, 0, none⟩), .pointer (some ⟨bk, 0, none⟩)] w fun e w' => e = .returned (.agg (s.plus (rnd K W s 64)).cells) ∧ Below w.heap.size w w' :=
  compress_any s bw bk W K w hbw hbk hW hK
theorem s48 (s : St) : (Try.prog.info? 84).map (·.size) = some s.cells.size := size48
set_option maxRecDepth 100000 in
set_option maxHeartbeats 1000000 in
theorem absorb_any (s : St) (b off cap m bk : Nat) (K B : Nat → Int) (w : World) (hB : Bytes w b off (64 * m) B) (hcap : 64 * m ≤ cap) (hcap2 : 64 * m ≤ 140737488355328) (hbk : bk < w.heap.size) (hK : Row w bk 64 K) :
    Calls Try.prog 78 #[.agg s.cells, .slice (some ⟨b, off, none⟩) (64 * m) cap, .pointer (some ⟨bk, 0, none⟩)] w fun e w' => e = .returned (.agg (absorbN K B s m).cells) ∧ Below w.heap.size w w' := by
  have hs8 := St.size s
  go_enter Try.func78, Try.ntmps78
  go_wp2_with fail
  go_loopw [7] (fun i wr => ∃ j : Nat, j ≤ m ∧ i = .int .i64 (64 * (j : Int)) ∧ Arr wr w.heap.size 84 (absorbN K B s j).cells ∧ (∃ Z : St, Arr wr (w.heap.size + 1) 84 Z.cells) ∧ Below w.heap.size w wr)
    (fun i _ => 64 * m - (intOf i).toNat)
  case atStart => exact ⟨0, by omega, rfl, (Arr.new _ _ _).alloc _, ⟨⟨0, 0, 0, 0, 0, 0, 0, 0⟩, by simpa [St.cells] using Arr.new (w.alloc _) 84 _⟩, ((Below.refl _ _).alloc (by simp) _).alloc (by simp) _⟩
  case round =>
    obtain ⟨j, hj, rfl, hA, ⟨Z, hZ⟩, hbl⟩ := hrel
    have h3 : (j : Int) ≤ m := by omega
    have h4 : (0 : Int) ≤ j := by omega
    by_cases hlt : j < m
    · have hb : b < w.heap.size := block_lt_of_cell (hB 0 (by omega))
      have hB' : Bytes wr b (off + 64 * j) 64 (fun t => B (64 * j + t)) := fun t ht => by
        have := (hbl.cell (p := ⟨b, off + (64 * j + t), none⟩) hb).trans (hB (64 * j + t) (by omega))
        rw [← Nat.add_assoc] at this; exact this
      have hbr : b < wr.heap.size := Nat.lt_of_lt_of_le hb hbl.size
      have hl : 64 * j + 64 - 64 * j = 64 := by omega
      have h5 : (j : Int) + 1 ≤ m := by omega
      have HB : Hid (Bytes w b off (64 * m) B) := hB
      have HK : Hid (Row w bk 64 K) := hK
      clear hB hK
      have hbkr : bk < wr.heap.size := Nat.lt_of_lt_of_le hbk hbl.size
      have hKr : Row wr bk 64 K := HK.out.below hbl hbk
      go_wp2_with (first
        | (go_at_call 83; go_must (refine (schedule_any b (off + 64 * j) 64 (fun t => B (64 * j + t)) wr hbr hB' (by omega)).mono ?_; rintro e w1 ⟨C, rfl, hCs, hCw, hb1⟩; have hA1 := (hA.below hb1 hA.lt).alloc (.cells C 98); have hZ1 := (hZ.below hb1 hZ.lt).alloc (.cells C 98); have hW1 := (Arr.new w1 98 C).row hCw; have hbk1 : bk < (w1.alloc (.cells C 98)).heap.size := Nat.lt_of_lt_of_le hbkr (Nat.le_trans hb1.size (by simp)); have hK1 := (hKr.below hb1 hbkr).alloc (Nat.lt_of_lt_of_le hbkr hb1.size) (.cells C 98)))
        | (refine wpList_store_new w1 _ 98 (by rfl) 98 (.tmp 8) (.tmp 22) (by rfl) C (by rfl) (by rfl) (by rw [hCs]; exact size46) (Eq.trans (by rfl) hCs.symm) (one_ints hCs hCw) ?_)
        | (refine wpList_load_row rfl 84 (.tmp 3) rfl w.heap.size rfl 84 (absorbN K B s j).cells (0, 0) _ hA1 Try.underlying84 rfl (s48 _) ?_)
        | (go_at_call 84; go_must (refine (compress_cells (absorbN K B s j) w1.heap.size bk (WW fun t => B (64 * j + t)) K (w1.alloc (.cells C 98)) (by simp) hbk1 hW1 hK1).mono ?_; rintro e w2 ⟨rfl, hb2⟩; have hA2 := hA1.below hb2 hA1.lt; have hZ2 := hZ1.below hb2 hZ1.lt))
        | (refine wpList_store_arr rfl 84 (.tmp 3) (.tmp 25) rfl w.heap.size (absorbN K B s (j + 1)).cells rfl rfl 84 _ hA2 (s48 _) rfl (St.one _) ?_))
      go_roundw
      case rel => exact ⟨j + 1, by omega, by go_num, hA2.setRow _, ⟨Z, hZ2.setRowOther _ (by omega)⟩, below_setRow ((hbl.trans (hb1.mono hbl.size)).trans (((Below.refl _ _).alloc (Nat.le_trans hbl.size hb1.size) _).trans (hb2.mono (by simp; have := hbl.size; have := hb1.size; omega)))) (by omega) _⟩
      case measure => simp [intOf]; omega
    · obtain rfl : j = m := by omega
      clear hB hK
      go_wp2_with (first
        | (refine wpList_load_row rfl 84 (.tmp 3) rfl w.heap.size rfl 84 (absorbN K B s j).cells (0, 0) _ hA Try.underlying84 rfl (s48 _) ?_)
        | (refine wpList_store_arr rfl 84 (.tmp 6) (.tmp 26) rfl (w.heap.size + 1) (absorbN K B s j).cells rfl rfl 84 _ hZ (s48 _) rfl (St.one _) ?_))
      exact bodyPost_ret (v := .agg (absorbN K B s j).cells) (results_cell_row Try.results78 _ _ (w.heap.size + 1) 84 _ (0, 0) _ rfl (hZ.setRow _) Try.underlying84 rfl (s48 _)) rfl ⟨rfl, below_setRow hbl (by omega) _⟩
set_option maxRecDepth 100000 in
set_option maxHeartbeats 1000000 in
theorem absorb_zero (s : St) (ad : Option Addr) (cap bk : Nat) (w : World) :
    Calls Try.prog 78 #[.agg s.cells, .slice ad 0 cap, .pointer (some ⟨bk, 0, none⟩)] w fun e w' => e = .returned (.agg s.cells) ∧ Below w.heap.size w w' := by
  have hA : Arr ((w.alloc (.cells s.cells 84)).alloc (.cells (St.cells ⟨0, 0, 0, 0, 0, 0, 0, 0⟩) 84)) w.heap.size 84 s.cells := (Arr.new _ _ _).alloc _
  have hZ : Arr ((w.alloc (.cells s.cells 84)).alloc (.cells (St.cells ⟨0, 0, 0, 0, 0, 0, 0, 0⟩) 84)) (w.heap.size + 1) 84 (St.cells ⟨0, 0, 0, 0, 0, 0, 0, 0⟩) := by simpa using Arr.new (w.alloc (.cells s.cells 84)) 84 _
  go_enter Try.func78, Try.ntmps78
  go_wp2_with fail
  go_loopw [7] (fun i wr => i = .int .i64 0 ∧ wr = (w.alloc (.cells s.cells 84)).alloc (.cells (St.cells ⟨0, 0, 0, 0, 0, 0, 0, 0⟩) 84)) (fun _ _ => 0)
  case atStart => exact ⟨rfl, rfl⟩
  case round =>
    obtain ⟨rfl, rfl⟩ := hrel
    go_wp2_with (first
        | (refine wpList_load_row rfl 84 (.tmp 3) rfl w.heap.size rfl 84 s.cells (0, 0) _ hA Try.underlying84 rfl (s48 _) ?_)
        | (refine wpList_store_arr rfl 84 (.tmp 6) (.tmp 26) rfl (w.heap.size + 1) s.cells rfl rfl 84 _ hZ (s48 _) rfl (St.one _) ?_))
    exact bodyPost_ret (v := .agg s.cells) (results_cell_row Try.results78 _ _ (w.heap.size + 1) 84 _ (0, 0) _ rfl (hZ.setRow _) Try.underlying84 rfl (s48 _)) rfl ⟨rfl, below_setRow (((Below.refl _ _).alloc (by simp) _).alloc (by simp) _) (by omega) _⟩
end Go.Proofs.Ytmljihggooaboaa
/- Layer interp: what the layers below give. -/
namespace Go.Proofs.Ytmljihggooaboaa
open Go.RowKit
set_option maxRecDepth 100000
set_option linter.unusedVariables false
set_option linter.unusedSimpArgs false

/-- An array written by a rule. -/
def arr (n : Nat) (f : Nat → Value) : Array Value := ((List.range n).map f).toArray
theorem arr_size (n : Nat) (f : Nat → Value) : (arr n f).size = n := by simp [arr]
theorem arr_get {n : Nat} {f : Nat → Value} {t : Nat} (h : t < n) : (arr n f)[t]? = some (f t) := by simp [arr, h]
theorem arr_eq {C : Array Value} {n : Nat} {f : Nat → Value} (hs : C.size = n) (h : ∀ t, t < n → C[t]? = some (f t)) : C = arr n f := by
  apply Array.ext_getElem?
  intro i
  by_cases hi : i < n
  · rw [h i hi, arr_get hi]
  · rw [Array.getElem?_eq_none (by omega), Array.getElem?_eq_none (by rw [arr_size]; omega)]
def u8s (n : Nat) (f : Nat → Int) : Array Value := arr n fun t => .int .u8 (f t)
end Go.Proofs.Ytmljihggooaboaa
