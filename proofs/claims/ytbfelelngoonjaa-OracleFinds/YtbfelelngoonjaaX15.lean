/- Layer oracle: what the layers below give. -/
import Derived.Test.YtbfelelngoonjaaX01
import Derived.Test.YtbfelelngoonjaaX02
import Derived.Test.YtbfelelngoonjaaX03
import Derived.Test.YtbfelelngoonjaaX04
import Derived.Test.YtbfelelngoonjaaX09
import Derived.Test.YtbfelelngoonjaaX05
import Derived.Test.YtbfelelngoonjaaX06
import Derived.Test.YtbfelelngoonjaaX12
import Derived.Test.YtbfelelngoonjaaX13
import Derived.Test.YtbfelelngoonjaaX14
import Derived.BigQuiet
import Derived.BigRegion
import Derived.ChangeKeysEq
import Derived.Deep.DeepCutAuto
import Derived.Deep.DrawnRows
import Derived.Deep.MidRow
import Derived.Deep.QuietTactic
import Derived.Deep.RegionHeld3
import Derived.Deep.RegionLaw
import Derived.Deep.RegionWith
import Derived.Deep.WholeRow
import Derived.Laws.AppendOwnNone
import Derived.Laws.BitsLemmas
import Derived.Laws.BytesArg
import Derived.Laws.CopyOwn
import Derived.Lib.SlBytesConst
import Derived.LoopIn
import Derived.LoopNIn
import Derived.OwnWalkIn
import Derived.RangeFuncBound
import Derived.RangeFuncCalls
import Derived.RangeFuncLeaves
import Derived.RangeFuncNested
import Derived.RangeFuncRecord
import Derived.Shelf.Abstract
import Derived.Shelf.RegionOpen
import Derived.TacticsInMore
import Derived.WalkKit
import Derived.WalkLawsBesides
import Derived.WalkSpells
namespace Go.Proofs.Ytbfelelngoonjaa
open Go.RowKit
set_option maxRecDepth 100000
set_option linter.unusedVariables false
set_option linter.unusedSimpArgs false

set_option maxHeartbeats 1000000 in
theorem leaf_any (sp : Option Addr) (n cap : Nat) (L : List Int) (w : World) (hn : n = L.length) (hnil : sp = none → n = 0 ∧ cap = 0) (hS : SlL w sp L) (hb : n ≤ 140737488355000) :
    Calls Try.prog 98 #[.slice sp n cap] w fun e w' => e = .returned (.agg (sha (0 :: L))) ∧ Below w.heap.size w w' := by
  obtain ⟨i0, hi, hz0, hz1, hz2⟩ := info_parts info5
  have hnI : (n : Int) ≤ 140737488355000 := by omega
  have hn0 : (0 : Int) ≤ n := by omega
  have HN := Hid.mk' hn
  clear hn
  go_enter Try.func98, Try.ntmps98
  go_wp2_with (first
    | (at_make; go_must (refine wpList_make_own _ (by rfl) (.const (.int .i64 0)) (.tmp 6) 29 (by rfl) (w.heap.size + 1) 5 i0 (.int .u8 0) 1 Try.underlying29 hi hz0 hz1 .i64 .i64 _ (n + 1) (by rfl) (by rfl) (by omega) (by rw [hz2]; omega) (Nat.le_trans (by omega) maxLen_ge) (by simp) ?_; intro w1 hown1 hg1; have hown1 : w1.ownsRow (w.heap.size + 1) 5 1 (.slice (some ⟨w.heap.size + 1, 0, none⟩) 0 (n + 1)) 0 [] := (by simpa using hown1); have hs1 : w.heap.size + 1 ≤ w1.heap.size := (by have := hg1.size; simpa using this); have hZ1 : ∃ Z : Array Value, Z.size = 32 ∧ Arr w1 w.heap.size 32 Z := ⟨_, by rfl, (Arr.new w 32 _).grown hg1 (by simp)⟩; have hS1 : SlL w1 sp L := (Sl.alloc hS _).grown hg1 (fun _ _ _ _ => by simp); have hB1 : Below w.heap.size w w1 := ((Below.refl _ _).alloc (Nat.le_refl _) _).grown hg1 (by simp) (by simp)))
    | (at_builtin; refine append_bytes (by rfl) (.tmp 8) (.tmp 9) (by rfl) (w.heap.size + 1) _ 0 [] (by rfl) (hown1.alloc _) (some ⟨w1.heap.size, 0, none⟩) 1 1 [0] (by rfl) (by rfl) (fun h => by cases h) (Arr.sl (Arr.new w1 5 _)) (by omega) (by simp; omega) ?_; intro v2 w2 hown2 hg2; obtain ⟨Z, hZs, hZ1⟩ := hZ1; have hZ2 := (hZ1.alloc _).grown hg2 (ne_own hown1 (by omega)); have hS2 : SlL w2 sp L := (Sl.alloc hS1 _).grown hg2 (fun b off e h0 => ne_own hown1 (by subst e; have := Sl.lt hS h0; omega)); have hB2 := (hB1.alloc (by omega) _).grown hg2 (by simp; omega) (fun k e => by have := own_ge hown1 k e; omega); have hs2 : w.heap.size + 1 ≤ w2.heap.size := (by have := hg2.size; simp at this; omega))
    | (at_builtin; refine append_bytes (by rfl) (.tmp 11) (.tmp 12) (by rfl) (w.heap.size + 1) _ 1 [0] (by rfl) hown2 sp n cap L (by rfl) HN.out hnil hS2 (by omega) hs2 ?_; intro v3 w3 hown3 hg3; have hZ3 := hZ2.grown hg3 (ne_own hown2 (by omega)); have hB3 := hB2.grown hg3 (by omega) (fun k e => by have := own_ge hown2 k e; omega); obtain ⟨g, cap3, rfl, hn3, hcap3, hg, hBy, -⟩ := own_slice hown3 (by omega))
    | (go_at_call 26; go_must (refine (sum_n g 0 (1 + n) cap3 ([0] ++ L) _ hn3 hBy hcap3 (by omega)).mono ?_; rintro e w4 ⟨rfl, hb4⟩; have hZ4 := hZ3.below hb4 hZ3.lt))
    | (refine wpList_store_arr (by rfl) 32 (.tmp 2) (.tmp 14) (by rfl) w.heap.size (sha ([0] ++ L)) (by rfl) (by rfl) 32 Z hZ4 (s24sha _) (by rw [hZs, sha_size]) (sha_one _) ?_))
  exact bodyPost_ret (v := .agg (sha (0 :: L))) (results_cell_row Try.results98 _ _ w.heap.size 32 _ (0, 0) _ rfl (hZ4.setRow _) Try.underlying32 rfl (s24sha _)) rfl ⟨rfl, below_setRow (hB3.trans (hb4.mono hB3.size)) (Nat.le_refl _) _⟩
set_option maxHeartbeats 1000000 in
theorem refLeaf_any (sp : Option Addr) (n cap : Nat) (L : List Int) (w : World) (hn : n = L.length) (hnil : sp = none → n = 0 ∧ cap = 0) (hS : SlL w sp L) (hb : n ≤ 140737488354000) :
    Calls Try.prog 37 #[.slice sp n cap] w fun e w' => e = .returned (.agg (sha (0 :: L))) ∧ Below w.heap.size w w' := by
  have HN := Hid.mk' hn
  clear hn
  have hlit : ∀ o : Obj, ((w.alloc o).alloc (.cells #[.int .u8 0] 5)).ownsRow (w.heap.size + 1) 5 1 (.slice (some ⟨w.heap.size + 1, 0, none⟩) 1 1) 1 (by8 [0]) := fun o => by
    have h : ((w.alloc o).alloc (.cells #[.int .u8 0] 5)).ownsRow (w.heap.size + 1) 5 1 (.slice (some ⟨(w.alloc o).heap.size, 0, none⟩) 1 1) 1 (by8 [0]) := World.ownsRow_lit _ _ _ (by simp) (by unfold maxLen; omega) rfl
    simpa using h
  go_enter Try.func37, Try.ntmps37
  go_wp2_with (first
    | (at_builtin; go_must (refine append_bytes (by rfl) (.tmp 3) (.tmp 4) (by rfl) (w.heap.size + 1) _ 1 [0] (by rfl) (hlit _) sp n cap L (by rfl) HN.out hnil (Sl.alloc (Sl.alloc hS _) _) (by omega) (by simp) ?_; intro v2 w2 hown2 hg2; obtain ⟨g, c2, rfl, hn2, hc2, hgg, hBy, -⟩ := own_slice hown2 (by omega); have hZ2 : ∃ Z : Array Value, Z.size = 32 ∧ Arr w2 w.heap.size 32 Z := ⟨_, by rfl, ((Arr.new w 32 _).alloc _).grown hg2 (by simp [Value.ownBlock])⟩; have hB2 : Below w.heap.size w w2 := (((Below.refl _ _).alloc (Nat.le_refl _) _).alloc (by simp) _).grown hg2 (by simp; omega) (fun k e => by simp [Value.ownBlock] at e; omega)))
    | (go_at_call 13; go_must (refine (refSum_any (some ⟨g, 0, none⟩) (1 + n) c2 (0 :: L) _ hn2.out (fun h => by cases h) (fun _ => ⟨g, 0, rfl, hBy⟩) (by omega)).mono ?_; rintro e w3 ⟨rfl, hb3⟩; obtain ⟨Z, hZs, hZ2⟩ := hZ2; have hZ3 := hZ2.below hb3 hZ2.lt))
    | (refine wpList_store_arr (by rfl) 32 (.tmp 2) (.tmp 6) (by rfl) w.heap.size (sha (0 :: L)) (by rfl) (by rfl) 32 Z hZ3 (s24sha _) (by rw [hZs, sha_size]) (sha_one _) ?_))
  exact bodyPost_ret (v := .agg (sha (0 :: L))) (results_cell_row Try.results37 _ _ w.heap.size 32 _ (0, 0) _ rfl (hZ3.setRow _) Try.underlying32 rfl (s24sha _)) rfl ⟨rfl, below_setRow (hB2.trans (hb3.mono hB2.size)) (Nat.le_refl _) _⟩
theorem s24u8 (f : Nat → Int) : (Try.prog.info? 32).map (·.size) = some (u8s 32 f).size := by rw [u8s_size]; exact size24
theorem u8s_one (n : Nat) (f : Nat → Int) : (u8s n f).all (·.oneCell') = true := one_ints (u8s_size n f) (fun _ h => u8s_get h)
/-- Byte t of the sum of four words. -/
def fromB (W : Nat → Int) (t : Nat) : Int := W (t / 8) / 2 ^ (56 - 8 * (t % 8)) % 256
set_option maxHeartbeats 1000000 in
theorem from_any (C0 : Array Value) (W : Nat → Int) (w : World) (hC0 : ∀ t, t < 4 → C0[t]? = some (.int .u64 (W t))) :
    Calls Try.prog 91 #[.agg C0] w fun e w' => e = .returned (.agg (u8s 32 (fromB W))) ∧ Below w.heap.size w w' := by
  go_enter Try.func91, Try.ntmps91
  go_wp2
  go_loopw [5] (fun i wr => ∃ (k : Nat) (C Z : Array Value), k ≤ 32 ∧ i = .int .i64 k ∧ Arr wr w.heap.size 113 C0 ∧ Arr wr (w.heap.size + 1) 32 Z ∧ Z.size = 32 ∧ Arr wr (w.heap.size + 1 + 1) 32 C ∧ C.size = 32 ∧ (∀ t, t < k → C[t]? = some (.int .u8 (fromB W t))) ∧ Below w.heap.size w wr)
    (fun i _ => 32 - (intOf i).toNat)
  case atStart => exact ⟨0, _, _, by omega, rfl, ((Arr.new w 113 C0).alloc _).alloc _, by simpa using (Arr.new (w.alloc _) 32 _).alloc _, rfl, by simpa using Arr.new ((w.alloc _).alloc _) 32 _, rfl, fun j hj => by omega, (((Below.refl _ _).alloc (by simp) _).alloc (by simp) _).alloc (by simp; omega) _⟩
  case round =>
    obtain ⟨k, C, Z, hk, rfl, hX, hZ, hZs, hC, hCs, hw, hbl⟩ := hrel
    have HW := Hid.mk' hw
    clear hw
    by_cases hlt : k < 32
    · have h3 : (k : Int) < 32 := by omega
      have h4 : (0 : Int) ≤ k := by omega
      have c0 : wr.cell? ⟨w.heap.size, k / 8, none⟩ = some (.int .u64 (W (k / 8))) := (hX.cell _).trans (hC0 _ (by omega))
      obtain ⟨v1, c1⟩ := hC.got (j := k) (by omega)
      have f0 := hC.frozen k
      go_wp2
      go_roundw
      case rel =>
        have q := set_step (f := fun t => .int .u8 (fromB W t)) hCs (by omega) HW.out
        exact ⟨k + 1, _, Z, by omega, by go_num, hX.setOther _ (by simp; omega), hZ.setOther _ (by simp), hZs, hC.set _ _, by simp [hCs], q, hbl.setCell (by simp; omega) _⟩
      case measure => simp [intOf]; omega
    · obtain rfl : k = 32 := by omega
      have hCe : C = u8s 32 (fromB W) := arr_eq hCs HW.out
      subst hCe
      go_wp2_with (first
        | (refine wpList_load_row (by rfl) 32 (.tmp 3) (by rfl) (w.heap.size + 1 + 1) (by rfl) 32 (u8s 32 (fromB W)) (0, 0) _ hC Try.underlying32 rfl (s24u8 _) ?_)
        | (refine wpList_store_arr (by rfl) 32 (.tmp 2) (.tmp 21) (by rfl) (w.heap.size + 1) (u8s 32 (fromB W)) (by rfl) (by rfl) 32 _ hZ (s24u8 _) (by rw [hZs]; exact (u8s_size _ _).symm) (u8s_one _ _) ?_))
      exact bodyPost_ret (v := .agg (u8s 32 (fromB W))) (results_cell_row Try.results91 _ _ (w.heap.size + 1) 32 _ (0, 0) _ rfl (hZ.setRow _) Try.underlying32 rfl (s24u8 _)) rfl ⟨rfl, below_setRow hbl (by omega) _⟩
set_option maxHeartbeats 1000000 in
theorem refFrom_any (C0 : Array Value) (W : Nat → Int) (w : World) (hC0 : ∀ t, t < 4 → C0[t]? = some (.int .u64 (W t))) :
    Calls Try.prog 59 #[.agg C0] w fun e w' => e = .returned (.agg (u8s 32 (fromB W))) ∧ Below w.heap.size w w' := by
  go_enter Try.func59, Try.ntmps59
  go_wp2
  go_loopw [4] (fun i wr => ∃ (k : Nat) (C Z : Array Value), k ≤ 32 ∧ i = .int .i64 k ∧ Arr wr w.heap.size 113 C0 ∧ Arr wr (w.heap.size + 1) 32 Z ∧ Z.size = 32 ∧ Arr wr (w.heap.size + 1 + 1) 32 C ∧ C.size = 32 ∧ (∀ t, t < k → C[t]? = some (.int .u8 (fromB W t))) ∧ Below w.heap.size w wr)
    (fun i _ => 32 - (intOf i).toNat)
  case atStart => exact ⟨0, _, _, by omega, rfl, ((Arr.new w 113 C0).alloc _).alloc _, by simpa using (Arr.new (w.alloc _) 32 _).alloc _, rfl, by simpa using Arr.new ((w.alloc _).alloc _) 32 _, rfl, fun j hj => by omega, (((Below.refl _ _).alloc (by simp) _).alloc (by simp) _).alloc (by simp; omega) _⟩
  case round =>
    obtain ⟨k, C, Z, hk, rfl, hX, hZ, hZs, hC, hCs, hw, hbl⟩ := hrel
    have HW := Hid.mk' hw
    clear hw
    by_cases hlt : k < 32
    · have h3 : (k : Int) < 32 := by omega
      have h4 : (0 : Int) ≤ k := by omega
      have c0 : wr.cell? ⟨w.heap.size, k / 8, none⟩ = some (.int .u64 (W (k / 8))) := (hX.cell _).trans (hC0 _ (by omega))
      obtain ⟨v1, c1⟩ := hC.got (j := k) (by omega)
      have f0 := hC.frozen k
      go_wp2
      go_roundw
      case rel =>
        have q := set_step (f := fun t => .int .u8 (fromB W t)) hCs (by omega) HW.out
        exact ⟨k + 1, _, Z, by omega, by go_num, hX.setOther _ (by simp; omega), hZ.setOther _ (by simp), hZs, hC.set _ _, by simp [hCs], q, hbl.setCell (by simp; omega) _⟩
      case measure => simp [intOf]; omega
    · obtain rfl : k = 32 := by omega
      have hCe : C = u8s 32 (fromB W) := arr_eq hCs HW.out
      subst hCe
      go_wp2_with (first
        | (refine wpList_load_row (by rfl) 32 (.tmp 3) (by rfl) (w.heap.size + 1 + 1) (by rfl) 32 (u8s 32 (fromB W)) (0, 0) _ hC Try.underlying32 rfl (s24u8 _) ?_)
        | (refine wpList_store_arr (by rfl) 32 (.tmp 2) (.tmp 22) (by rfl) (w.heap.size + 1) (u8s 32 (fromB W)) (by rfl) (by rfl) 32 _ hZ (s24u8 _) (by rw [hZs]; exact (u8s_size _ _).symm) (u8s_one _ _) ?_))
      exact bodyPost_ret (v := .agg (u8s 32 (fromB W))) (results_cell_row Try.results59 _ _ (w.heap.size + 1) 32 _ (0, 0) _ rfl (hZ.setRow _) Try.underlying32 rfl (s24u8 _)) rfl ⟨rfl, below_setRow hbl (by omega) _⟩
/-- The four words of a number. -/
def w4 (n : Int) (t : Nat) : Int := if t = 3 then n else 0
theorem from_cnt (n : Int) : u8s 32 (fromB (w4 n)) = h8 (cnt n) := by
  have e : h8 (cnt n) = (by8 (cnt n)).toArray := rfl
  rw [e]
  apply Array.ext_getElem?
  intro i
  by_cases hi : i < 32
  · rw [u8s_get hi, List.getElem?_toArray, by8_get (by rw [cnt_len]; exact hi)]
    congr 2
    unfold bat cnt fromB w4
    by_cases h : i < 24
    · rw [if_neg (by omega), List.getD_eq_getElem?_getD, List.getElem?_append_left (by simpa using h)]
      rw [List.getElem?_replicate, if_pos h]
      simp
    · rw [if_pos (by omega), List.getD_eq_getElem?_getD, List.getElem?_append_right (by simpa using (by omega : 24 ≤ i))]
      simp only [List.length_replicate, e8, List.getElem?_map, List.getElem?_range (show i - 24 < 8 by omega), Option.map_some, Option.getD_some]
      rw [show i % 8 = i - 24 by omega]
  · rw [Array.getElem?_eq_none_iff.2 (by rw [u8s_size]; omega), Array.getElem?_eq_none_iff.2 (by simp [by8_len, cnt_len]; omega)]
theorem w4_cells (n : Int) : ∀ t, t < 4 → (#[.int .u64 0, .int .u64 0, .int .u64 0, .int .u64 n] : Array Value)[t]? = some (.int .u64 (w4 n t)) := by
  intro t ht
  match t, ht with
  | 0, _ => rfl
  | 1, _ => rfl
  | 2, _ => rfl
  | 3, _ => rfl
theorem built112 (n : Int) : Try.prog.built 113 [(3, .int .u64 n)] = some #[.int .u64 0, .int .u64 0, .int .u64 0, .int .u64 n] := by kernel_rfl
end Go.Proofs.Ytbfelelngoonjaa
