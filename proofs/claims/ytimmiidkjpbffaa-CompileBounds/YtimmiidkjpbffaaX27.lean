/- Ub, Ud, Ue, Mk, QCc. -/
import Derived.Test.YtimmiidkjpbffaaX01
import Derived.Test.YtimmiidkjpbffaaX02
import Derived.BigQuiet
import Derived.BigRegion
import Derived.ChangeKeysEq
import Derived.Deep.DeepCutAuto
import Derived.Deep.DrawnRows
import Derived.Deep.MidRow
import Derived.Deep.QuietTactic
import Derived.Deep.RegionHeld3
import Derived.Deep.RegionLaw
import Derived.Deep.RegionWith
import Derived.Deep.WholeRow
import Derived.Laws.AppendOwnNone
import Derived.Laws.BitsLemmas
import Derived.Laws.BytesArg
import Derived.Laws.CopyOwn
import Derived.Lib.SlBytesConst
import Derived.LoopIn
import Derived.LoopNIn
import Derived.OwnWalkIn
import Derived.RangeFuncBound
import Derived.RangeFuncCalls
import Derived.RangeFuncLeaves
import Derived.RangeFuncNested
import Derived.RangeFuncRecord
import Derived.Shelf.Abstract
import Derived.Shelf.RegionOpen
import Derived.TacticsInMore
import Derived.WalkKit
import Derived.WalkLawsBesides
import Derived.WalkSpells
import Derived.Test.YtimmiidkjpbffaaX08
import Derived.Test.YtimmiidkjpbffaaX26
import Derived.Test.YtimmiidkjpbffaaX03
import Derived.Test.YtimmiidkjpbffaaX21
import Derived.ChangeOld
import Derived.Deep.OwnRows
import Derived.DeepKeys3
import Derived.Great.BuildSlice
import Derived.Great.FillDense
import Derived.Laws.OwnMore
import Derived.Laws.ResultCell
import Derived.Laws.Tables
import Derived.Maps.AppendAt
import Derived.OpenShut
import Derived.ProofKit
import Derived.Recover
import Derived.ShutString
import Derived.SizedLaws
/- Layer compile: what the layers below give. -/
namespace Go.Proofs.Ytimmiidkjpbffaa
open Go.RowKit
set_option maxRecDepth 100000
set_option linter.unusedVariables false
set_option linter.unusedSimpArgs false

/-- How many noughts are put behind n bytes and the byte 128. -/
def nulls (n : Nat) : Nat := (119 - n % 64) % 64
def zerosL (k : Nat) : List Int := List.replicate k 0
/-- The first j of the length's eight bytes, the highest first. -/
def lenL (n j : Nat) : List Int := (List.range j).map fun t => (n : Int) * 8 / 2 ^ (8 * (7 - t)) % 256
def padL (L : List Int) : List Int := L ++ [128] ++ zerosL (nulls L.length) ++ lenL L.length 8
theorem zerosL_len (k : Nat) : (zerosL k).length = k := by simp [zerosL]
theorem zerosL_succ (k : Nat) : zerosL k ++ [0] = zerosL (k + 1) := by simp [zerosL, List.replicate_succ']
theorem lenL_succ (n j : Nat) : lenL n j ++ [(n : Int) * 8 / 2 ^ (8 * (7 - j)) % 256] = lenL n (j + 1) := by simp [lenL, List.range_succ]
theorem nulls_mod (n : Nat) : (n + 1 + nulls n) % 64 = 56 := by unfold nulls; omega
theorem nulls_lt (n k : Nat) (h : k < nulls n) : (n + 1 + k) % 64 ≠ 56 := by unfold nulls at h; omega
theorem nulls_le (n : Nat) : nulls n ≤ 63 := by unfold nulls; omega
def vlen : Value → Nat | .slice _ l _ => l | _ => 0
set_option maxRecDepth 100000 in
set_option maxHeartbeats 1000000 in
theorem padded_any (sp : Option Addr) (n cap : Nat) (L : List Int) (w : World) (hn : Hid (n = L.length)) (hnil : sp = none → n = 0 ∧ cap = 0) (hS : SlL w sp L) (hb : n ≤ 140737488355000) :
    Calls Try.prog 93 #[.slice sp n cap] w fun e w' => ∃ v, e = .returned v ∧ w'.ownsRow w.heap.size 5 1 v (n + 1 + nulls n + 8) (by8 (padL L)) ∧ Below w.heap.size w w' := by
  have hnI : (n : Int) ≤ 140737488355000 := by omega
  have hn0 : (0 : Int) ≤ n := by omega
  have hlit : (w.alloc (.cells #[] 5)).ownsRow w.heap.size 5 1 (.slice (some ⟨w.heap.size, 0, none⟩) 0 0) 0 (by8 []) := World.ownsRow_lit _ _ _ (Nat.le_refl _) (by unfold maxLen; omega) rfl
  go_enter Try.func93, Try.ntmps93
  go_wp2_with (first
    | (at_builtin; refine append_bytes (by rfl) (.tmp 6) (.tmp 7) (by rfl) w.heap.size _ 0 [] (by rfl) hlit sp n cap L (by rfl) hn.out hnil (Sl.alloc hS _) (by omega) (by simp) ?_; intro v1 w1 hown1 hg1; have hs1 : w.heap.size ≤ w1.heap.size := (by have := hg1.size; simp at this; omega))
    | (at_builtin; refine append_bytes (by rfl) (.tmp 8) (.tmp 9) (by rfl) w.heap.size _ n ([] ++ L) (by rfl) ((show w1.ownsRow w.heap.size 5 1 v1 n (by8 ([] ++ L)) from (by simpa using hown1)).alloc _) (some ⟨w1.heap.size, 0, none⟩) 1 1 [128] (by rfl) (by rfl) (fun h => by cases h) (Arr.sl (Arr.new w1 5 _)) (by omega) (by simp; omega) ?_; intro v2 w2 hown2 hg2))
  have hs2 : w.heap.size ≤ w2.heap.size := by have := hg2.size; simp at this; omega
  have hB2 : Below w.heap.size w w2 := ((((Below.refl _ _).alloc (Nat.le_refl _) _).grown hg1 (by simp) (fun k e => by simp [Value.ownBlock] at e; omega)).alloc hs1 _).grown hg2 (by simp; omega) (fun k e => own_ge hown1 k e)
  have hown2 : w2.ownsRow w.heap.size 5 1 v2 (n + 1) (by8 (L ++ [128])) := by simpa using hown2
  clear hown1 hg1 hg2 hs1 hlit hS
  obtain ⟨g2, cap2, rfl, -, hc2, -⟩ := own_slice hown2 (by omega)
  go_loopw [3] (fun v wr => ∃ (k g c : Nat), k ≤ nulls n ∧ v = .slice (some ⟨g, 0, none⟩) (n + 1 + k) c ∧ wr.ownsRow w.heap.size 5 1 v (n + 1 + k) (by8 (L ++ [128] ++ zerosL k)) ∧ Below w.heap.size w wr)
    (fun v _ => n + 1 + nulls n - vlen v)
  case atStart => exact ⟨0, g2, cap2, by omega, rfl, by simpa [zerosL] using hown2, hB2⟩
  case round =>
    clear hown2 hB2 hs2
    obtain ⟨k, g, c, hk, rfl, hown, hbl⟩ := hrel
    have hkI : (k : Int) ≤ 63 := by have := nulls_le n; omega
    have hN := nulls_le n
    by_cases hlt : k < nulls n
    · have hm : ¬ ((n : Int) + 1 + k) % 64 = 56 := by have := nulls_lt n k hlt; omega
      have hm' : (((n : Int) + 1 + k) % 64 == 56) = false := by simpa using hm
      go_wp2_with (at_builtin; go_must (refine append_bytes (by rfl) (.tmp 15) (.tmp 16) (by rfl) w.heap.size _ (n + 1 + k) (L ++ [128] ++ zerosL k) (by rfl) (hown.alloc _) (some ⟨wr.heap.size, 0, none⟩) 1 1 [0] (by rfl) (by rfl) (fun h => by cases h) (Arr.sl (Arr.new wr 5 _)) (by omega) (by have := hbl.size; simp; omega) ?_; intro v3 w3 hown3 hg3))
      have hs3 : w.heap.size ≤ wr.heap.size := hbl.size
      have hB3 : Below w.heap.size w w3 := (hbl.alloc hs3 _).grown hg3 (by simp; omega) (fun k e => own_ge hown k e)
      obtain ⟨g3, c3, rfl, -, hc3, -⟩ := own_slice hown3 (by omega)
      go_roundw
      case rel => exact ⟨k + 1, g3, c3, by omega, by rw [Nat.add_assoc (n + 1) k 1], by rw [← zerosL_succ, ← List.append_assoc, ← Nat.add_assoc]; exact hown3, hB3⟩
      case measure => simp only [vlen]; omega
    · obtain rfl : k = nulls n := by omega
      have hm : ((n : Int) + 1 + nulls n) % 64 = 56 := by have := nulls_mod n; omega
      go_wp2
      obtain ⟨wo, rfl⟩ : ∃ wo : World, wo = wr := ⟨_, rfl⟩
      go_loopw [3, 5] (fun v i wr => ∃ (j g c : Nat), j ≤ 8 ∧ i = .int .i64 (7 - (j : Int)) ∧ v = .slice (some ⟨g, 0, none⟩) (n + 1 + nulls n + j) c ∧ wr.ownsRow w.heap.size 5 1 v (n + 1 + nulls n + j) (by8 (L ++ [128] ++ zerosL (nulls n) ++ lenL n j)) ∧ Below w.heap.size w wr)
        (fun v _ _ => n + 1 + nulls n + 8 - vlen v)
      case atStart => exact ⟨0, g, c, by omega, rfl, rfl, by simpa [lenL] using hown, hbl⟩
      case round =>
        clear hown hbl hm
        obtain ⟨j, g, c, hj, rfl, rfl, hown, hbl⟩ := hrel
        have hjI : (j : Int) ≤ 8 := by omega
        have hj0 : (0 : Int) ≤ j := by omega
        by_cases hlt : j < 8
        · have h7 : (0 : Int) ≤ 7 - (j : Int) := by omega
          have e8 : (8 * (7 - (j : Int))).toNat = 8 * (7 - j) := by omega
          go_wp2_with (at_builtin; go_must (refine append_bytes (by rfl) (.tmp 26) (.tmp 33) (by rfl) w.heap.size _ (n + 1 + nulls n + j) (L ++ [128] ++ zerosL (nulls n) ++ lenL n j) (by rfl) (hown.alloc _) (some ⟨wr.heap.size, 0, none⟩) 1 1 [(n : Int) * 8 / 2 ^ (8 * (7 - j)) % 256] (by rfl) (by rfl) (fun h => by cases h) (Arr.sl (Arr.new wr 5 _)) (by omega) (by have := hbl.size; simp; omega) ?_; intro v3 w3 hown3 hg3))
          have hs3 : w.heap.size ≤ wr.heap.size := hbl.size
          have hB3 : Below w.heap.size w w3 := (hbl.alloc hs3 _).grown hg3 (by simp; omega) (fun k e => own_ge hown k e)
          obtain ⟨g3, c3, rfl, -, hc3, -⟩ := own_slice hown3 (by omega)
          go_wp2
          go_roundw
          case rel => exact ⟨j + 1, g3, c3, by omega, by go_num, by rw [Nat.add_assoc (n + 1 + nulls n) j 1], by rw [← lenL_succ, ← List.append_assoc, ← Nat.add_assoc]; exact hown3, hB3⟩
          case measure => simp only [vlen]; omega
        · obtain rfl : j = 8 := by omega
          go_wp2
          go_ret
          refine ⟨_, rfl, ?_, hbl⟩
          have := hn.out
          unfold padL
          rw [← this]
          exact hown
end Go.Proofs.Ytimmiidkjpbffaa
/- Layer compile: what the layers below give. -/
namespace Go.Proofs.Ytimmiidkjpbffaa
open Go.RowKit
set_option maxRecDepth 100000
set_option linter.unusedVariables false
set_option linter.unusedSimpArgs false

theorem word_congr {B B' : Nat → Int} (h : ∀ t, t < 64 → B t = B' t) {t : Nat} (ht : t < 16) : word B t = word B' t := by
  unfold word
  rw [h (4 * t) (by omega), h (4 * t + 1) (by omega), h (4 * t + 2) (by omega), h (4 * t + 3) (by omega)]
theorem wsn_congr {B B' : Nat → Int} (h : ∀ t, t < 64 → B t = B' t) (k : Nat) : wsn B k = wsn B' k := by
  induction k with
  | zero =>
    unfold wsn
    refine List.map_congr_left fun t ht => word_congr h ?_
    simpa using ht
  | succ k ih => rw [wsn, wsn, ih]
theorem WW_congr {B B' : Nat → Int} (h : ∀ t, t < 64 → B t = B' t) : WW B = WW B' := by
  funext t; unfold WW; rw [wsn_congr h]
theorem absorbN_congr {K B B' : Nat → Int} (s : St) (m : Nat) (h : ∀ t, t < 64 * m → B t = B' t) : absorbN K B s m = absorbN K B' s m := by
  induction m with
  | zero => rfl
  | succ m ih =>
    rw [absorbN, absorbN, ih (fun t ht => h t (by omega)), WW_congr (B := fun t => B (64 * m + t)) (B' := fun t => B' (64 * m + t)) (fun t ht => h _ (by omega))]
theorem absorbN_add (K B : Nat → Int) (s : St) (m j : Nat) : absorbN K B s (m + j) = absorbN K (fun t => B (64 * m + t)) (absorbN K B s m) j := by
  induction j with
  | zero => rfl
  | succ j ih =>
    rw [← Nat.add_assoc, absorbN, absorbN, ih]
    have : (fun t => B (64 * (m + j) + t)) = fun t => B (64 * m + (64 * j + t)) := by funext t; congr 1; omega
    rw [this]
theorem bat_app (A M : List Int) (t : Nat) : bat (A ++ M) t = if t < A.length then bat A t else bat M (t - A.length) := by
  simp only [bat, List.getD_eq_getElem?_getD]
  by_cases h : t < A.length
  · rw [if_pos h, List.getElem?_append_left h]
  · rw [if_neg h, List.getElem?_append_right (by omega)]
theorem bat_zeros (k t : Nat) : bat (zerosL k) t = 0 := by
  simp only [bat, zerosL, List.getD_eq_getElem?_getD]
  by_cases h : t < k
  · simp [h]
  · simp [h]
theorem bat_len {n j t : Nat} (h : t < j) : bat (lenL n j) t = (n : Int) * 8 / 2 ^ (8 * (7 - t)) % 256 := by
  simp only [bat, lenL, List.getD_eq_getElem?_getD, List.getElem?_map, List.getElem?_range h]; rfl
theorem bat_pad (L : List Int) (t : Nat) (ht : t < L.length + 1 + nulls L.length + 8) :
    bat (padL L) t = if t < L.length then bat L t else if t = L.length then 128 else if t < L.length + 1 + nulls L.length then 0 else (L.length : Int) * 8 / 2 ^ (8 * (7 - (t - (L.length + 1 + nulls L.length)))) % 256 := by
  unfold padL
  rw [bat_app, bat_app, bat_app]
  simp only [List.length_append, zerosL_len, List.length_singleton]
  by_cases h1 : t < L.length
  · rw [if_pos (by omega), if_pos (by omega), if_pos h1, if_pos h1]
  · rw [if_neg h1]
    by_cases h2 : t = L.length
    · rw [if_pos (by omega), if_pos (by omega), if_neg h1, if_pos h2, h2, Nat.sub_self]; rfl
    · rw [if_neg h2]
      by_cases h3 : t < L.length + 1 + nulls L.length
      · rw [if_pos h3, if_neg (by omega), if_pos h3, bat_zeros, if_neg h1]
      · rw [if_neg h3, if_neg h3, bat_len (by omega), if_neg h1]
/-- How many blocks the last bytes fill. -/
def lastQ (r : Nat) : Nat := if 55 < r then 2 else 1
theorem pad_blocks (n : Nat) : n + 1 + nulls n + 8 = 64 * (n / 64 + lastQ (n % 64)) := by
  unfold nulls lastQ
  by_cases h : 55 < n % 64
  · rw [if_pos h]; omega
  · rw [if_neg h]; omega
theorem pad_block (L : List Int) (t : Nat) (ht : t < 64 * lastQ (L.length % 64)) :
    bat (padL L) (64 * (L.length / 64) + t) = padB (fun t => bat L (64 * (L.length / 64) + t)) (64 * ((L.length / 64 : Nat) : Int) + ((L.length % 64 : Nat) : Int)) (L.length % 64) (64 * lastQ (L.length % 64)) t := by
  have hp := pad_blocks L.length
  have hq : lastQ (L.length % 64) = 1 ∨ lastQ (L.length % 64) = 2 := by unfold lastQ; by_cases h : 55 < L.length % 64 <;> simp [h]
  have hnn : ((L.length : Nat) : Int) = 64 * ((L.length / 64 : Nat) : Int) + ((L.length % 64 : Nat) : Int) := by omega
  rw [bat_pad L _ (by omega), ← hnn]
  unfold padB baseB lenB
  by_cases h1 : t < L.length % 64
  · rw [if_pos (by omega), if_pos (by omega), if_pos h1]
  · rw [if_neg (by omega)]
    by_cases h2 : t = L.length % 64
    · rw [if_pos (by omega), if_pos (by omega), if_neg h1, if_pos h2]
    · rw [if_neg (by omega)]
      by_cases h3 : t < 64 * lastQ (L.length % 64) - 8
      · rw [if_pos (by omega), if_pos h3, if_neg h1, if_neg h2]
      · rw [if_neg (by omega), if_neg h3]
        congr 3
        omega
/-- The padded bytes, block by block, give the sum's words. -/
theorem absorb_pad (L : List Int) : absorbN kOf (bat (padL L)) h0St (L.length / 64 + lastQ (L.length % 64)) = shaSt (bat L) (L.length / 64) (L.length % 64) := by
  rw [absorbN_add, absorbN_congr (B := bat (padL L)) (B' := bat L) h0St (L.length / 64) (fun t ht => ?_)]
  · rw [absorbN_congr _ _ (pad_block L)]
    unfold shaSt lastQ
    by_cases h : 55 < L.length % 64
    · simp only [if_pos h]
    · simp only [if_neg h]
  · rw [bat_pad L t (by omega), if_pos (by omega)]
end Go.Proofs.Ytimmiidkjpbffaa
/- Layer compile: what the layers below give. -/
namespace Go.Proofs.Ytimmiidkjpbffaa
open Go.RowKit
set_option maxRecDepth 100000
set_option linter.unusedVariables false
set_option linter.unusedSimpArgs false

theorem padded_blocks (sp : Option Addr) (n cap M : Nat) (L : List Int) (w : World) (hn : Hid (n = L.length)) (hM : Hid (n + 1 + nulls n + 8 = 64 * M)) (hnil : sp = none → n = 0 ∧ cap = 0) (hS : SlL w sp L) (hb : n ≤ 140737488355000) :
    Calls Try.prog 93 #[.slice sp n cap] w fun e w' => ∃ g c, e = .returned (.slice (some ⟨g, 0, none⟩) (64 * M) c) ∧ 64 * M ≤ c ∧ w.heap.size ≤ g ∧ Bytes w' g 0 (64 * M) (bat (padL L)) ∧ Below w.heap.size w w' := by
  refine (padded_any sp n cap L w hn hnil hS hb).mono ?_
  rintro e w' ⟨v, rfl, hown, hb'⟩
  obtain ⟨g, c, rfl, hn3, hc3, hgg, hBy, -⟩ := own_slice hown (by omega)
  have := hM.out
  have h3 := hn3.out
  rw [← h3, this] at hBy
  rw [this] at hc3 ⊢
  exact ⟨g, c, rfl, hc3, hgg, hBy, hb'⟩
theorem Bytes.setRowOther {w : World} {b off n k : Nat} {B : Nat → Int} (h : Bytes w b off n B) (D : Array Value) (hk : b ≠ k) : Bytes (w.setRow k D) b off n B := fun t ht => by
  rw [World.cell?_of_block (w := w) (a := ⟨b, off + t, none⟩) (setRow_other w k b D hk)]; exact h t ht
set_option maxRecDepth 100000 in
set_option maxHeartbeats 1000000 in
theorem refSum_any (sp : Option Addr) (n cap : Nat) (L : List Int) (w : World) (hn : n = L.length) (hnil : sp = none → n = 0 ∧ cap = 0) (hS : SlL w sp L) (hb : n ≤ 140737488355000) :
    Calls Try.prog 72 #[.slice sp n cap] w fun e w' => e = .returned (.agg (sha L)) ∧ Below w.heap.size w w' := by
  obtain ⟨M, hM0⟩ : ∃ M, M = n / 64 + lastQ (n % 64) := ⟨_, rfl⟩
  have hM : Hid (n + 1 + nulls n + 8 = 64 * M) := by show _ = _; rw [hM0]; exact pad_blocks n
  have hMb : 64 * M ≤ 140737488355072 := by have := hM.out; have := nulls_le n; omega
  have hMI : 64 * (M : Int) ≤ 140737488355072 := by omega
  have hfin : Hid (absorbN kOf (bat (padL L)) h0St M = shaSt (bat L) (n / 64) (n % 64)) := by show _ = _; rw [hM0, hn]; exact absorb_pad L
  have HN := Hid.mk' hn
  clear hn hM0
  go_enter Try.func72, Try.ntmps72
  go_upto_region 3 with (first
    | (refine wpList_store_new (w.alloc _) _ 148 (by rfl) 148 (.tmp 3) (.tmp 8) (by rfl) h0St.cells (by rfl) (by rfl) (s48 _) (by rfl) (St.one _) ?_)
    | (go_at_call 93; go_must (refine (padded_blocks sp n cap M L _ HN hM hnil (Sl.alloc (Sl.alloc hS _) _) hb).mono ?_; rintro e w3 ⟨g, c, rfl, hc3, hgg, hBy, hb3⟩)))
  have hA3 : Arr w3 (w.heap.size + 1) 148 h0St.cells := (show Arr ((w.alloc _).alloc (.cells h0St.cells 148)) (w.heap.size + 1) 148 h0St.cells from by simpa using Arr.new (w.alloc _) 148 h0St.cells).below hb3 (by simp)
  have hZ3 : ∃ Z : Array Value, Z.size = 32 ∧ Arr w3 w.heap.size 130 Z := ⟨_, by rfl, ((Arr.new w 130 _).alloc _).below hb3 (by simp; omega)⟩
  obtain ⟨Z, hZs, hZ3⟩ := hZ3
  have hB3 : Below w.heap.size w w3 := (((Below.refl _ _).alloc (Nat.le_refl _) _).alloc (by simp) _).trans (hb3.mono (by simp; omega))
  have hgg : w.heap.size + 2 ≤ g := by simpa using hgg
  clear hb3 hS
  generalize bat (padL L) = Bf at *
  go_wp2_with fail
  go_loopw [5] (fun i wr => ∃ j : Nat, j ≤ M ∧ i = .int .i64 (64 * (j : Int)) ∧ Arr wr (w.heap.size + 1) 148 (absorbN kOf Bf h0St j).cells ∧ Arr wr w.heap.size 130 Z ∧ Bytes wr g 0 (64 * M) Bf ∧ Below w.heap.size w wr)
    (fun i _ => 64 * M - (intOf i).toNat)
  case atStart => exact ⟨0, by omega, rfl, hA3, hZ3, hBy, hB3⟩
  case round =>
    clear hA3 hZ3 hBy hB3
    obtain ⟨j, hj, rfl, hA, hZ, hBy, hbl⟩ := hrel
    have h4 : (0 : Int) ≤ j := by omega
    by_cases hlt : j < M
    · have h5 : (j : Int) + 1 ≤ M := by omega
      have hcI : 64 * (M : Int) ≤ c := by omega
      have hcj : 64 * (j : Int) + 64 ≤ c := by omega
      have hl : 64 * j + 64 - 64 * j = 64 := by omega
      have hcond : 64 * (j : Int) < 64 * (M : Int) := by omega
      have i1 : IntKind.i64.wrap (64 * (j : Int) + 64) = 64 * (j : Int) + 64 := by simp [IntKind.wrap, IntKind.bits, IntKind.signed]; omega
      have p0 : 0 ≤ 64 * (j : Int) := by omega
      have p1 : 0 ≤ 64 * (j : Int) + 64 := by omega
      have p2 : 64 * (j : Int) ≤ 64 * (j : Int) + 64 := by omega
      have p3 : 64 * (j : Int) < c := by omega
      have p4 : 64 * j < c := by omega
      have p5 : ¬ c = 64 * j := by omega
      have t0 : (64 * (j : Int)).toNat = 64 * j := by omega
      have t1 : (64 * (j : Int) + 64).toNat = 64 * j + 64 := by omega
      have hB' : Bytes wr.drew g (64 * j) 64 (fun t => Bf (64 * j + t)) := fun t ht => by
        have := hBy (64 * j + t) (by omega)
        rw [Nat.zero_add] at this; exact this
      obtain ⟨sj, hsj⟩ : ∃ sj, sj = absorbN kOf Bf h0St j := ⟨_, rfl⟩
      obtain ⟨sn, hsn⟩ : ∃ sn, sn = absorbN kOf Bf h0St (j + 1) := ⟨_, rfl⟩
      have hcall : ∀ (u : World) (cap : Nat), Bytes u g (64 * j) 64 (fun t => Bf (64 * j + t)) → Calls Try.prog 94 #[.agg sj.cells, .slice (some ⟨g, 64 * j, none⟩) 64 cap] u fun e w' => e = .returned (.agg sn.cells) ∧ Below u.heap.size u w' := fun u cap h => by
        have := refBlock_any sj g (64 * j) cap (fun t => Bf (64 * j + t)) u h
        rw [hsn, absorbN, ← hsj]; exact this
      have Hsn := Hid.mk' hsn
      rw [← hsj] at hA
      clear hsj hsn
      go_upto_region 6 with fail
      obtain ⟨c0, c1, c2, c3, c4, c5, c6, c7⟩ := hA.cells8
      go_region_with (first
        | (go_at_call 94; go_must (refine (hcall wr.drew _ hB').mono ?_; rintro e w4 ⟨rfl, hb4⟩; have hA5 := hA.drew.below hb4 hA.lt; have hst := hA5.store8 sn)))
      all_goals
        clear c0 c1 c2 c3 c4 c5 c6 c7 hst
        go_wp2_with fail
        go_roundw
        case rel => exact ⟨j + 1, by omega, by go_num, by rw [← Hsn.out]; exact hA5.setRow _, (hZ.drew.below hb4 hZ.lt).setRowOther _ (by omega), Bytes.setRowOther (Bytes.below (w := wr.drew) hBy hb4) _ (by omega), below_setRow (hbl.drew.trans (hb4.mono hbl.size)) (by omega) _⟩
        case measure => simp [intOf]; omega
    · obtain rfl : j = M := by omega
      clear hBy
      rw [hfin.out] at hA
      obtain ⟨S, hS⟩ : ∃ S, S = shaSt (bat L) (n / 64) (n % 64) := ⟨_, rfl⟩
      rw [← hS] at hA
      have hsha : Hid (u8s 32 (outB S) = sha L) := by show _ = _; rw [hS, HN.out]; rfl
      clear hS
      obtain ⟨wo, rfl⟩ : ∃ wo : World, wo = wr := ⟨_, rfl⟩
      go_wp2_with fail
      have hs1 : w.heap.size + 1 < wo.heap.size := hA.lt
      go_loopw [7] (fun i wr => ∃ (k : Nat) (C : Array Value), k ≤ 32 ∧ i = .int .i64 k ∧ Arr wr (w.heap.size + 1) 148 S.cells ∧ Arr wr w.heap.size 130 Z ∧ Arr wr wo.heap.size 130 C ∧ C.size = 32 ∧ (∀ t, t < k → C[t]? = some (.int .u8 (outB S t))) ∧ Below w.heap.size w wr)
        (fun i _ => 32 - (intOf i).toNat)
      case atStart => exact ⟨0, _, by omega, rfl, hA.alloc _, hZ.alloc _, Arr.new _ _ _, rfl, fun t h => by omega, hbl.alloc hbl.size _⟩
      case round =>
        clear hA hZ hbl
        generalize wo.heap.size = g6 at *
        obtain ⟨k, C, hk, rfl, hA, hZ, hC, hCs, hw, hbl⟩ := hrel
        have HW := Hid.mk' hw
        clear hw
        by_cases hlt : k < 32
        · have h3 : (k : Int) < 32 := by omega
          have h4 : (0 : Int) ≤ k := by omega
          have c0 : wr.cell? ⟨w.heap.size + 1, k / 4, none⟩ = some (.int .u32 (S.at (k / 4))) := (hA.cell _).trans (St.get S (by omega))
          obtain ⟨v1, c1⟩ := hC.got (j := k) (by omega)
          have f0 := hC.frozen k
          go_wp2
          go_roundw
          case rel =>
            have q := set_step (f := fun t => .int .u8 (outB S t)) hCs (by omega) HW.out
            exact ⟨k + 1, _, by omega, by go_num, hA.setOther _ (by simp; omega), hZ.setOther _ (by simp; omega), hC.set _ _, by simp [hCs], q, hbl.setCell (by simp; omega) _⟩
          case measure => simp [intOf]; omega
        · obtain rfl : k = 32 := by omega
          have hCe : C = u8s 32 (outB S) := arr_eq hCs HW.out
          rw [hsha.out] at hCe
          subst hCe
          go_wp2_with (first
            | (refine wpList_load_row (by rfl) 130 (.tmp 6) (by rfl) g6 (by rfl) 130 (sha L) (0, 0) _ hC Try.underlying130 rfl (s24sha _) ?_)
            | (refine wpList_store_arr (by rfl) 130 (.tmp 2) (.tmp 41) (by rfl) w.heap.size (sha L) (by rfl) (by rfl) 130 _ hZ (s24sha _) (by rw [hZs]; exact (sha_size _).symm) (sha_one _) ?_))
          exact bodyPost_ret (v := .agg (sha L)) (results_cell_row Try.results72 _ _ w.heap.size 130 _ (0, 0) _ rfl (hZ.setRow _) Try.underlying130 rfl (s24sha _)) rfl ⟨rfl, below_setRow hbl (Nat.le_refl _) _⟩
end Go.Proofs.Ytimmiidkjpbffaa
/- Layer compile: what the layers below give. -/
namespace Go.Proofs.Ytimmiidkjpbffaa
open Go.RowKit Go.Shelf
set_option maxRecDepth 100000
set_option linter.unusedVariables false
set_option linter.unusedSimpArgs false
attribute [local go_sem] Oper.semAt_some

theorem Arr.put {w : World} {g ty : Nat} {C : Array Value} (h : Arr w g ty C) {r : Nat} (o : Obj) (hne : g ≠ r) : Arr (w.putObj r o) g ty C := (World.putObj_heap_other hne).trans h
end Go.Proofs.Ytimmiidkjpbffaa
/- Layer compile: what the layers below give. -/
namespace Go.Proofs.Ytimmiidkjpbffaa
open Go.RowKit
set_option maxRecDepth 100000
set_option linter.unusedVariables false
set_option linter.unusedSimpArgs false

/-- Entries, by sums. -/
def entsH (L : List (List Int × Int × Nat)) : List MapEntry := L.map fun x => { key := .agg (h8 x.1), val := .int .i64 x.2.1, born := x.2.2 }
def kvH (L : List (List Int × Int × Nat)) (k : List Int) : Option Int := (L.find? (fun x => decide (x.1 = k))).map (·.2.1)
/-- Block r is a map that has m. -/
def MapH (w : World) (r : Nat) (m : List Int → Option Int) : Prop := ∃ L clock, w.heap[r]? = some (.map (entsH L).toArray clock) ∧ (∀ x ∈ L, x.1.length = 32) ∧ ∀ k, kvH L k = m k
theorem MapH.new (w : World) : MapH (w.alloc (.map #[] 0)) w.heap.size (fun _ => none) := ⟨[], 0, heap_alloc_new w _, (fun x h => by cases h), fun _ => rfl⟩
theorem MapH.lt {w : World} {r : Nat} {m : List Int → Option Int} (h : MapH w r m) : r < w.heap.size := by
  obtain ⟨L, clock, h1, h2⟩ := h
  exact (Array.getElem?_eq_some_iff.1 h1).1
end Go.Proofs.Ytimmiidkjpbffaa
