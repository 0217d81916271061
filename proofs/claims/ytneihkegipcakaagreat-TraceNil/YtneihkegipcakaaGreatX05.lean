/- Ud, Ue, Ml, Ch, Tp, Mo, La, ZVa, ZVf, ZVl. -/
import Derived.Test.YtneihkegipcakaaGreatX01
import Derived.Test.YtneihkegipcakaaGreatX02
import Derived.Test.YtneihkegipcakaaGreatX04
import Derived.BigQuiet
import Derived.BigRegion
import Derived.ChangeKeysEq
import Derived.Deep.DeepCutAuto
import Derived.Deep.DrawnRows
import Derived.Deep.MidRow
import Derived.Deep.QuietTactic
import Derived.Deep.RegionHeld3
import Derived.Deep.RegionLaw
import Derived.Deep.RegionWith
import Derived.Deep.WholeRow
import Derived.Laws.AppendOwnNone
import Derived.Laws.BytesArg
import Derived.Laws.CopyOwn
import Derived.Lib.SlBytesConst
import Derived.WalkKit
import Derived.WalkLawsBesides
import Derived.WalkSpells
import Derived.Test.YtneihkegipcakaaGreatX03
import Derived.Laws.BitsLemmas
import Derived.LoopIn
import Derived.LoopNIn
import Derived.OwnWalkIn
import Derived.RangeFuncBound
import Derived.RangeFuncCalls
import Derived.RangeFuncLeaves
import Derived.RangeFuncNested
import Derived.RangeFuncRecord
import Derived.Shelf.Abstract
import Derived.Shelf.RegionOpen
import Derived.TacticsInMore
import Derived.Great.BuildSlice
import Derived.Laws.Tables
import Derived.Maps.AppendAt
import Derived.Test.YtneihkegipcakaaGreatRows
import Derived.ChangeOld
import Derived.OpenShut
import Derived.ProofKit
import Derived.ShutString
import Derived.SizedLaws
import Derived.Great.FillDense
import Derived.Laws.OwnMore
import Derived.DeepKeys3
import Derived.Laws.ResultCell
/- Layer trace: what the layers below give. -/
namespace Go.Proofs.YtneihkegipcakaaGreat
open Go.RowKit
set_option maxRecDepth 100000
set_option linter.unusedVariables false
set_option linter.unusedSimpArgs false

theorem word_congr {B B' : Nat → Int} (h : ∀ t, t < 64 → B t = B' t) {t : Nat} (ht : t < 16) : word B t = word B' t := by
  unfold word
  rw [h (4 * t) (by omega), h (4 * t + 1) (by omega), h (4 * t + 2) (by omega), h (4 * t + 3) (by omega)]
theorem wsn_congr {B B' : Nat → Int} (h : ∀ t, t < 64 → B t = B' t) (k : Nat) : wsn B k = wsn B' k := by
  induction k with
  | zero =>
    unfold wsn
    refine List.map_congr_left fun t ht => word_congr h ?_
    simpa using ht
  | succ k ih => rw [wsn, wsn, ih]
theorem WW_congr {B B' : Nat → Int} (h : ∀ t, t < 64 → B t = B' t) : WW B = WW B' := by
  funext t; unfold WW; rw [wsn_congr h]
theorem absorbN_congr {K B B' : Nat → Int} (s : St) (m : Nat) (h : ∀ t, t < 64 * m → B t = B' t) : absorbN K B s m = absorbN K B' s m := by
  induction m with
  | zero => rfl
  | succ m ih =>
    rw [absorbN, absorbN, ih (fun t ht => h t (by omega)), WW_congr (B := fun t => B (64 * m + t)) (B' := fun t => B' (64 * m + t)) (fun t ht => h _ (by omega))]
theorem absorbN_add (K B : Nat → Int) (s : St) (m j : Nat) : absorbN K B s (m + j) = absorbN K (fun t => B (64 * m + t)) (absorbN K B s m) j := by
  induction j with
  | zero => rfl
  | succ j ih =>
    rw [← Nat.add_assoc, absorbN, absorbN, ih]
    have : (fun t => B (64 * (m + j) + t)) = fun t => B (64 * m + (64 * j + t)) := by funext t; congr 1; omega
    rw [this]
theorem bat_app (A M : List Int) (t : Nat) : bat (A ++ M) t = if t < A.length then bat A t else bat M (t - A.length) := by
  simp only [bat, List.getD_eq_getElem?_getD]
  by_cases h : t < A.length
  · rw [if_pos h, List.getElem?_append_left h]
  · rw [if_neg h, List.getElem?_append_right (by omega)]
theorem bat_zeros (k t : Nat) : bat (zerosL k) t = 0 := by
  simp only [bat, zerosL, List.getD_eq_getElem?_getD]
  by_cases h : t < k
  · simp [h]
  · simp [h]
theorem bat_len {n j t : Nat} (h : t < j) : bat (lenL n j) t = (n : Int) * 8 / 2 ^ (8 * (7 - t)) % 256 := by
  simp only [bat, lenL, List.getD_eq_getElem?_getD, List.getElem?_map, List.getElem?_range h]; rfl
theorem bat_pad (L : List Int) (t : Nat) (ht : t < L.length + 1 + nulls L.length + 8) :
    bat (padL L) t = if t < L.length then bat L t else if t = L.length then 128 else if t < L.length + 1 + nulls L.length then 0 else (L.length : Int) * 8 / 2 ^ (8 * (7 - (t - (L.length + 1 + nulls L.length)))) % 256 := by
  unfold padL
  rw [bat_app, bat_app, bat_app]
  simp only [List.length_append, zerosL_len, List.length_singleton]
  by_cases h1 : t < L.length
  · rw [if_pos (by omega), if_pos (by omega), if_pos h1, if_pos h1]
  · rw [if_neg h1]
    by_cases h2 : t = L.length
    · rw [if_pos (by omega), if_pos (by omega), if_neg h1, if_pos h2, h2, Nat.sub_self]; rfl
    · rw [if_neg h2]
      by_cases h3 : t < L.length + 1 + nulls L.length
      · rw [if_pos h3, if_neg (by omega), if_pos h3, bat_zeros, if_neg h1]
      · rw [if_neg h3, if_neg h3, bat_len (by omega), if_neg h1]
/-- How many blocks the last bytes fill. -/
def lastQ (r : Nat) : Nat := if 55 < r then 2 else 1
theorem pad_blocks (n : Nat) : n + 1 + nulls n + 8 = 64 * (n / 64 + lastQ (n % 64)) := by
  unfold nulls lastQ
  by_cases h : 55 < n % 64
  · rw [if_pos h]; omega
  · rw [if_neg h]; omega
theorem pad_block (L : List Int) (t : Nat) (ht : t < 64 * lastQ (L.length % 64)) :
    bat (padL L) (64 * (L.length / 64) + t) = padB (fun t => bat L (64 * (L.length / 64) + t)) (64 * ((L.length / 64 : Nat) : Int) + ((L.length % 64 : Nat) : Int)) (L.length % 64) (64 * lastQ (L.length % 64)) t := by
  have hp := pad_blocks L.length
  have hq : lastQ (L.length % 64) = 1 ∨ lastQ (L.length % 64) = 2 := by unfold lastQ; by_cases h : 55 < L.length % 64 <;> simp [h]
  have hnn : ((L.length : Nat) : Int) = 64 * ((L.length / 64 : Nat) : Int) + ((L.length % 64 : Nat) : Int) := by omega
  rw [bat_pad L _ (by omega), ← hnn]
  unfold padB baseB lenB
  by_cases h1 : t < L.length % 64
  · rw [if_pos (by omega), if_pos (by omega), if_pos h1]
  · rw [if_neg (by omega)]
    by_cases h2 : t = L.length % 64
    · rw [if_pos (by omega), if_pos (by omega), if_neg h1, if_pos h2]
    · rw [if_neg (by omega)]
      by_cases h3 : t < 64 * lastQ (L.length % 64) - 8
      · rw [if_pos (by omega), if_pos h3, if_neg h1, if_neg h2]
      · rw [if_neg (by omega), if_neg h3]
        congr 3
        omega
/-- The padded bytes, block by block, give the sum's words. -/
theorem absorb_pad (L : List Int) : absorbN kOf (bat (padL L)) h0St (L.length / 64 + lastQ (L.length % 64)) = shaSt (bat L) (L.length / 64) (L.length % 64) := by
  rw [absorbN_add, absorbN_congr (B := bat (padL L)) (B' := bat L) h0St (L.length / 64) (fun t ht => ?_)]
  · rw [absorbN_congr _ _ (pad_block L)]
    unfold shaSt lastQ
    by_cases h : 55 < L.length % 64
    · simp only [if_pos h]
    · simp only [if_neg h]
  · rw [bat_pad L t (by omega), if_pos (by omega)]
end Go.Proofs.YtneihkegipcakaaGreat
/- Layer trace: what the layers below give. -/
namespace Go.Proofs.YtneihkegipcakaaGreat
open Go.RowKit
set_option maxRecDepth 100000
set_option linter.unusedVariables false
set_option linter.unusedSimpArgs false

theorem padded_blocks (sp : Option Addr) (n cap M : Nat) (L : List Int) (w : World) (hn : Hid (n = L.length)) (hM : Hid (n + 1 + nulls n + 8 = 64 * M)) (hnil : sp = none → n = 0 ∧ cap = 0) (hS : SlL w sp L) (hb : n ≤ 140737488355000) :
    Calls Tryz.prog 102 #[.slice sp n cap] w fun e w' => ∃ g c, e = .returned (.slice (some ⟨g, 0, none⟩) (64 * M) c) ∧ 64 * M ≤ c ∧ w.heap.size ≤ g ∧ Bytes w' g 0 (64 * M) (bat (padL L)) ∧ Below w.heap.size w w' := by
  refine (padded_any sp n cap L w hn hnil hS hb).mono ?_
  rintro e w' ⟨v, rfl, hown, hb'⟩
  obtain ⟨g, c, rfl, hn3, hc3, hgg, hBy, -⟩ := own_slice hown (by omega)
  have := hM.out
  have h3 := hn3.out
  rw [← h3, this] at hBy
  rw [this] at hc3 ⊢
  exact ⟨g, c, rfl, hc3, hgg, hBy, hb'⟩
theorem Bytes.setRowOther {w : World} {b off n k : Nat} {B : Nat → Int} (h : Bytes w b off n B) (D : Array Value) (hk : b ≠ k) : Bytes (w.setRow k D) b off n B := fun t ht => by
  rw [World.cell?_of_block (w := w) (a := ⟨b, off + t, none⟩) (setRow_other w k b D hk)]; exact h t ht
set_option maxRecDepth 100000 in
set_option maxHeartbeats 1000000 in
theorem refSum_any (sp : Option Addr) (n cap : Nat) (L : List Int) (w : World) (hn : n = L.length) (hnil : sp = none → n = 0 ∧ cap = 0) (hS : SlL w sp L) (hb : n ≤ 140737488355000) :
    Calls Tryz.prog 72 #[.slice sp n cap] w fun e w' => e = .returned (.agg (sha L)) ∧ Below w.heap.size w w' := by
  obtain ⟨M, hM0⟩ : ∃ M, M = n / 64 + lastQ (n % 64) := ⟨_, rfl⟩
  have hM : Hid (n + 1 + nulls n + 8 = 64 * M) := by show _ = _; rw [hM0]; exact pad_blocks n
  have hMb : 64 * M ≤ 140737488355072 := by have := hM.out; have := nulls_le n; omega
  have hMI : 64 * (M : Int) ≤ 140737488355072 := by omega
  have hfin : Hid (absorbN kOf (bat (padL L)) h0St M = shaSt (bat L) (n / 64) (n % 64)) := by show _ = _; rw [hM0, hn]; exact absorb_pad L
  have HN := Hid.mk' hn
  clear hn hM0
  go_enter Tryz.func72, Tryz.ntmps72
  go_upto_region 3 with (first
    | (refine wpList_store_new (w.alloc _) _ 186 (by rfl) 186 (.tmp 3) (.tmp 8) (by rfl) h0St.cells (by rfl) (by rfl) (s48 _) (by rfl) (St.one _) ?_)
    | (go_at_call 102; go_must (refine (padded_blocks sp n cap M L _ HN hM hnil (Sl.alloc (Sl.alloc hS _) _) hb).mono ?_; rintro e w3 ⟨g, c, rfl, hc3, hgg, hBy, hb3⟩)))
  have hA3 : Arr w3 (w.heap.size + 1) 186 h0St.cells := (show Arr ((w.alloc _).alloc (.cells h0St.cells 186)) (w.heap.size + 1) 186 h0St.cells from by simpa using Arr.new (w.alloc _) 186 h0St.cells).below hb3 (by simp)
  have hZ3 : ∃ Z : Array Value, Z.size = 32 ∧ Arr w3 w.heap.size 40 Z := ⟨_, by rfl, ((Arr.new w 40 _).alloc _).below hb3 (by simp; omega)⟩
  obtain ⟨Z, hZs, hZ3⟩ := hZ3
  have hB3 : Below w.heap.size w w3 := (((Below.refl _ _).alloc (Nat.le_refl _) _).alloc (by simp) _).trans (hb3.mono (by simp; omega))
  have hgg : w.heap.size + 2 ≤ g := by simpa using hgg
  clear hb3 hS
  generalize bat (padL L) = Bf at *
  go_wp2_with fail
  go_loopw [5] (fun i wr => ∃ j : Nat, j ≤ M ∧ i = .int .i64 (64 * (j : Int)) ∧ Arr wr (w.heap.size + 1) 186 (absorbN kOf Bf h0St j).cells ∧ Arr wr w.heap.size 40 Z ∧ Bytes wr g 0 (64 * M) Bf ∧ Below w.heap.size w wr)
    (fun i _ => 64 * M - (intOf i).toNat)
  case atStart => exact ⟨0, by omega, rfl, hA3, hZ3, hBy, hB3⟩
  case round =>
    clear hA3 hZ3 hBy hB3
    obtain ⟨j, hj, rfl, hA, hZ, hBy, hbl⟩ := hrel
    have h4 : (0 : Int) ≤ j := by omega
    by_cases hlt : j < M
    · have h5 : (j : Int) + 1 ≤ M := by omega
      have hcI : 64 * (M : Int) ≤ c := by omega
      have hcj : 64 * (j : Int) + 64 ≤ c := by omega
      have hl : 64 * j + 64 - 64 * j = 64 := by omega
      have hcond : 64 * (j : Int) < 64 * (M : Int) := by omega
      have i1 : IntKind.i64.wrap (64 * (j : Int) + 64) = 64 * (j : Int) + 64 := by simp [IntKind.wrap, IntKind.bits, IntKind.signed]; omega
      have p0 : 0 ≤ 64 * (j : Int) := by omega
      have p1 : 0 ≤ 64 * (j : Int) + 64 := by omega
      have p2 : 64 * (j : Int) ≤ 64 * (j : Int) + 64 := by omega
      have p3 : 64 * (j : Int) < c := by omega
      have p4 : 64 * j < c := by omega
      have p5 : ¬ c = 64 * j := by omega
      have t0 : (64 * (j : Int)).toNat = 64 * j := by omega
      have t1 : (64 * (j : Int) + 64).toNat = 64 * j + 64 := by omega
      have hB' : Bytes wr.drew g (64 * j) 64 (fun t => Bf (64 * j + t)) := fun t ht => by
        have := hBy (64 * j + t) (by omega)
        rw [Nat.zero_add] at this; exact this
      obtain ⟨sj, hsj⟩ : ∃ sj, sj = absorbN kOf Bf h0St j := ⟨_, rfl⟩
      obtain ⟨sn, hsn⟩ : ∃ sn, sn = absorbN kOf Bf h0St (j + 1) := ⟨_, rfl⟩
      have hcall : ∀ (u : World) (cap : Nat), Bytes u g (64 * j) 64 (fun t => Bf (64 * j + t)) → Calls Tryz.prog 103 #[.agg sj.cells, .slice (some ⟨g, 64 * j, none⟩) 64 cap] u fun e w' => e = .returned (.agg sn.cells) ∧ Below u.heap.size u w' := fun u cap h => by
        have := refBlock_any sj g (64 * j) cap (fun t => Bf (64 * j + t)) u h
        rw [hsn, absorbN, ← hsj]; exact this
      have Hsn := Hid.mk' hsn
      rw [← hsj] at hA
      clear hsj hsn
      go_upto_region 6 with fail
      obtain ⟨c0, c1, c2, c3, c4, c5, c6, c7⟩ := hA.cells8
      go_region_with (first
        | (go_at_call 103; go_must (refine (hcall wr.drew _ hB').mono ?_; rintro e w4 ⟨rfl, hb4⟩; have hA5 := hA.drew.below hb4 hA.lt; have hst := hA5.store8 sn)))
      all_goals
        clear c0 c1 c2 c3 c4 c5 c6 c7 hst
        go_wp2_with fail
        go_roundw
        case rel => exact ⟨j + 1, by omega, by go_num, by rw [← Hsn.out]; exact hA5.setRow _, (hZ.drew.below hb4 hZ.lt).setRowOther _ (by omega), Bytes.setRowOther (Bytes.below (w := wr.drew) hBy hb4) _ (by omega), below_setRow (hbl.drew.trans (hb4.mono hbl.size)) (by omega) _⟩
        case measure => simp [intOf]; omega
    · obtain rfl : j = M := by omega
      clear hBy
      rw [hfin.out] at hA
      obtain ⟨S, hS⟩ : ∃ S, S = shaSt (bat L) (n / 64) (n % 64) := ⟨_, rfl⟩
      rw [← hS] at hA
      have hsha : Hid (u8s 32 (outB S) = sha L) := by show _ = _; rw [hS, HN.out]; rfl
      clear hS
      obtain ⟨wo, rfl⟩ : ∃ wo : World, wo = wr := ⟨_, rfl⟩
      go_wp2_with fail
      have hs1 : w.heap.size + 1 < wo.heap.size := hA.lt
      go_loopw [7] (fun i wr => ∃ (k : Nat) (C : Array Value), k ≤ 32 ∧ i = .int .i64 k ∧ Arr wr (w.heap.size + 1) 186 S.cells ∧ Arr wr w.heap.size 40 Z ∧ Arr wr wo.heap.size 40 C ∧ C.size = 32 ∧ (∀ t, t < k → C[t]? = some (.int .u8 (outB S t))) ∧ Below w.heap.size w wr)
        (fun i _ => 32 - (intOf i).toNat)
      case atStart => exact ⟨0, _, by omega, rfl, hA.alloc _, hZ.alloc _, Arr.new _ _ _, rfl, fun t h => by omega, hbl.alloc hbl.size _⟩
      case round =>
        clear hA hZ hbl
        generalize wo.heap.size = g6 at *
        obtain ⟨k, C, hk, rfl, hA, hZ, hC, hCs, hw, hbl⟩ := hrel
        have HW := Hid.mk' hw
        clear hw
        by_cases hlt : k < 32
        · have h3 : (k : Int) < 32 := by omega
          have h4 : (0 : Int) ≤ k := by omega
          have c0 : wr.cell? ⟨w.heap.size + 1, k / 4, none⟩ = some (.int .u32 (S.at (k / 4))) := (hA.cell _).trans (St.get S (by omega))
          obtain ⟨v1, c1⟩ := hC.got (j := k) (by omega)
          have f0 := hC.frozen k
          go_wp2
          go_roundw
          case rel =>
            have q := set_step (f := fun t => .int .u8 (outB S t)) hCs (by omega) HW.out
            exact ⟨k + 1, _, by omega, by go_num, hA.setOther _ (by simp; omega), hZ.setOther _ (by simp; omega), hC.set _ _, by simp [hCs], q, hbl.setCell (by simp; omega) _⟩
          case measure => simp [intOf]; omega
        · obtain rfl : k = 32 := by omega
          have hCe : C = u8s 32 (outB S) := arr_eq hCs HW.out
          rw [hsha.out] at hCe
          subst hCe
          go_wp2_with (first
            | (refine wpList_load_row (by rfl) 40 (.tmp 6) (by rfl) g6 (by rfl) 40 (sha L) (0, 0) _ hC Tryz.underlying40 rfl (s24sha _) ?_)
            | (refine wpList_store_arr (by rfl) 40 (.tmp 2) (.tmp 41) (by rfl) w.heap.size (sha L) (by rfl) (by rfl) 40 _ hZ (s24sha _) (by rw [hZs]; exact (sha_size _).symm) (sha_one _) ?_))
          exact bodyPost_ret (v := .agg (sha L)) (results_cell_row Tryz.results72 _ _ w.heap.size 40 _ (0, 0) _ rfl (hZ.setRow _) Tryz.underlying40 rfl (s24sha _)) rfl ⟨rfl, below_setRow hbl (Nat.le_refl _) _⟩
end Go.Proofs.YtneihkegipcakaaGreat
/- Layer trace: what the layers below give. -/
namespace Go.Proofs.YtneihkegipcakaaGreat
open Go.RowKit Go.Shelf
set_option maxRecDepth 100000
set_option linter.unusedVariables false
set_option linter.unusedSimpArgs false
attribute [local go_sem] Oper.semAt_some

/-- fill's variables, when k levels are done. -/
structure FI (l : List (List Int)) (g d n : Nat) (w : World) (k : Nat) (W : World) : Prop where
  bel : Below w.heap.size w W
  a0 : Arr W w.heap.size 233 #[.pointer (some ⟨g, 0, none⟩)]
  a1 : Arr W (w.heap.size + 1) 3 #[.int .i64 n]
  a2 : Arr W (w.heap.size + 1 + 1) 40 (h8 Z32)
  a3 : Arr W (w.heap.size + 1 + 1 + 1) 40 (h8 (tr k (l.drop ((n / 2 ^ k) * 2 ^ k))))
  a4 : Arr W (w.heap.size + 1 + 1 + 1 + 1) 3 #[.int .i64 d]
theorem FI.below {l : List (List Int)} {g d n : Nat} {w : World} {k : Nat} {W W' : World} (h : FI l g d n w k W) (hb : Below (w.heap.size + 5) W W') : FI l g d n w k W' :=
  ⟨h.bel.trans (hb.mono (by omega)), h.a0.below hb (by omega), h.a1.below hb (by omega), h.a2.below hb (by omega), h.a3.below hb (by omega), h.a4.below hb (by omega)⟩
set_option maxRecDepth 100000 in
set_option maxHeartbeats 1000000 in
theorem fill_any (l : List (List Int)) (W : Nat → List Int) (g d n : Nat) (w : World) (hl32 : ∀ x ∈ l, x.length = 32) (hd : d ≤ 16) (hL : LV w g W) (hn : n = l.length) (hW : Wt l n W) (hlt : n < 2 ^ d) :
    Calls Tryz.prog 158 #[.pointer (some ⟨g, 0, none⟩), .int .i64 d, .int .i64 n] w fun e w' => e = .returned (.agg (h8 (tr d l))) ∧ Below w.heap.size w w' := by
  have hn63 : n ≤ 9223372036854775807 := by have := pow16 hd; omega
  replace hn := Hid.mk' hn
  replace hW := Hid.mk' hW
  replace hlt := Hid.mk' hlt
  have hgl := hL.lt
  have htl : ∀ k, (tr k (l.drop ((n / 2 ^ k) * 2 ^ k))).length = 32 := fun k => tr_len k _ (fun x hx => hl32 x (List.mem_of_mem_drop hx))
  refine (callsIn_wide (n := 3)).1 ?_
  refine callsIn_of_wp_marks Tryz.func158 rfl trivial ?_ rfl
  simp only [Tryz.ntmps158, List.size_toArray, List.length_cons, List.length_nil, Nat.reduceAdd, Nat.reduceSub, Array.replicate_succ, Array.replicate_zero, List.push_toArray, List.append_toArray, List.nil_append, List.cons_append]
  gi_wp2_with (refine ⟨trivial, ?_⟩; gi_at_call 163; go_must (refine (callsIn_wide.2 (empties_any d _)).mono ?_; rintro e w1 ⟨rfl, rfl⟩))
  rw [← h8_Z]
  have hI0 : FI l g d n w 0 (((((w.alloc (.cells #[.pointer (some ⟨g, 0, none⟩)] 233)).alloc (.cells #[.int .i64 n] 3)).alloc (.cells (h8 Z32) 40)).alloc (.cells (h8 Z32) 40)).alloc (.cells #[.int .i64 d] 3)) := by
    refine ⟨((((alloc_bel' w _).alloc (by simp) _).alloc (by simp; omega) _).alloc (by simp; omega) _).alloc (by simp; omega) _, ((((Arr.new w 233 _).alloc _).alloc _).alloc _).alloc _, ?_, ?_, ?_, ?_⟩
    · have h := Arr.new (w.alloc (.cells #[.pointer (some ⟨g, 0, none⟩)] 233)) 3 #[.int .i64 n]
      simp only [World.size_alloc] at h
      exact ((h.alloc _).alloc _).alloc _
    · have h := Arr.new ((w.alloc (.cells #[.pointer (some ⟨g, 0, none⟩)] 233)).alloc (.cells #[.int .i64 n] 3)) 40 (h8 Z32)
      simp only [World.size_alloc] at h
      exact (h.alloc _).alloc _
    · have h := Arr.new (((w.alloc (.cells #[.pointer (some ⟨g, 0, none⟩)] 233)).alloc (.cells #[.int .i64 n] 3)).alloc (.cells (h8 Z32) 40)) 40 (h8 Z32)
      simp only [World.size_alloc] at h
      have e : tr 0 (l.drop ((n / 2 ^ 0) * 2 ^ 0)) = Z32 := by rw [hn.out]; exact (fill_start l).symm
      rw [e]
      exact h.alloc _
    · have h := Arr.new ((((w.alloc (.cells #[.pointer (some ⟨g, 0, none⟩)] 233)).alloc (.cells #[.int .i64 n] 3)).alloc (.cells (h8 Z32) 40)).alloc (.cells (h8 Z32) 40)) 3 #[.int .i64 d]
      simp only [World.size_alloc] at h
      exact h
  refine range_emp (w.heap.size + 1 + 1 + 1 + 1) d (w.heap.size + 5) (by simp) (by omega) rfl (by omega) (FI l g d n w) (fun j W W' h hb => h.below hb) (fun j W h => by simpa using h.a4.cell 0) hI0 ?round ?done
  case round =>
    intro j V hI hj hsz m
    clear hI0
    have hl := tr_len j [] (fun x h => by cases h)
    gi_wp2_with (refine si24n (by rfl) _ _ (by rfl) V V.heap.size rfl (by rfl) (tr j []) (by rfl) (by rfl) hl ?_)
    refine ⟨alloc_bel' V _, fun w2 hb2 hk2 hs2 => ?_⟩
    have E2 : Arr w2 V.heap.size 40 (h8 (tr j [])) := (hk2 _ (by omega)).trans (Arr.new V 40 (h8 (tr j [])))
    have hbV : Below (w.heap.size + 5) V w2 := (alloc_bel' V _).mono (by omega) |>.trans (hb2.mono (by omega))
    have hI2 := hI.below hbV
    simp only [World.size_alloc] at hs2
    obtain ⟨hbel, T0, T1, T2, T3, T4⟩ := hI2
    have c0 := T0.cell 0
    have c1 := T1.cell 0
    simp at c0 c1
    have hr32 := htl j
    obtain ⟨r, hre⟩ : ∃ r, r = tr j (l.drop ((n / 2 ^ j) * 2 ^ j)) := ⟨_, rfl⟩
    rw [← hre] at T3 hr32
    have hjI : (j : Int) < 17 := by omega
    have hRk := range_below (hL.rg j (by omega)) hbel hgl
    have hsec := isSecond_any n j hn63 (by omega)
    have fin : Hid (∀ (v : List Int) (w3 : World), Below w2.heap.size w2 w3 → Arr w3 (w.heap.size + 1 + 1 + 1) 40 (h8 r) → v = tr (j + 1) (l.drop ((n / 2 ^ (j + 1)) * 2 ^ (j + 1))) → FI l g d n w (j + 1) (w3.setRow (w.heap.size + 1 + 1 + 1) (h8 v)) ∧ w2.heap.size ≤ (w3.setRow (w.heap.size + 1 + 1 + 1) (h8 v)).heap.size ∧ ∀ b, w.heap.size + 5 ≤ b → b < w2.heap.size → (w3.setRow (w.heap.size + 1 + 1 + 1) (h8 v)).heap[b]? = w2.heap[b]?) := Hid.mk' (by
      intro v w3 hb3 S3 hv
      have h3 := hb3.size
      refine ⟨⟨below_setRow (hbel.trans (hb3.mono (by omega))) (by omega) _, (T0.below hb3 (by omega)).setRowOther _ (by omega), (T1.below hb3 (by omega)).setRowOther _ (by omega), (T2.below hb3 (by omega)).setRowOther _ (by omega), by rw [← hv]; exact S3.setRow _, (T4.below hb3 (by omega)).setRowOther _ (by omega)⟩, by simp; omega, fun b h1 h2 => ?_⟩
      rw [setRow_other _ _ _ _ (by omega), hb3.block b h2])
    cases hd0 : decide (n / 2 ^ j % 2 = 1) with
    | true =>
      rw [hd0] at hsec
      have hd1 := Hid.mk' (of_decide_eq_true hd0)
      replace hre := Hid.mk' hre
      gi_wp2_with (first
        | (refine ⟨trivial, fun h => (by cases h), ?_⟩; gi_at_call 162; go_must (refine (callsIn_round (hsec _)).mono ?_; rintro e w2 ⟨rfl, rfl⟩)))
      refine region_round (S := fun u => Arr u w.heap.size 233 #[.pointer (some ⟨g, 0, none⟩)]) (by kernel_rfl) (by kernel_rfl) T0.drew (fun hHeld => ?_)
      refine wpAnyH_take (i := 0) (oi := ⟨_, _, _, _, _, _⟩) (v := ?_) rfl (by kernel_rfl) (by kernel_rfl) (by kernel_rfl) (fun _ _ _ h => h) (Or.inl ⟨by rfl, ?_⟩) (by assumption) ?_
      rotate_left
      · intro u hSw
        have cu := hSw.cell 0
        simp at cu
        go_simp
        try (with_reducible rfl)
      try simp only [Act.put, List.setIfInBounds_toArray, List.set_cons_zero, List.set_cons_succ]
      refine wpAnyH_take (i := 1) (oi := ⟨_, _, _, _, _, _⟩) (v := ?_) rfl (by kernel_rfl) (by kernel_rfl) (by kernel_rfl) (fun _ _ _ h => h) (Or.inl ⟨by rfl, ?_⟩) (by assumption) ?_
      rotate_left
      · intro u hSw
        have cu := hSw.cell 0
        simp at cu
        go_simp
        try (with_reducible rfl)
      try simp only [Act.put, List.setIfInBounds_toArray, List.set_cons_zero, List.set_cons_succ]
      refine wpAnyH_take (i := 2) (oi := ⟨_, _, _, _, _, _⟩) (v := ?_) rfl (by kernel_rfl) (by kernel_rfl) (by kernel_rfl) (fun _ _ _ h => h) (Or.inl ⟨by rfl, ?_⟩) (by assumption) ?_
      rotate_left
      · intro u hSw
        have cu := hSw.cell 0
        simp at cu
        go_simp
        try (with_reducible rfl)
      try simp only [Act.put, List.setIfInBounds_toArray, List.set_cons_zero, List.set_cons_succ]
      refine wpAnyH_take (i := 3) (oi := ⟨_, _, _, _, _, _⟩) (v := ?_) rfl (by kernel_rfl) (by kernel_rfl) (by kernel_rfl) (fun _ _ _ h => h) (Or.inl ⟨by rfl, ?_⟩) (by assumption) ?_
      rotate_left
      · intro u hSw
        have cu := hSw.cell 0
        simp at cu
        go_simp
        try (with_reducible rfl)
      try simp only [Act.put, List.setIfInBounds_toArray, List.set_cons_zero, List.set_cons_succ]
      refine wpAnyH_ready (rs := [4, 5]) (by kernel_rfl) (by simp) ?_
      refine AllReadyH.cons (o := ⟨_, _, _, _, _, _⟩) rfl (fun K hK => ?_) (AllReadyH.cons (o := ⟨_, _, _, _, _, _⟩) rfl (fun K hK => ?_) AllReadyH.nil)
      · refine step_want rfl (wp_load_mid 40 (.tmp 20) rfl g (j * 32) rfl (by8 (W j)) _ ((World.rangeAt_drew _ _ _ _).2 hRk) Tryz.underlying40 rfl (by rw [by8_len, hL.l32 j]; exact size24) ?_)
        refine hK.out _ _ T0.drew (fun hHeld => ?_)
        clear hK K
        try simp only [Act.put, List.setIfInBounds_toArray, List.set_cons_zero, List.set_cons_succ]
        refine wpAnyH_ready (rs := [5]) (by kernel_rfl) (by simp) ?_
        refine AllReadyH.cons (o := ⟨_, _, _, _, _, _⟩) rfl (fun K hK => ?_) AllReadyH.nil
        refine step_want rfl (wp_load_mid 40 (.tmp 7) rfl (w.heap.size + 1 + 1 + 1) 0 rfl (by8 r) _ T3.drew.range Tryz.underlying40 rfl (by rw [by8_len, hr32]; exact size24) ?_)
        refine hK.out _ _ T0.drew (fun hHeld => ?_)
        clear hK K
        try simp only [Act.put, List.setIfInBounds_toArray, List.set_cons_zero, List.set_cons_succ]
        refine wpAnyH_ready (rs := [6]) (by kernel_rfl) (by simp) ?_
        refine AllReadyH.cons (o := ⟨_, _, _, _, _, _⟩) rfl (fun K hK => ?_) AllReadyH.nil
        go_simp
        refine (pair_h (W j) r _ (hL.l32 j) hr32).mono ?_; rintro e w3 ⟨rfl, hb3⟩; have hs3 := hb3.size; simp at hs3; have S3 := T3.drew.below hb3 (by simp <;> omega)
        go_wp2_with fail
        refine hK.out _ _ (T0.drew.below hb3 (by simp <;> omega)) (fun hHeld => ?_)
        clear hK K
        try simp only [Act.put, List.setIfInBounds_toArray, List.set_cons_zero, List.set_cons_succ]
        refine wpAnyH_ready (rs := [7]) (by kernel_rfl) (by simp) ?_
        refine AllReadyH.cons (o := ⟨_, _, _, _, _, _⟩) rfl (fun K hK => ?_) AllReadyH.nil
        refine step_want rfl (wp_store_row 40 (.tmp 7) (.tmp 23) rfl (w.heap.size + 1 + 1 + 1) (h8 (pr (W j) r)) rfl rfl 40 _ S3 (s24h8 (pr_len _ _)) (by rw [h8_size, h8_size, hr32, pr_len]) (h8_one _) ?_)
        refine hK.out _ _ ((T0.drew.below hb3 (by simp <;> omega)).setRowOther _ (by omega)) (fun hHeld => ?_)
        clear hK K
        try simp only [Act.put, List.setIfInBounds_toArray, List.set_cons_zero, List.set_cons_succ]
        refine wpAnyH_done (by kernel_rfl) ?_ _
        exact fin.out (pr (W j) r) _ ((Below.refl w2.heap.size w2).drew.trans (hb3.mono (by simp))) S3 (wt_up hW.out hd1.out hre.out)
      · refine step_want rfl (wp_load_mid 40 (.tmp 7) rfl (w.heap.size + 1 + 1 + 1) 0 rfl (by8 r) _ T3.drew.range Tryz.underlying40 rfl (by rw [by8_len, hr32]; exact size24) ?_)
        refine hK.out _ _ T0.drew (fun hHeld => ?_)
        clear hK K
        try simp only [Act.put, List.setIfInBounds_toArray, List.set_cons_zero, List.set_cons_succ]
        refine wpAnyH_ready (rs := [4]) (by kernel_rfl) (by simp) ?_
        refine AllReadyH.cons (o := ⟨_, _, _, _, _, _⟩) rfl (fun K hK => ?_) AllReadyH.nil
        refine step_want rfl (wp_load_mid 40 (.tmp 20) rfl g (j * 32) rfl (by8 (W j)) _ ((World.rangeAt_drew _ _ _ _).2 hRk) Tryz.underlying40 rfl (by rw [by8_len, hL.l32 j]; exact size24) ?_)
        refine hK.out _ _ T0.drew (fun hHeld => ?_)
        clear hK K
        try simp only [Act.put, List.setIfInBounds_toArray, List.set_cons_zero, List.set_cons_succ]
        refine wpAnyH_ready (rs := [6]) (by kernel_rfl) (by simp) ?_
        refine AllReadyH.cons (o := ⟨_, _, _, _, _, _⟩) rfl (fun K hK => ?_) AllReadyH.nil
        go_simp
        refine (pair_h (W j) r _ (hL.l32 j) hr32).mono ?_; rintro e w3 ⟨rfl, hb3⟩; have hs3 := hb3.size; simp at hs3; have S3 := T3.drew.below hb3 (by simp <;> omega)
        go_wp2_with fail
        refine hK.out _ _ (T0.drew.below hb3 (by simp <;> omega)) (fun hHeld => ?_)
        clear hK K
        try simp only [Act.put, List.setIfInBounds_toArray, List.set_cons_zero, List.set_cons_succ]
        refine wpAnyH_ready (rs := [7]) (by kernel_rfl) (by simp) ?_
        refine AllReadyH.cons (o := ⟨_, _, _, _, _, _⟩) rfl (fun K hK => ?_) AllReadyH.nil
        refine step_want rfl (wp_store_row 40 (.tmp 7) (.tmp 23) rfl (w.heap.size + 1 + 1 + 1) (h8 (pr (W j) r)) rfl rfl 40 _ S3 (s24h8 (pr_len _ _)) (by rw [h8_size, h8_size, hr32, pr_len]) (h8_one _) ?_)
        refine hK.out _ _ ((T0.drew.below hb3 (by simp <;> omega)).setRowOther _ (by omega)) (fun hHeld => ?_)
        clear hK K
        try simp only [Act.put, List.setIfInBounds_toArray, List.set_cons_zero, List.set_cons_succ]
        refine wpAnyH_done (by kernel_rfl) ?_ _
        exact fin.out (pr (W j) r) _ ((Below.refl w2.heap.size w2).drew.trans (hb3.mono (by simp))) S3 (wt_up hW.out hd1.out hre.out)
    | false =>
      rw [hd0] at hsec
      have hd1 : Hid (n / 2 ^ j % 2 = 0) := Hid.mk' (by have := of_decide_eq_false hd0; omega)
      replace hre := Hid.mk' hre
      gi_wp2_with (first
        | (refine ⟨trivial, fun h => (by cases h), ?_⟩; gi_at_call 162; go_must (refine (callsIn_round (hsec _)).mono ?_; rintro e w2 ⟨rfl, rfl⟩))
        | (refine li24 (by rfl) _ (by rfl) (w.heap.size + 1 + 1 + 1) 0 (by rfl) r hr32 T3.range ?_)
        | (refine li24 (by rfl) _ (by rfl) V.heap.size 0 (by rfl) (tr j []) hl E2.range ?_)
        | (refine ⟨trivial, fun h => (by cases h), ?_⟩; gi_at_call 147; go_must (refine (callsIn_round (pair_h r (tr j []) _ hr32 hl)).mono ?_; rintro e w3 ⟨rfl, hb3⟩; have S3 := T3.below hb3 (by omega)))
        | (refine si24 (by rfl) _ _ (by rfl) (w.heap.size + 1 + 1 + 1) (pr r (tr j [])) r (by rfl) (by rfl) (pr_len _ _) hr32 S3 ?_))
      refine fin.out _ w3 hb3 S3 ?_
      rw [hre.out, hn.out]
      rw [hn.out] at hd1
      exact wt_fill0 hd1.out rfl
  case done =>
    intro V o hI hsz hdf
    obtain ⟨hbel, T0, T1, T2, T3, T4⟩ := hI.below (below_put (r := w.heap.size + 5 + 1) (Below.refl (w.heap.size + 5) V) (by omega) o)
    have hr32 := htl d
    have hend := (wt_end (l := l) (by rw [← hn.out]; exact hlt.out) rfl).symm
    rw [← hn.out] at hend
    rw [← hend] at T3 hr32
    have hdf' : (V.putObj (w.heap.size + 5 + 1) o).heap[w.heap.size + 5]? = some (.deferred (some [])) := (World.putObj_heap_other (by omega)).trans hdf
    generalize V.putObj (w.heap.size + 5 + 1) o = V2 at *
    obtain ⟨r, hre⟩ : ∃ r, r = tr d l := ⟨_, rfl⟩
    rw [← hre] at T3 hr32
    replace hre := Hid.mk' hre
    gi_wp2_with (first
      | (refine li24w (by rfl) _ (by rfl) (w.heap.size + 1 + 1 + 1) 0 (by rfl) r hr32 T3.range ?_)
      | (refine si24w (by rfl) _ _ (by rfl) (w.heap.size + 1 + 1) r Z32 (by rfl) (by rfl) hr32 Z32_len T2 ?_))
    have U2 := T2.setRow (h8 r)
    have hK : (V2.setRow (w.heap.size + 1 + 1) (h8 r)).heap[w.heap.size + 5]? = some (.deferred (some [])) := (setRow_other _ _ _ _ (by omega)).trans hdf'
    refine ⟨by simp, .inl ⟨_, _, rfl, run_takeDeferred hK, ?_⟩⟩
    exact ⟨_, res24 Tryz.results158 rfl hr32 (U2.put _ (by omega)), by rw [hre.out], below_put (below_setRow hbel (by omega) _) (by omega) _⟩
end Go.Proofs.YtneihkegipcakaaGreat
/- Layer trace: what the layers below give. -/
namespace Go.Proofs.YtneihkegipcakaaGreat
open Go.RowKit
set_option maxRecDepth 100000
set_option linter.unusedVariables false
set_option linter.unusedSimpArgs false

theorem own_same {w w' : World} {base n e s : Nat} {v : Value} {xs : List Value} (h : w.ownsRow base e s v n xs) (hk : ∀ k, v.ownBlock = some k → w'.heap[k]? = w.heap[k]?) : w'.ownsRow base e s v n xs := by
  refine ⟨h.1, ?_⟩
  rcases h.2 with hn | ⟨g, cap, cur, rfl, hb0, hgg, rest⟩
  · exact .inl hn
  · exact .inr ⟨g, cap, cur, rfl, hb0, by rw [hk g rfl]; exact hgg, rest⟩
theorem own_lt {w : World} {base e s n b : Nat} {v : Value} {xs : List Value} (h : w.ownsRow base e s v n xs) (hb : v.ownBlock = some b) : b < w.heap.size := by
  rcases h.2 with ⟨rfl, -⟩ | ⟨g, cap, cur, rfl, -, hgg, -⟩
  · simp [Value.ownBlock] at hb
  · simp [Value.ownBlock] at hb; subst hb; exact (Array.getElem?_eq_some_iff.1 hgg).1
end Go.Proofs.YtneihkegipcakaaGreat
/- Layer trace: what the layers below give. -/
namespace Go.Proofs.YtneihkegipcakaaGreat
open Go.ChangeAt Go.ChangeShapes Go.RowKit Go.WideShapes
set_option maxRecDepth 100000
set_option linter.unusedVariables false
set_option linter.unusedSimpArgs false

theorem own : ownKnob Tryz.prog.godebug = none := by kernel_rfl
theorem laidOut : laidOutB Tryz.prog = true := by kernel_rfl
end Go.Proofs.YtneihkegipcakaaGreat
/- Layer trace: what the layers below give. -/
namespace Go.Proofs.YtneihkegipcakaaGreat
open Go.RowKit Go.Shelf
set_option maxRecDepth 100000
set_option linter.unusedVariables false
set_option linter.unusedSimpArgs false
attribute [local go_sem] Oper.semAt_some

theorem info24 : (Tryz.prog.info? 40).map (fun i => (i.zero, i.size, i.bytes)) = some (some (.agg (h8 Z32)), 32, 32) := by kernel_rfl
/-- Sums one behind the other. -/
def flat32 (ls : List (List Int)) : List Value := (ls.map by8).flatten
theorem flat32_app (ls : List (List Int)) (X : List Int) : flat32 (ls ++ [X]) = flat32 ls ++ by8 X := by simp [flat32]
theorem wp_bld1 {o : Oper} {a : Act} {w : World} {K : Act → World → Prop} {Q : Exit → Act → World → Prop} (x : Operand) (ho : o.op = .buildSlice 95 1 #[(0, x)]) (X : List Int) (hx : a.eval x = .agg (h8 X)) (hX : X.length = 32)
    (h : K (a.put o.dst (.slice (some ⟨w.heap.size, 0, none⟩) 1 1)) (w.alloc (.cells (h8 X) 40))) : o.wp Tryz.prog a w K Q := by
  obtain ⟨i0, hi0, hz0, hz1, hz2⟩ := info_parts info24
  refine wp_buildSlice 95 40 1 _ ho (h8 X) i0 (.agg (h8 Z32)) Tryz.underlying95 hi0 hz0 (by rw [hz1]; omega) (by rw [hz1]; omega) ?_ h
  have e : (#[(0, x)].map fun (p : Nat × Operand) => (p.1, a.eval p.2)).toList = ([Value.agg (h8 X)].zipIdx 0).map fun x => (x.2, x.1) := by simp [hx]
  rw [hz1]
  refine Eq.trans (congrArg _ e) ?_
  rw [Great.fill_whole (s := 32) (by omega) [.agg (h8 X)] _ (fun v hv => by simp only [List.mem_singleton] at hv; rw [hv]; show (h8 X).size = 32; rw [h8_size, hX]) (by simp)]
  simp [Value.cells, h8]
/-- Proof's variables, when k levels are done. -/
structure PI (i d n cap : Nat) (sp : Option Addr) (ls : List (List Int)) (B : Nat) (w : World) (k : Nat) (W : World) : Prop where
  bel : Below w.heap.size w W
  a0 : Arr W w.heap.size 95 #[.slice sp n cap]
  a1 : Arr W (w.heap.size + 1) 3 #[.int .i64 i]
  own : W.ownsRow (w.heap.size + 2) 40 32 (.slice (some ⟨w.heap.size + 1 + 1, 0, none⟩) k d) k (flat32 (pf k ls i))
  a2 : Arr W B 95 #[.slice (some ⟨w.heap.size + 1 + 1, 0, none⟩) k d]
  a3 : Arr W (B + 1) 3 #[.int .i64 d]
theorem PI.below {i d n cap : Nat} {sp : Option Addr} {ls : List (List Int)} {B : Nat} {w : World} {k : Nat} {W W' : World} (h : PI i d n cap sp ls B w k W) (hB : w.heap.size + 3 ≤ B) (hb : Below (B + 2) W W') : PI i d n cap sp ls B w k W' :=
  ⟨h.bel.trans (hb.mono (by omega)), h.a0.below hb (by omega), h.a1.below hb (by omega), own_same h.own (fun k hk => hb.block k (by simp [Value.ownBlock] at hk; omega)), h.a2.below hb (by omega), h.a3.below hb (by omega)⟩
end Go.Proofs.YtneihkegipcakaaGreat
/- Layer trace: what the layers below give. -/
namespace Go.Proofs.YtneihkegipcakaaGreat
open Go.RowKit
set_option maxRecDepth 100000
set_option linter.unusedVariables false
set_option linter.unusedSimpArgs false

/-- Nothing that was there has changed but some blocks. -/
structure Chg (S : Nat → Prop) (w w' : World) : Prop where
  os : w'.os = w.os
  tape : w'.tape = w.tape
  output : w'.output = w.output
  size : w.heap.size ≤ w'.heap.size
  block : ∀ b, b < w.heap.size → ¬ S b → w'.heap[b]? = w.heap[b]?
theorem Chg.refl (S : Nat → Prop) (w : World) : Chg S w w := ⟨rfl, rfl, rfl, Nat.le_refl _, fun _ _ _ => rfl⟩
theorem Chg.trans {S : Nat → Prop} {a b c : World} (h : Chg S a b) (k : Chg S b c) : Chg S a c :=
  ⟨k.os.trans h.os, k.tape.trans h.tape, k.output.trans h.output, Nat.le_trans h.size k.size, fun i hi hs => (k.block i (Nat.lt_of_lt_of_le hi h.size) hs).trans (h.block i hi hs)⟩
theorem Chg.mono {S T : Nat → Prop} {a b : World} (h : Chg S a b) (hST : ∀ i, i < a.heap.size → S i → T i) : Chg T a b :=
  ⟨h.os, h.tape, h.output, h.size, fun i hi ht => h.block i hi fun hs => ht (hST i hi hs)⟩
theorem Chg.of_below {S : Nat → Prop} {a b : World} (h : Below a.heap.size a b) : Chg S a b := ⟨h.os, h.tape, h.output, h.size, fun i hi _ => h.block i hi⟩
theorem Chg.below {S : Nat → Prop} {a b : World} {N : Nat} (h : Chg S a b) (hN : ∀ i, i < N → i < a.heap.size ∧ ¬ S i) : Below N a b := ⟨h.os, h.tape, h.output, h.size, fun i hi => h.block i (hN i hi).1 (hN i hi).2⟩
theorem Chg.alloc {S : Nat → Prop} {a b : World} (h : Chg S a b) (o : Obj) : Chg S a (b.alloc o) :=
  h.trans (Chg.of_below (alloc_bel' b o))
theorem Chg.grown {S : Nat → Prop} {a b c : World} {row : Option Nat} (h : Chg S a b) (hg : b.grownBy c row) (hr : ∀ k, k < a.heap.size → row = some k → S k) : Chg S a c :=
  ⟨hg.os.trans h.os, hg.tape.trans h.tape, hg.output.trans h.output, Nat.le_trans h.size hg.size, fun i hi hs => (hg.block i (Nat.lt_of_lt_of_le hi h.size) (fun e => hs (hr i hi e.symm))).trans (h.block i hi hs)⟩
end Go.Proofs.YtneihkegipcakaaGreat
/- Layer trace: what the layers below give. -/
namespace Go.Proofs.YtneihkegipcakaaGreat
open Go.RowKit
set_option maxRecDepth 100000
set_option linter.unusedVariables false
set_option linter.unusedSimpArgs false

/-- Is it a number of 64 bits? -/
def U64 (x : Int) : Prop := 0 ≤ x ∧ x < 18446744073709551616
theorem U64.wrap (x : Int) : U64 (IntKind.u64.wrap x) := by
  simp only [IntKind.wrap, IntKind.bits, IntKind.signed]
  unfold U64
  simp
  omega
end Go.Proofs.YtneihkegipcakaaGreat
/- Layer trace: what the layers below give. -/
namespace Go.Proofs.YtneihkegipcakaaGreat
open Go.RowKit
set_option maxRecDepth 100000
set_option linter.unusedVariables false
set_option linter.unusedSimpArgs false

/-- A machine, as numbers. -/
structure Mc where
  pc : Int
  rg : List Int
  st : Int
  me : List Int
structure Mc.ok (m : Mc) : Prop where
  pc : U64 m.pc
  r16 : m.rg.length = 16
  rg : ∀ k, U64 (m.rg.getD k 0)
  st : 0 ≤ m.st ∧ m.st < 256
  me : ∀ k, U64 (m.me.getD k 0)
/-- Words as they lie. -/
def by64 (L : List Int) : List Value := L.map (Value.int .u64)
theorem by64_len (L : List Int) : (by64 L).length = L.length := by simp [by64]
theorem by64_get {L : List Int} {t : Nat} (h : t < L.length) : (by64 L)[t]? = some (.int .u64 (L.getD t 0)) := by
  simp [by64, List.getElem?_eq_getElem h, List.getD_eq_getElem?_getD]
def mcL (m : Mc) (v : Value) : List Value := .int .u64 m.pc :: (by64 m.rg ++ [.int .u8 m.st, v])
theorem mcL_len {m : Mc} (h : m.rg.length = 16) (v : Value) : (mcL m v).length = 19 := by simp [mcL, by64_len, h]
theorem mcL_reg {m : Mc} (h : m.rg.length = 16) (v : Value) (X : List Value) {a : Nat} (ha : a < 16) : (mcL m v ++ X)[1 + a]? = some (.int .u64 (m.rg.getD a 0)) := by
  rw [List.getElem?_append_left (by rw [mcL_len h]; omega), mcL, Nat.add_comm, List.getElem?_cons_succ, List.getElem?_append_left (by rw [by64_len, h]; exact ha)]
  exact by64_get (by rw [h]; exact ha)
theorem mcL_st {m : Mc} (h : m.rg.length = 16) (v : Value) (X : List Value) : (mcL m v ++ X)[17]? = some (.int .u8 m.st) := by
  rw [List.getElem?_append_left (by rw [mcL_len h]; omega), mcL, List.getElem?_cons_succ, List.getElem?_append_right (by rw [by64_len, h]; omega), by64_len, h]
  rfl
theorem mcL_me {m : Mc} (h : m.rg.length = 16) (v : Value) (X : List Value) : (mcL m v ++ X)[18]? = some v := by
  rw [List.getElem?_append_left (by rw [mcL_len h]; omega), mcL, List.getElem?_cons_succ, List.getElem?_append_right (by rw [by64_len, h]; omega), by64_len, h]
  rfl
/-- Words in block gm. -/
def MW (w : World) (gm : Nat) (L : List Int) : Prop := ∃ C : Array Value, Arr w gm 22 C ∧ ∀ t, t < L.length → C[t]? = some (.int .u64 (L.getD t 0))
theorem MW.cell {w : World} {gm : Nat} {L : List Int} (h : MW w gm L) {t : Nat} (ht : t < L.length) : w.cell? ⟨gm, t, none⟩ = some (.int .u64 (L.getD t 0)) := by
  obtain ⟨C, hA, hC⟩ := h
  rw [hA.cell]; exact hC t ht
theorem MW.lt {w : World} {gm : Nat} {L : List Int} (h : MW w gm L) : gm < w.heap.size := by
  obtain ⟨C, hA, hC⟩ := h
  exact hA.lt
theorem MW.below {w w' : World} {gm B : Nat} {L : List Int} (h : MW w gm L) (hb : Below B w w') (hg : gm < B) : MW w' gm L := by
  obtain ⟨C, hA, hC⟩ := h
  exact ⟨C, hA.below hb hg, hC⟩
end Go.Proofs.YtneihkegipcakaaGreat
/- Layer trace: what the layers below give. -/
namespace Go.Proofs.YtneihkegipcakaaGreat
open Go.RowKit
set_option maxRecDepth 100000
set_option linter.unusedVariables false
set_option linter.unusedSimpArgs false

/-- A register; a register set, and on. -/
def Mc.get (m : Mc) (a : Nat) : Int := m.rg.getD a 0
end Go.Proofs.YtneihkegipcakaaGreat
