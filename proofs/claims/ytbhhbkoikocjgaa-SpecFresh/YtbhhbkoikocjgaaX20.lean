/- Layer spec: what the layers below give. -/
import Derived.Test.YtbhhbkoikocjgaaX01
import Derived.Test.YtbhhbkoikocjgaaX02
import Derived.Test.YtbhhbkoikocjgaaX03
import Derived.Test.YtbhhbkoikocjgaaX04
import Derived.Test.YtbhhbkoikocjgaaX05
import Derived.Test.YtbhhbkoikocjgaaX06
import Derived.Test.YtbhhbkoikocjgaaX07
import Derived.Test.YtbhhbkoikocjgaaX12
import Derived.Test.YtbhhbkoikocjgaaX19
import Derived.BigQuiet
import Derived.BigRegion
import Derived.ChangeKeysEq
import Derived.ChangeOld
import Derived.Deep.DeepCutAuto
import Derived.Deep.DrawnRows
import Derived.Deep.MidRow
import Derived.Deep.QuietTactic
import Derived.Deep.RegionHeld3
import Derived.Deep.RegionLaw
import Derived.Deep.RegionWith
import Derived.Deep.WholeRow
import Derived.Great.BuildSlice
import Derived.Great.FillDense
import Derived.JoinedTies
import Derived.KernelRfl
import Derived.Laws.AppendOwnNone
import Derived.Laws.BitsLemmas
import Derived.Laws.BytesArg
import Derived.Laws.CopyOwn
import Derived.Laws.CopyRow
import Derived.Laws.MakeOwn
import Derived.Laws.OwnMore
import Derived.Laws.ResultCell
import Derived.Laws.Tables
import Derived.Lib.AppendZeros
import Derived.Lib.SlBytesConst
import Derived.LoopIn
import Derived.LoopNIn
import Derived.Maps.AppendAt
import Derived.OpenShut
import Derived.OwnWalkIn
import Derived.ProofKit
import Derived.RangeFuncBound
import Derived.RangeFuncCalls
import Derived.RangeFuncLeaves
import Derived.RangeFuncNested
import Derived.RangeFuncRecord
import Derived.Shelf.Abstract
import Derived.Shelf.RegionOpen
import Derived.ShutString
import Derived.SizedLaws
import Derived.TacticsInMore
import Derived.WalkKit
import Derived.WalkLawsBesides
import Derived.WalkSpells
import GoSem.Claim
import GoSem.ClaimJoined
import GoSem.ClaimMapViews
namespace Go.Proofs.Ytbhhbkoikocjgaa
set_option linter.unusedSectionVars false
set_option maxHeartbeats 1000000
open Go.RowKit
set_option maxRecDepth 100000
set_option linter.unusedVariables false
set_option linter.unusedSimpArgs false

variable [DecidableEq Ac] [DecidableEq Ou] [DecidableEq Mg]
theorem words_valN {H : Nat → Int} (hH : ∀ t, 0 ≤ H t ∧ H t ≤ 255) (k : Nat) :
    bits .or .u64 (IntKind.u64.wrap (wpart H k (k / 8) * 256)) (IntKind.u64.wrap (H k)) = wpart H (k + 1) (k / 8) := by
  have e1 : wpart H k (k / 8) = wacc H (k / 8) (k % 8) := by unfold wpart; congr 1; omega
  have e2 : wpart H (k + 1) (k / 8) = wacc H (k / 8) (k % 8 + 1) := by unfold wpart; congr 1; omega
  have e3 : 8 * (k / 8) + k % 8 = k := by omega
  have hr := wacc_rng hH (k / 8) (k % 8)
  have hp : (256 : Int) ^ (k % 8) ≤ 72057594037927936 := by
    have : k % 8 < 8 := Nat.mod_lt _ (by omega)
    generalize k % 8 = m at this
    match m, this with
    | 0, _ => decide
    | 1, _ => decide
    | 2, _ => decide
    | 3, _ => decide
    | 4, _ => decide
    | 5, _ => decide
    | 6, _ => decide
    | 7, _ => decide
  have hb := hH k
  rw [e1, e2, wacc, e3, wrap64_of (by omega) (by omega), wrap64_of (by omega) (by omega), or8 _ _ (by omega) (by omega) hb.1 hb.2]
theorem words_stepN {H : Nat → Int} (hH : ∀ t, 0 ≤ H t ∧ H t ≤ 255) {k : Nat} (hk : k < 104) :
    (u64s 13 (wpart H k)).setIfInBounds (k / 8) (.int .u64 (bits .or .u64 (IntKind.u64.wrap (wpart H k (k / 8) * 256)) (IntKind.u64.wrap (H k)))) = u64s 13 (wpart H (k + 1)) := by
  refine arr_eq (f := fun t => .int .u64 (wpart H (k + 1) t)) (by simp [u64s_size]) fun j hj => ?_
  rw [words_valN hH, Array.getElem?_setIfInBounds]
  by_cases e : k / 8 = j
  · subst e; simp [u64s_size, hj]
  · rw [if_neg e, u64s_get hj, words_other (Ne.symm e)]
theorem words_all (L : List Int) : u64s 13 (wpart (bat L) 104) = u64s 13 (wd L) := by
  refine arr_eq (f := fun t => .int .u64 (wd L t)) (u64s_size _ _) fun j hj => ?_
  rw [u64s_get hj]
  unfold wpart wd
  rw [show min (104 - 8 * j) 8 = 8 by omega]
theorem zeros13 : #[.int .u64 0, .int .u64 0, .int .u64 0, .int .u64 0, .int .u64 0, .int .u64 0, .int .u64 0, .int .u64 0, .int .u64 0, .int .u64 0, .int .u64 0, .int .u64 0, .int .u64 0] = u64s 13 (fun _ => 0) := by rfl
theorem wpart0 (H : Nat → Int) : u64s 13 (wpart H 0) = u64s 13 (fun _ => 0) := by
  refine arr_eq (f := fun _ => .int .u64 0) (u64s_size _ _) fun j hj => ?_
  rw [u64s_get hj]
  unfold wpart
  rw [Nat.zero_sub, Nat.zero_min]
  rfl
/-- What Words answers. -/
def wv (L : List Int) (j : Nat) : Int := if L.length = 104 then wd L j else 0
def we (L : List Int) : Int := if L.length < 104 then 7 else if 104 < L.length then 8 else 0
theorem wv_no {L : List Int} (h : L.length ≠ 104) : wv L = fun _ => 0 := by funext j; unfold wv; rw [if_neg h]
theorem wv_yes {L : List Int} (h : L.length = 104) : wv L = wd L := by funext j; unfold wv; rw [if_pos h]
theorem Arr.u13 {w : World} {g ty : Nat} {f : Nat → Int} (h : Arr w g ty (u64s 13 f)) : w.rangeAt g 0 (u64s 13 f).toList := fun j v hv => by
  rw [Nat.zero_add, h.cell, ← Array.getElem?_toList]; exact hv
theorem res41 {f : Func} {w : World} {tmps : Array Value} {g t k : Nat} {h : Nat → Int} {v : Value} (hf : f.results = #[.cell t 131, .tmp k]) (hp : tmps.getD t undef = .pointer (some ⟨g, 0, none⟩)) (hk : tmps.getD k undef = v) (hA : Arr w g 131 (u64s 13 h)) :
    (results f tmps).run Try.prog w = .ok (.tuple #[.agg (u64s 13 h), v]) w := by
  have hl := run_loadVar_mid (P := Try.prog) w g 0 131 (u64s 13 h).toList _ hA.u13 Try.underlying131 rfl (by rw [Array.length_toList]; exact s41u h)
  have hp' : tmps[t]?.getD undef = .pointer (some ⟨g, 0, none⟩) := by simpa using hp
  have hk' : tmps[k]?.getD undef = v := by simpa using hk
  simp [results, hf, hp', hk', asAddr, hl]
set_option maxHeartbeats 1000000 in
theorem words14_any (sp : Option Addr) (n cap N : Nat) (L : List Int) (w : World) (hS : BS N w sp n cap L) :
    Calls Try.prog 87 #[.slice sp n cap] w fun e w' => e = .returned (.tuple #[.agg (u64s 13 (wv L)), .int .i64 (we L)]) ∧ Below w.heap.size w w' := by
  have hlen := hS.len
  have hcap := hS.le
  have hbig := hS.big
  obtain ⟨ZA, hZA⟩ : ∃ Z : Array Value, Hid (Z = u64s 13 (fun _ => 0)) := ⟨_, rfl⟩
  have R0 := (Arr.new w 131 #[.int .u64 0, .int .u64 0, .int .u64 0, .int .u64 0, .int .u64 0, .int .u64 0, .int .u64 0, .int .u64 0, .int .u64 0, .int .u64 0, .int .u64 0, .int .u64 0, .int .u64 0]).alloc (.cells #[.int .u64 0, .int .u64 0, .int .u64 0, .int .u64 0, .int .u64 0, .int .u64 0, .int .u64 0, .int .u64 0, .int .u64 0, .int .u64 0, .int .u64 0, .int .u64 0, .int .u64 0] 131)
  have L0 : Arr ((w.alloc (.cells #[.int .u64 0, .int .u64 0, .int .u64 0, .int .u64 0, .int .u64 0, .int .u64 0, .int .u64 0, .int .u64 0, .int .u64 0, .int .u64 0, .int .u64 0, .int .u64 0, .int .u64 0] 131)).alloc (.cells #[.int .u64 0, .int .u64 0, .int .u64 0, .int .u64 0, .int .u64 0, .int .u64 0, .int .u64 0, .int .u64 0, .int .u64 0, .int .u64 0, .int .u64 0, .int .u64 0, .int .u64 0] 131)) (w.heap.size + 1) 131 #[.int .u64 0, .int .u64 0, .int .u64 0, .int .u64 0, .int .u64 0, .int .u64 0, .int .u64 0, .int .u64 0, .int .u64 0, .int .u64 0, .int .u64 0, .int .u64 0, .int .u64 0] := by simpa using Arr.new (w.alloc (.cells #[.int .u64 0, .int .u64 0, .int .u64 0, .int .u64 0, .int .u64 0, .int .u64 0, .int .u64 0, .int .u64 0, .int .u64 0, .int .u64 0, .int .u64 0, .int .u64 0, .int .u64 0] 131)) 131 #[.int .u64 0, .int .u64 0, .int .u64 0, .int .u64 0, .int .u64 0, .int .u64 0, .int .u64 0, .int .u64 0, .int .u64 0, .int .u64 0, .int .u64 0, .int .u64 0, .int .u64 0]
  have hB0 := (alloc_bel' w (.cells #[.int .u64 0, .int .u64 0, .int .u64 0, .int .u64 0, .int .u64 0, .int .u64 0, .int .u64 0, .int .u64 0, .int .u64 0, .int .u64 0, .int .u64 0, .int .u64 0, .int .u64 0] 131)).alloc (by simp) (.cells #[.int .u64 0, .int .u64 0, .int .u64 0, .int .u64 0, .int .u64 0, .int .u64 0, .int .u64 0, .int .u64 0, .int .u64 0, .int .u64 0, .int .u64 0, .int .u64 0, .int .u64 0] 131)
  have hS0 := (hS.here).below hB0
  go_enter Try.func87, Try.ntmps87
  go_upto_region 2 with fail
  generalize (w.alloc (.cells #[.int .u64 0, .int .u64 0, .int .u64 0, .int .u64 0, .int .u64 0, .int .u64 0, .int .u64 0, .int .u64 0, .int .u64 0, .int .u64 0, .int .u64 0, .int .u64 0, .int .u64 0] 131)).alloc (.cells #[.int .u64 0, .int .u64 0, .int .u64 0, .int .u64 0, .int .u64 0, .int .u64 0, .int .u64 0, .int .u64 0, .int .u64 0, .int .u64 0, .int .u64 0, .int .u64 0, .int .u64 0] 131) = V at R0 L0 hB0 hS0 ⊢
  rw [zeros13] at R0 L0
  by_cases h1 : n < 104
  · have h1' : (n : Int) < 104 := by omega
    have e1 : we L = 7 := by have := hlen.out; unfold we; rw [if_pos (by omega)]
    have e2 : wv L = fun _ => 0 := wv_no (by have := hlen.out; omega)
    go_wp2_with (first
      | (refine atL 131 (.tmp 4) ?_; refine wpList_load_row (by rfl) 131 (.tmp 4) (by rfl) (w.heap.size + 1) (by rfl) 131 (u64s 13 (fun _ => 0)) (0, 0) _ L0 Try.underlying131 rfl (s41u _) ?_)
      | (refine atS 131 (.tmp 2) (.tmp 9) ?_; refine wpList_store_arr (by rfl) 131 (.tmp 2) (.tmp 9) (by rfl) w.heap.size (u64s 13 (fun _ => 0)) (by rfl) (by rfl) 131 _ R0 (s41u _) (by simp [u64s_size]) (u64s_one _ _) ?_))
    exact bodyPost_ret (v := .tuple #[.agg (u64s 13 (fun _ => 0)), .int .i64 7]) (res41 Try.results87 rfl rfl (R0.setRow _)) rfl ⟨by first | rfl | rw [e1, e2], below_setRow hB0 (by omega) _⟩
  · have h1' : ¬ (n : Int) < 104 := by omega
    by_cases h2 : 104 < n
    · have h2' : (104 : Int) < n := by omega
      have e1 : we L = 8 := by have := hlen.out; unfold we; rw [if_neg (by omega), if_pos (by omega)]
      have e2 : wv L = fun _ => 0 := wv_no (by have := hlen.out; omega)
      go_wp2_with (first
        | (refine atL 131 (.tmp 4) ?_; refine wpList_load_row (by rfl) 131 (.tmp 4) (by rfl) (w.heap.size + 1) (by rfl) 131 (u64s 13 (fun _ => 0)) (0, 0) _ L0 Try.underlying131 rfl (s41u _) ?_)
        | (refine atS 131 (.tmp 2) (.tmp 13) ?_; refine wpList_store_arr (by rfl) 131 (.tmp 2) (.tmp 13) (by rfl) w.heap.size (u64s 13 (fun _ => 0)) (by rfl) (by rfl) 131 _ R0 (s41u _) (by simp [u64s_size]) (u64s_one _ _) ?_))
      exact bodyPost_ret (v := .tuple #[.agg (u64s 13 (fun _ => 0)), .int .i64 8]) (res41 Try.results87 rfl rfl (R0.setRow _)) rfl ⟨by first | rfl | rw [e1, e2], below_setRow hB0 (by omega) _⟩
    · obtain rfl : n = 104 := by omega
      have e1 : we L = 0 := by have := hlen.out; unfold we; rw [if_neg (by omega), if_neg (by omega)]
      have e2 : wv L = wd L := wv_yes hlen.out.symm
      obtain ⟨b, off, rfl, hbN, hBy⟩ := hS0.at0 (by omega)
      have hbts := bat_rng hS.bts
      have HB := Hid.mk' hBy
      clear hBy
      rw [← wpart0 (bat L)] at L0
      go_upto_region 7 with fail
      go_loopw [14] (fun i wr => ∃ k : Nat, k ≤ 104 ∧ i = .int .i64 k ∧ Arr wr w.heap.size 131 (u64s 13 (fun _ => 0)) ∧ Arr wr (w.heap.size + 1) 131 (u64s 13 (wpart (bat L) k)) ∧ Hid (Bytes wr b off 104 (bat L)) ∧ Below w.heap.size w wr) (fun i _ => 104 - (intOf i).toNat)
      case atStart => exact ⟨0, by omega, rfl, R0, L0, HB, hB0⟩
      case round =>
        obtain ⟨k, hk, rfl, R3, L3, HY, hB3⟩ := hrel
        clear R0 L0 HB hB0 hS0
        by_cases hlt : k < 104
        · have h3 : (k : Int) < 104 := by omega
          have h4 : (0 : Int) ≤ k := by omega
          have h5 : (k : Int) / 8 < 13 := by omega
          have h6 : (0 : Int) ≤ (k : Int) / 8 := by omega
          have x1 : wr.cell? ⟨b, off + k, none⟩ = some (.int .u8 (bat L k)) := HY.out k hlt
          have x2 : wr.cell? ⟨w.heap.size + 1, k / 8, none⟩ = some (.int .u64 (wpart (bat L) k (k / 8))) := (L3.cell _).trans (u64s_get (by omega))
          have f2 := L3.frozen (k / 8)
          go_wp2_with fail
          go_region
          all_goals go_wp2_with fail
          all_goals
            go_roundw
            case rel =>
              have L4 := L3.set (k / 8) (.int .u64 (bits .or .u64 (IntKind.u64.wrap (wpart (bat L) k (k / 8) * 256)) (IntKind.u64.wrap (bat L k))))
              rw [words_stepN hbts hlt] at L4
              refine ⟨k + 1, by omega, by go_num, (R3.setOther _ (by simp)).drew, L4.drew, Hid.mk' (fun t ht => ?_), (hB3.setCell (by simp) _).drew⟩
              have hne : b ≠ w.heap.size + 1 := by omega
              exact (World.cell?_of_block (by exact Below.heap_setCell _ _ _ _ hne)).trans (HY.out t ht)
            case measure => simp [intOf]; omega
        · obtain rfl : k = 104 := by omega
          rw [words_all] at L3
          go_wp2_with (first
            | (refine atL 131 (.tmp 4) ?_; refine wpList_load_row (by rfl) 131 (.tmp 4) (by rfl) (w.heap.size + 1) (by rfl) 131 (u64s 13 (wd L)) (0, 0) _ L3 Try.underlying131 rfl (s41u _) ?_)
            | (refine atS 131 (.tmp 2) (.tmp 32) ?_; refine wpList_store_arr (by rfl) 131 (.tmp 2) (.tmp 32) (by rfl) w.heap.size (u64s 13 (wd L)) (by rfl) (by rfl) 131 _ R3 (s41u _) (by simp [u64s_size]) (u64s_one _ _) ?_))
          exact bodyPost_ret (v := .tuple #[.agg (u64s 13 (wd L)), .int .i64 0]) (res41 Try.results87 rfl rfl (R3.setRow _)) rfl ⟨by first | rfl | rw [e1, e2], below_setRow hB3 (by omega) _⟩
set_option maxHeartbeats 1000000 in
theorem refWords15_any (sp : Option Addr) (n cap N : Nat) (L : List Int) (w : World) (hS : BS N w sp n cap L) :
    Calls Try.prog 66 #[.slice sp n cap] w fun e w' => e = .returned (.tuple #[.agg (u64s 13 (wv L)), .int .i64 (we L)]) ∧ Below w.heap.size w w' := by
  have hlen := hS.len
  have hcap := hS.le
  have hbig := hS.big
  obtain ⟨ZA, hZA⟩ : ∃ Z : Array Value, Hid (Z = u64s 13 (fun _ => 0)) := ⟨_, rfl⟩
  have R0 := (Arr.new w 131 #[.int .u64 0, .int .u64 0, .int .u64 0, .int .u64 0, .int .u64 0, .int .u64 0, .int .u64 0, .int .u64 0, .int .u64 0, .int .u64 0, .int .u64 0, .int .u64 0, .int .u64 0]).alloc (.cells #[.int .u64 0, .int .u64 0, .int .u64 0, .int .u64 0, .int .u64 0, .int .u64 0, .int .u64 0, .int .u64 0, .int .u64 0, .int .u64 0, .int .u64 0, .int .u64 0, .int .u64 0] 131)
  have L0 : Arr ((w.alloc (.cells #[.int .u64 0, .int .u64 0, .int .u64 0, .int .u64 0, .int .u64 0, .int .u64 0, .int .u64 0, .int .u64 0, .int .u64 0, .int .u64 0, .int .u64 0, .int .u64 0, .int .u64 0] 131)).alloc (.cells #[.int .u64 0, .int .u64 0, .int .u64 0, .int .u64 0, .int .u64 0, .int .u64 0, .int .u64 0, .int .u64 0, .int .u64 0, .int .u64 0, .int .u64 0, .int .u64 0, .int .u64 0] 131)) (w.heap.size + 1) 131 #[.int .u64 0, .int .u64 0, .int .u64 0, .int .u64 0, .int .u64 0, .int .u64 0, .int .u64 0, .int .u64 0, .int .u64 0, .int .u64 0, .int .u64 0, .int .u64 0, .int .u64 0] := by simpa using Arr.new (w.alloc (.cells #[.int .u64 0, .int .u64 0, .int .u64 0, .int .u64 0, .int .u64 0, .int .u64 0, .int .u64 0, .int .u64 0, .int .u64 0, .int .u64 0, .int .u64 0, .int .u64 0, .int .u64 0] 131)) 131 #[.int .u64 0, .int .u64 0, .int .u64 0, .int .u64 0, .int .u64 0, .int .u64 0, .int .u64 0, .int .u64 0, .int .u64 0, .int .u64 0, .int .u64 0, .int .u64 0, .int .u64 0]
  have hB0 := (alloc_bel' w (.cells #[.int .u64 0, .int .u64 0, .int .u64 0, .int .u64 0, .int .u64 0, .int .u64 0, .int .u64 0, .int .u64 0, .int .u64 0, .int .u64 0, .int .u64 0, .int .u64 0, .int .u64 0] 131)).alloc (by simp) (.cells #[.int .u64 0, .int .u64 0, .int .u64 0, .int .u64 0, .int .u64 0, .int .u64 0, .int .u64 0, .int .u64 0, .int .u64 0, .int .u64 0, .int .u64 0, .int .u64 0, .int .u64 0] 131)
  have hS0 := (hS.here).below hB0
  go_enter Try.func66, Try.ntmps66
  go_upto_region 2 with fail
  generalize (w.alloc (.cells #[.int .u64 0, .int .u64 0, .int .u64 0, .int .u64 0, .int .u64 0, .int .u64 0, .int .u64 0, .int .u64 0, .int .u64 0, .int .u64 0, .int .u64 0, .int .u64 0, .int .u64 0] 131)).alloc (.cells #[.int .u64 0, .int .u64 0, .int .u64 0, .int .u64 0, .int .u64 0, .int .u64 0, .int .u64 0, .int .u64 0, .int .u64 0, .int .u64 0, .int .u64 0, .int .u64 0, .int .u64 0] 131) = V at R0 L0 hB0 hS0 ⊢
  rw [zeros13] at R0 L0
  by_cases h1 : n < 104
  · have h1' : (n : Int) < 104 := by omega
    have e1 : we L = 7 := by have := hlen.out; unfold we; rw [if_pos (by omega)]
    have e2 : wv L = fun _ => 0 := wv_no (by have := hlen.out; omega)
    go_wp2_with (first
      | (refine atL 131 (.tmp 4) ?_; refine wpList_load_row (by rfl) 131 (.tmp 4) (by rfl) (w.heap.size + 1) (by rfl) 131 (u64s 13 (fun _ => 0)) (0, 0) _ L0 Try.underlying131 rfl (s41u _) ?_)
      | (refine atS 131 (.tmp 2) (.tmp 9) ?_; refine wpList_store_arr (by rfl) 131 (.tmp 2) (.tmp 9) (by rfl) w.heap.size (u64s 13 (fun _ => 0)) (by rfl) (by rfl) 131 _ R0 (s41u _) (by simp [u64s_size]) (u64s_one _ _) ?_))
    exact bodyPost_ret (v := .tuple #[.agg (u64s 13 (fun _ => 0)), .int .i64 7]) (res41 Try.results66 rfl rfl (R0.setRow _)) rfl ⟨by first | rfl | rw [e1, e2], below_setRow hB0 (by omega) _⟩
  · have h1' : ¬ (n : Int) < 104 := by omega
    by_cases h2 : 104 < n
    · have h2' : (104 : Int) < n := by omega
      have e1 : we L = 8 := by have := hlen.out; unfold we; rw [if_neg (by omega), if_pos (by omega)]
      have e2 : wv L = fun _ => 0 := wv_no (by have := hlen.out; omega)
      go_wp2_with (first
        | (refine atL 131 (.tmp 4) ?_; refine wpList_load_row (by rfl) 131 (.tmp 4) (by rfl) (w.heap.size + 1) (by rfl) 131 (u64s 13 (fun _ => 0)) (0, 0) _ L0 Try.underlying131 rfl (s41u _) ?_)
        | (refine atS 131 (.tmp 2) (.tmp 13) ?_; refine wpList_store_arr (by rfl) 131 (.tmp 2) (.tmp 13) (by rfl) w.heap.size (u64s 13 (fun _ => 0)) (by rfl) (by rfl) 131 _ R0 (s41u _) (by simp [u64s_size]) (u64s_one _ _) ?_))
      exact bodyPost_ret (v := .tuple #[.agg (u64s 13 (fun _ => 0)), .int .i64 8]) (res41 Try.results66 rfl rfl (R0.setRow _)) rfl ⟨by first | rfl | rw [e1, e2], below_setRow hB0 (by omega) _⟩
    · obtain rfl : n = 104 := by omega
      have e1 : we L = 0 := by have := hlen.out; unfold we; rw [if_neg (by omega), if_neg (by omega)]
      have e2 : wv L = wd L := wv_yes hlen.out.symm
      obtain ⟨b, off, rfl, hbN, hBy⟩ := hS0.at0 (by omega)
      have hbts := bat_rng hS.bts
      have HB := Hid.mk' hBy
      clear hBy
      rw [← wpart0 (bat L)] at L0
      go_upto_region 7 with fail
      go_loopw [5] (fun i wr => ∃ k : Nat, k ≤ 104 ∧ i = .int .i64 k ∧ Arr wr w.heap.size 131 (u64s 13 (fun _ => 0)) ∧ Arr wr (w.heap.size + 1) 131 (u64s 13 (wpart (bat L) k)) ∧ Hid (Bytes wr b off 104 (bat L)) ∧ Below w.heap.size w wr) (fun i _ => 104 - (intOf i).toNat)
      case atStart => exact ⟨0, by omega, rfl, R0, L0, HB, hB0⟩
      case round =>
        obtain ⟨k, hk, rfl, R3, L3, HY, hB3⟩ := hrel
        clear R0 L0 HB hB0 hS0
        by_cases hlt : k < 104
        · have h3 : (k : Int) < 104 := by omega
          have h4 : (0 : Int) ≤ k := by omega
          have h5 : (k : Int) / 8 < 13 := by omega
          have h6 : (0 : Int) ≤ (k : Int) / 8 := by omega
          have x1 : wr.cell? ⟨b, off + k, none⟩ = some (.int .u8 (bat L k)) := HY.out k hlt
          have x2 : wr.cell? ⟨w.heap.size + 1, k / 8, none⟩ = some (.int .u64 (wpart (bat L) k (k / 8))) := (L3.cell _).trans (u64s_get (by omega))
          have f2 := L3.frozen (k / 8)
          go_wp2_with fail
          go_region
          all_goals go_wp2_with fail
          all_goals
            go_roundw
            case rel =>
              have L4 := L3.set (k / 8) (.int .u64 (bits .or .u64 (IntKind.u64.wrap (wpart (bat L) k (k / 8) * 256)) (IntKind.u64.wrap (bat L k))))
              rw [words_stepN hbts hlt] at L4
              refine ⟨k + 1, by omega, by go_num, (R3.setOther _ (by simp)).drew, L4.drew, Hid.mk' (fun t ht => ?_), (hB3.setCell (by simp) _).drew⟩
              have hne : b ≠ w.heap.size + 1 := by omega
              exact (World.cell?_of_block (by exact Below.heap_setCell _ _ _ _ hne)).trans (HY.out t ht)
            case measure => simp [intOf]; omega
        · obtain rfl : k = 104 := by omega
          rw [words_all] at L3
          go_wp2_with (first
            | (refine atL 131 (.tmp 4) ?_; refine wpList_load_row (by rfl) 131 (.tmp 4) (by rfl) (w.heap.size + 1) (by rfl) 131 (u64s 13 (wd L)) (0, 0) _ L3 Try.underlying131 rfl (s41u _) ?_)
            | (refine atS 131 (.tmp 2) (.tmp 32) ?_; refine wpList_store_arr (by rfl) 131 (.tmp 2) (.tmp 32) (by rfl) w.heap.size (u64s 13 (wd L)) (by rfl) (by rfl) 131 _ R3 (s41u _) (by simp [u64s_size]) (u64s_one _ _) ?_))
          exact bodyPost_ret (v := .tuple #[.agg (u64s 13 (wd L)), .int .i64 0]) (res41 Try.results66 rfl rfl (R3.setRow _)) rfl ⟨by first | rfl | rw [e1, e2], below_setRow hB3 (by omega) _⟩
end Go.Proofs.Ytbhhbkoikocjgaa
