/- I, K. -/
import Derived.Test.YtbhhbkoikocjgaaX01
import Derived.Test.YtbhhbkoikocjgaaX02
import Derived.Test.YtbhhbkoikocjgaaX03
import Derived.Test.YtbhhbkoikocjgaaX04
import Derived.Test.YtbhhbkoikocjgaaX05
import Derived.Test.YtbhhbkoikocjgaaX08
import Derived.Test.YtbhhbkoikocjgaaX06
import Derived.Test.YtbhhbkoikocjgaaX07
import Derived.Test.YtbhhbkoikocjgaaX10
import Derived.Test.YtbhhbkoikocjgaaX15
import Derived.Test.YtbhhbkoikocjgaaX12
import Derived.BigQuiet
import Derived.BigRegion
import Derived.ChangeKeysEq
import Derived.ChangeOld
import Derived.Deep.DeepCutAuto
import Derived.Deep.DrawnRows
import Derived.Deep.MidRow
import Derived.Deep.QuietTactic
import Derived.Deep.RegionHeld3
import Derived.Deep.RegionLaw
import Derived.Deep.RegionWith
import Derived.Deep.WholeRow
import Derived.Great.BuildSlice
import Derived.Great.FillDense
import Derived.JoinedTies
import Derived.KernelRfl
import Derived.Laws.AppendOwnNone
import Derived.Laws.BitsLemmas
import Derived.Laws.BytesArg
import Derived.Laws.CopyOwn
import Derived.Laws.CopyRow
import Derived.Laws.MakeOwn
import Derived.Laws.OwnMore
import Derived.Laws.ResultCell
import Derived.Laws.Tables
import Derived.Lib.AppendZeros
import Derived.Lib.SlBytesConst
import Derived.LoopIn
import Derived.LoopNIn
import Derived.Maps.AppendAt
import Derived.OpenShut
import Derived.OwnWalkIn
import Derived.ProofKit
import Derived.RangeFuncBound
import Derived.RangeFuncCalls
import Derived.RangeFuncLeaves
import Derived.RangeFuncNested
import Derived.RangeFuncRecord
import Derived.Shelf.Abstract
import Derived.Shelf.RegionOpen
import Derived.ShutString
import Derived.SizedLaws
import Derived.TacticsInMore
import Derived.WalkKit
import Derived.WalkLawsBesides
import Derived.WalkSpells
import GoSem.Claim
import GoSem.ClaimJoined
import GoSem.ClaimMapViews
import Derived.Test.YtbhhbkoikocjgaaX19
import Derived.Test.YtbhhbkoikocjgaaX20
/- Layer spec: what the layers below give. -/
namespace Go.Proofs.Ytbhhbkoikocjgaa
set_option linter.unusedSectionVars false
set_option maxHeartbeats 1000000
open Go.RowKit
set_option maxRecDepth 100000
set_option linter.unusedVariables false
set_option linter.unusedSimpArgs false

variable [DecidableEq Ac] [DecidableEq Ou] [DecidableEq Mg]
theorem from_key {L : List Int} (hL : Bts L) (hl : L.length = 104) {a : Nat} (ha : 8 * a + 32 ≤ 104) : u8s 32 (fromB fun j => wd L (a + j)) = h8 ((L.drop (8 * a)).take 32) := by
  have hlen : ((L.drop (8 * a)).take 32).length = 32 := by simp [hl]; omega
  refine (arr_eq (C := h8 ((L.drop (8 * a)).take 32)) (f := fun t => .int .u8 (fromB (fun j => wd L (a + j)) t)) (by rw [h8_size, hlen]) fun t ht => ?_).symm
  rw [h8_get (by omega)]
  congr 2
  have e := e8_wd hL (a + t / 8) (t % 8) (by omega)
  rw [bat_e8 _ (by omega)] at e
  unfold fromB
  rw [e]
  unfold bat
  rw [List.getD, List.getD, List.getElem?_take_of_lt ht, List.getElem?_drop]
  congr 2
  omega
theorem wrap8 (x : Int) : IntKind.u8.wrap x = x % 256 := by
  simp only [IntKind.wrap, IntKind.bits, IntKind.signed]; simp
def pk (f : Nat → Int) (a k t : Nat) : Int := if t < k then f (a + t) else 0
theorem pk_step (f : Nat → Int) (a : Nat) {k : Nat} (h : k < 4) : (u64s 4 (pk f a k)).setIfInBounds k (.int .u64 (f (a + k))) = u64s 4 (pk f a (k + 1)) := by
  refine arr_eq (f := fun t => .int .u64 (pk f a (k + 1) t)) (by simp [u64s_size]) fun t ht => ?_
  rw [Array.getElem?_setIfInBounds]
  by_cases e : k = t
  · subst e; rw [if_pos rfl, if_pos (by rw [u64s_size]; exact ht)]; unfold pk; rw [if_pos (by omega)]
  · rw [if_neg e, u64s_get ht]; unfold pk
    by_cases h2 : t < k
    · rw [if_pos h2, if_pos (by omega)]
    · rw [if_neg h2, if_neg (by omega)]
theorem pk0 (f : Nat → Int) (a : Nat) : #[.int .u64 0, .int .u64 0, .int .u64 0, .int .u64 0] = u64s 4 (pk f a 0) := by
  refine arr_eq (f := fun t => .int .u64 (pk f a 0 t)) rfl fun t ht => ?_
  match t, ht with
  | 0, _ => rfl
  | 1, _ => rfl
  | 2, _ => rfl
  | 3, _ => rfl
theorem y54 {ops : Array Oper} {S : World → Prop} {op : Oper} {a : Act} (hw : Region.wanted op (yielded ops a.tmps) = true) (x : Operand) (ho : op.op = .load 135 x)
    (g ty : Nat) (hx : a.eval x = .pointer (some ⟨g, 0, none⟩)) (f : Nat → Int) (hS : ∀ w, S w → Arr w g ty (u64s 4 f)) : YieldsIf Try.prog ops S op (.agg (u64s 4 f)) a :=
  yieldsIf_load_mid hw 135 x ho g 0 hx (u64s 4 f).toList _ (fun w h j v hv => by rw [Nat.zero_add, (hS w h).cell, ← Array.getElem?_toList]; exact hv) Try.underlying135 rfl (by rw [Array.length_toList]; exact s30u f)
set_option maxHeartbeats 4000000 in
theorem msgOf_any (L : List Int) (w : World) (hL : Bts L) (hl : L.length = 104) :
    Calls Try.prog 88 #[.agg (u64s 13 (wd L))] w fun e w' => e = .returned (.agg (mgOf L).arr) ∧ Below w.heap.size w w' := by
  have A0 := (((Arr.new w 131 (u64s 13 (wd L))).alloc (.cells mg0.arr 95)).alloc (.cells #[.int .u64 0, .int .u64 0, .int .u64 0, .int .u64 0] 135)).alloc (.cells #[.int .u64 0, .int .u64 0, .int .u64 0, .int .u64 0] 135)
  have R0 : Arr ((((w.alloc (.cells (u64s 13 (wd L)) 131)).alloc (.cells mg0.arr 95)).alloc (.cells #[.int .u64 0, .int .u64 0, .int .u64 0, .int .u64 0] 135)).alloc (.cells #[.int .u64 0, .int .u64 0, .int .u64 0, .int .u64 0] 135)) (w.heap.size + 1) 95 mg0.arr := by simpa using ((Arr.new (w.alloc (.cells (u64s 13 (wd L)) 131)) 95 mg0.arr).alloc (.cells #[.int .u64 0, .int .u64 0, .int .u64 0, .int .u64 0] 135)).alloc (.cells #[.int .u64 0, .int .u64 0, .int .u64 0, .int .u64 0] 135)
  have K0 : Arr ((((w.alloc (.cells (u64s 13 (wd L)) 131)).alloc (.cells mg0.arr 95)).alloc (.cells #[.int .u64 0, .int .u64 0, .int .u64 0, .int .u64 0] 135)).alloc (.cells #[.int .u64 0, .int .u64 0, .int .u64 0, .int .u64 0] 135)) (w.heap.size + 1 + 1) 135 #[.int .u64 0, .int .u64 0, .int .u64 0, .int .u64 0] := by simpa using (Arr.new ((w.alloc (.cells (u64s 13 (wd L)) 131)).alloc (.cells mg0.arr 95)) 135 #[.int .u64 0, .int .u64 0, .int .u64 0, .int .u64 0]).alloc (.cells #[.int .u64 0, .int .u64 0, .int .u64 0, .int .u64 0] 135)
  have N0 : Arr ((((w.alloc (.cells (u64s 13 (wd L)) 131)).alloc (.cells mg0.arr 95)).alloc (.cells #[.int .u64 0, .int .u64 0, .int .u64 0, .int .u64 0] 135)).alloc (.cells #[.int .u64 0, .int .u64 0, .int .u64 0, .int .u64 0] 135)) (w.heap.size + 1 + 1 + 1) 135 #[.int .u64 0, .int .u64 0, .int .u64 0, .int .u64 0] := by simpa using Arr.new (((w.alloc (.cells (u64s 13 (wd L)) 131)).alloc (.cells mg0.arr 95)).alloc (.cells #[.int .u64 0, .int .u64 0, .int .u64 0, .int .u64 0] 135)) 135 #[.int .u64 0, .int .u64 0, .int .u64 0, .int .u64 0]
  have hB0 := (((alloc_bel' w (.cells (u64s 13 (wd L)) 131)).alloc (by simp) (.cells mg0.arr 95)).alloc (by simp; omega) (.cells #[.int .u64 0, .int .u64 0, .int .u64 0, .int .u64 0] 135)).alloc (by simp; omega) (.cells #[.int .u64 0, .int .u64 0, .int .u64 0, .int .u64 0] 135)
  have z27 := zv27
  go_enter Try.func88, Try.ntmps88
  go_upto_region 3 with fail
  generalize (((w.alloc (.cells (u64s 13 (wd L)) 131)).alloc (.cells mg0.arr 95)).alloc (.cells #[.int .u64 0, .int .u64 0, .int .u64 0, .int .u64 0] 135)).alloc (.cells #[.int .u64 0, .int .u64 0, .int .u64 0, .int .u64 0] 135) = V0 at A0 R0 K0 N0 hB0 ⊢
  rw [pk0 (wd L) 5] at K0
  rw [pk0 (wd L) 9] at N0
  go_loopw [6] (fun i wr => ∃ k : Nat, k ≤ 4 ∧ i = .int .i64 k ∧ Arr wr w.heap.size 131 (u64s 13 (wd L)) ∧ Arr wr (w.heap.size + 1) 95 mg0.arr ∧ Arr wr (w.heap.size + 1 + 1) 135 (u64s 4 (pk (wd L) 5 k)) ∧ Arr wr (w.heap.size + 1 + 1 + 1) 135 (u64s 4 (pk (wd L) 9 k)) ∧ Below w.heap.size w wr) (fun i _ => 4 - (intOf i).toNat)
  case atStart => exact ⟨0, by omega, rfl, A0, R0, K0, N0, hB0⟩
  case round =>
    obtain ⟨k, hk, rfl, A1, R1, K1, N1, hB1⟩ := hrel
    clear A0 R0 K0 N0 hB0
    by_cases hlt : k < 4
    · have h3 : (k : Int) < 4 := by omega
      have h4 : (0 : Int) ≤ k := by omega
      have h5 : (5 : Int) + k < 13 := by omega
      have h6 : (0 : Int) ≤ 5 + k := by omega
      have h7 : (9 : Int) + k < 13 := by omega
      have h8' : (0 : Int) ≤ 9 + k := by omega
      have e5 : (5 + (k : Int)).toNat = 5 + k := by omega
      have e9 : (9 + (k : Int)).toNat = 9 + k := by omega
      have x5 : wr.cell? ⟨w.heap.size, 5 + k, none⟩ = some (.int .u64 (wd L (5 + k))) := (A1.cell _).trans (u64s_get (by omega))
      have x9 : wr.cell? ⟨w.heap.size, 9 + k, none⟩ = some (.int .u64 (wd L (9 + k))) := (A1.cell _).trans (u64s_get (by omega))
      have y5 : wr.cell? ⟨w.heap.size + 1 + 1, k, none⟩ = some (.int .u64 (pk (wd L) 5 k k)) := (K1.cell _).trans (u64s_get hlt)
      have y9 : wr.cell? ⟨w.heap.size + 1 + 1 + 1, k, none⟩ = some (.int .u64 (pk (wd L) 9 k k)) := (N1.cell _).trans (u64s_get hlt)
      have f5 := K1.frozen k
      have f9 := N1.frozen k
      go_wp2_with fail
      go_region
      go_wp2_with fail
      go_roundw
      case rel =>
        have K2 := K1.set k (.int .u64 (wd L (5 + k)))
        have N2 := N1.set k (.int .u64 (wd L (9 + k)))
        rw [pk_step _ _ hlt] at K2 N2
        have K3 := K2.setOther (a := ⟨w.heap.size + 1 + 1 + 1, k, none⟩) (.int .u64 (wd L (9 + k))) (by simp)
        have N3 := (N1.setOther (a := ⟨w.heap.size + 1 + 1, k, none⟩) (.int .u64 (wd L (5 + k))) (by simp)).set k (.int .u64 (wd L (9 + k)))
        rw [pk_step _ _ hlt] at N3
        exact ⟨k + 1, by omega, by go_num, ((A1.setOther _ (by simp; omega)).setOther _ (by simp; omega)).drew, ((R1.setOther _ (by simp)).setOther _ (by simp)).drew, K3.drew, N3.drew, ((hB1.setCell (by simp; omega) _).setCell (by simp; omega) _).drew⟩
      case measure => simp [intOf]; omega
    · obtain rfl : k = 4 := by omega
      have hk32 : ((L.drop 40).take 32).length = 32 := by simp [hl]
      have hn32 : ((L.drop 72).take 32).length = 32 := by simp [hl]
      have FK : ∀ u : World, Calls Try.prog 79 #[.agg (u64s 4 (pk (wd L) 5 4))] u fun e w' => e = .returned (.agg (h8 ((L.drop 40).take 32))) ∧ Below u.heap.size u w' := fun u => by
        have := from_any (u64s 4 (pk (wd L) 5 4)) (fun j => wd L (5 + j)) u (fun t ht => by rw [u64s_get ht]; unfold pk; rw [if_pos ht])
        rw [from_key hL hl (a := 5) (by omega)] at this
        exact this
      have FN : ∀ u : World, Calls Try.prog 79 #[.agg (u64s 4 (pk (wd L) 9 4))] u fun e w' => e = .returned (.agg (h8 ((L.drop 72).take 32))) ∧ Below u.heap.size u w' := fun u => by
        have := from_any (u64s 4 (pk (wd L) 9 4)) (fun j => wd L (9 + j)) u (fun t ht => by rw [u64s_get ht]; unfold pk; rw [if_pos ht])
        rw [from_key hL hl (a := 9) (by omega)] at this
        exact this
      have hok := mgOf_ok hL hl
      have hb27 := built27 (IntKind.u8.wrap (wd L 0)) (wd L 1) (wd L 2) (wd L 3) (wd L 4) _ _ hk32 hn32
      have hM : (⟨IntKind.u8.wrap (wd L 0), wd L 1, wd L 2, wd L 3, wd L 4, (L.drop 40).take 32, (L.drop 72).take 32⟩ : Mg) = mgOf L := by rw [wrap8]; rfl
      rw [hM] at hb27
      clear hM
      go_upto_region 7 with fail
      refine wp_region_held_drew (S := fun u => Arr u w.heap.size 131 (u64s 13 (wd L)) ∧ Arr u (w.heap.size + 1 + 1) 135 (u64s 4 (pk (wd L) 5 4)) ∧ Arr u (w.heap.size + 1 + 1 + 1) 135 (u64s 4 (pk (wd L) 9 4))) (by kernel_rfl) (⟨A1.drew, K1.drew, N1.drew⟩) (fun hHeld => ?_)
      refine wpAnyH_take (i := 0) (oi := ⟨_, _, _, _, _, _⟩) (v := ?_) rfl (by kernel_rfl) (by kernel_rfl) (by kernel_rfl) (fun _ _ _ h => h) (Or.inl ⟨by rfl, ?_⟩) (by assumption) ?_
      rotate_left
      · intro u hSw
        go_simp
        try (with_reducible rfl)
      try simp only [Act.put, List.setIfInBounds_toArray, List.set_cons_zero, List.set_cons_succ]
      refine wpAnyH_take (i := 1) (oi := ⟨_, _, _, _, _, _⟩) (v := ?_) rfl (by kernel_rfl) (by kernel_rfl) (by kernel_rfl) (fun _ _ _ h => h) (Or.inl ⟨by rfl, ?_⟩) (by assumption) ?_
      rotate_left
      · intro u hSw
        have cc : u.cell? ⟨w.heap.size, 0, none⟩ = some (.int .u64 (wd L 0)) := (hSw.1.cell 0).trans (u64s_get (by omega))
        go_simp
        try (with_reducible rfl)
      try simp only [Act.put, List.setIfInBounds_toArray, List.set_cons_zero, List.set_cons_succ]
      refine wpAnyH_take (i := 2) (oi := ⟨_, _, _, _, _, _⟩) (v := ?_) rfl (by kernel_rfl) (by kernel_rfl) (by kernel_rfl) (fun _ _ _ h => h) (Or.inl ⟨by rfl, ?_⟩) (by assumption) ?_
      rotate_left
      · intro u hSw
        go_simp
        try (with_reducible rfl)
      try simp only [Act.put, List.setIfInBounds_toArray, List.set_cons_zero, List.set_cons_succ]
      refine wpAnyH_take (i := 3) (oi := ⟨_, _, _, _, _, _⟩) (v := ?_) rfl (by kernel_rfl) (by kernel_rfl) (by kernel_rfl) (fun _ _ _ h => h) (Or.inl ⟨by rfl, ?_⟩) (by assumption) ?_
      rotate_left
      · intro u hSw
        go_simp
        try (with_reducible rfl)
      try simp only [Act.put, List.setIfInBounds_toArray, List.set_cons_zero, List.set_cons_succ]
      refine wpAnyH_take (i := 4) (oi := ⟨_, _, _, _, _, _⟩) (v := ?_) rfl (by kernel_rfl) (by kernel_rfl) (by kernel_rfl) (fun _ _ _ h => h) (Or.inl ⟨by rfl, ?_⟩) (by assumption) ?_
      rotate_left
      · intro u hSw
        have cc : u.cell? ⟨w.heap.size, 1, none⟩ = some (.int .u64 (wd L 1)) := (hSw.1.cell 1).trans (u64s_get (by omega))
        go_simp
        try (with_reducible rfl)
      try simp only [Act.put, List.setIfInBounds_toArray, List.set_cons_zero, List.set_cons_succ]
      refine wpAnyH_take (i := 5) (oi := ⟨_, _, _, _, _, _⟩) (v := ?_) rfl (by kernel_rfl) (by kernel_rfl) (by kernel_rfl) (fun _ _ _ h => h) (Or.inl ⟨by rfl, ?_⟩) (by assumption) ?_
      rotate_left
      · intro u hSw
        go_simp
        try (with_reducible rfl)
      try simp only [Act.put, List.setIfInBounds_toArray, List.set_cons_zero, List.set_cons_succ]
      refine wpAnyH_take (i := 6) (oi := ⟨_, _, _, _, _, _⟩) (v := ?_) rfl (by kernel_rfl) (by kernel_rfl) (by kernel_rfl) (fun _ _ _ h => h) (Or.inl ⟨by rfl, ?_⟩) (by assumption) ?_
      rotate_left
      · intro u hSw
        have cc : u.cell? ⟨w.heap.size, 2, none⟩ = some (.int .u64 (wd L 2)) := (hSw.1.cell 2).trans (u64s_get (by omega))
        go_simp
        try (with_reducible rfl)
      try simp only [Act.put, List.setIfInBounds_toArray, List.set_cons_zero, List.set_cons_succ]
      refine wpAnyH_take (i := 7) (oi := ⟨_, _, _, _, _, _⟩) (v := ?_) rfl (by kernel_rfl) (by kernel_rfl) (by kernel_rfl) (fun _ _ _ h => h) (Or.inl ⟨by rfl, ?_⟩) (by assumption) ?_
      rotate_left
      · intro u hSw
        go_simp
        try (with_reducible rfl)
      try simp only [Act.put, List.setIfInBounds_toArray, List.set_cons_zero, List.set_cons_succ]
      refine wpAnyH_take (i := 8) (oi := ⟨_, _, _, _, _, _⟩) (v := ?_) rfl (by kernel_rfl) (by kernel_rfl) (by kernel_rfl) (fun _ _ _ h => h) (Or.inl ⟨by rfl, ?_⟩) (by assumption) ?_
      rotate_left
      · intro u hSw
        have cc : u.cell? ⟨w.heap.size, 3, none⟩ = some (.int .u64 (wd L 3)) := (hSw.1.cell 3).trans (u64s_get (by omega))
        go_simp
        try (with_reducible rfl)
      try simp only [Act.put, List.setIfInBounds_toArray, List.set_cons_zero, List.set_cons_succ]
      refine wpAnyH_take (i := 9) (oi := ⟨_, _, _, _, _, _⟩) (v := ?_) rfl (by kernel_rfl) (by kernel_rfl) (by kernel_rfl) (fun _ _ _ h => h) (Or.inl ⟨by rfl, ?_⟩) (by assumption) ?_
      rotate_left
      · intro u hSw
        go_simp
        try (with_reducible rfl)
      try simp only [Act.put, List.setIfInBounds_toArray, List.set_cons_zero, List.set_cons_succ]
      refine wpAnyH_take (i := 10) (oi := ⟨_, _, _, _, _, _⟩) (v := ?_) rfl (by kernel_rfl) (by kernel_rfl) (by kernel_rfl) (fun _ _ _ h => h) (Or.inl ⟨by rfl, ?_⟩) (by assumption) ?_
      rotate_left
      · intro u hSw
        have cc : u.cell? ⟨w.heap.size, 4, none⟩ = some (.int .u64 (wd L 4)) := (hSw.1.cell 4).trans (u64s_get (by omega))
        go_simp
        try (with_reducible rfl)
      try simp only [Act.put, List.setIfInBounds_toArray, List.set_cons_zero, List.set_cons_succ]
      refine wpAnyH_take (i := 11) (oi := ⟨_, _, _, _, _, _⟩) rfl (by kernel_rfl) (by kernel_rfl) (by kernel_rfl) (fun _ _ _ h => h) (y54 (by rfl) (.tmp 3) rfl (w.heap.size + 1 + 1) 135 rfl _ (fun u hu => hu.2.1)) (by assumption) ?_
      try simp only [Act.put, List.setIfInBounds_toArray, List.set_cons_zero, List.set_cons_succ]
      refine wpAnyH_take (i := 13) (oi := ⟨_, _, _, _, _, _⟩) rfl (by kernel_rfl) (by kernel_rfl) (by kernel_rfl) (fun _ _ _ h => h) (y54 (by rfl) (.tmp 4) rfl (w.heap.size + 1 + 1 + 1) 135 rfl _ (fun u hu => hu.2.2)) (by assumption) ?_
      try simp only [Act.put, List.setIfInBounds_toArray, List.set_cons_zero, List.set_cons_succ]
      refine wpAnyH_ready (rs := [12]) (by kernel_rfl) (by simp) ?_
      refine AllReadyH.cons (o := ⟨_, _, _, _, _, _⟩) rfl (fun K hK => ?_) AllReadyH.nil
      go_simp
      refine (FK _).mono ?_; rintro e u1 ⟨rfl, hb1⟩; have H1 := ((Below.refl wr.heap.size wr).drew).trans (hb1.mono (by simp))
      go_wp2_with fail
      refine hK.out _ _ ⟨A1.below H1 A1.lt, K1.below H1 K1.lt, N1.below H1 N1.lt⟩ (fun hHeld => ?_)
      clear hK K
      try simp only [Act.put, List.setIfInBounds_toArray, List.set_cons_zero, List.set_cons_succ]
      refine wpAnyH_ready (rs := [14]) (by kernel_rfl) (by simp) ?_
      refine AllReadyH.cons (o := ⟨_, _, _, _, _, _⟩) rfl (fun K hK => ?_) AllReadyH.nil
      go_simp
      refine (FN _).mono ?_; rintro e u2 ⟨rfl, hb2⟩; have H2 := H1.trans (hb2.mono H1.size)
      go_wp2_with fail
      refine hK.out _ _ ⟨A1.below H2 A1.lt, K1.below H2 K1.lt, N1.below H2 N1.lt⟩ (fun hHeld => ?_)
      clear hK K
      try simp only [Act.put, List.setIfInBounds_toArray, List.set_cons_zero, List.set_cons_succ]
      refine wpAnyH_take (i := 15) (oi := ⟨_, _, _, _, _, _⟩) rfl (by kernel_rfl) (by kernel_rfl) (by kernel_rfl) (fun _ _ _ h => h) (y_bd (by rfl) 95 _ rfl (by rfl) hb27) (by assumption) ?_
      try simp only [Act.put, List.setIfInBounds_toArray, List.set_cons_zero, List.set_cons_succ]
      have R2 := R1.below H2 R1.lt
      have R5 := Arr.setRow R2 (mgOf L).arr
      have hB5 := below_setRow (hB1.trans (H2.mono hB1.size)) (show w.heap.size ≤ w.heap.size + 1 by omega) (mgOf L).arr
      have hwr := R1.lt
      refine wpAnyH_ready (rs := [16]) (by kernel_rfl) (by simp) ?_
      refine AllReadyH.cons (o := ⟨_, _, _, _, _, _⟩) rfl (fun K hK => ?_) AllReadyH.nil
      refine step_want rfl (wp_store_row 95 (.tmp 2) (.tmp 37) rfl (w.heap.size + 1) (mgOf L).arr rfl rfl 95 _ R2 (s27 hok) (by rw [Mg.size hok, Mg.size mg0_ok]) (Mg.oneA _) ?_)
      refine hK.out _ _ ⟨(A1.below H2 A1.lt).setRowOther _ (by omega), (K1.below H2 K1.lt).setRowOther _ (by omega), (N1.below H2 N1.lt).setRowOther _ (by omega)⟩ (fun hHeld => ?_)
      clear hK K
      try simp only [Act.put, List.setIfInBounds_toArray, List.set_cons_zero, List.set_cons_succ]
      refine wpAnyH_done (by kernel_rfl) ?_ _
      go_wp2_with fail
      exact bodyPost_ret (v := .agg (mgOf L).arr) (res27 Try.results88 rfl hok R5) rfl ⟨rfl, hB5⟩
end Go.Proofs.Ytbhhbkoikocjgaa
/- Layer spec: what the layers below give. -/
namespace Go.Proofs.Ytbhhbkoikocjgaa
set_option linter.unusedSectionVars false
set_option maxHeartbeats 1000000
open Go.RowKit
set_option maxRecDepth 100000
set_option linter.unusedVariables false
set_option linter.unusedSimpArgs false

variable [DecidableEq Ac] [DecidableEq Ou] [DecidableEq Mg]
def RPost (L : List Int) (w : World) (e : Ending) (w' : World) : Prop := e = .returned (.tuple #[.agg (rdM L).arr, .int .i64 (rdE L)]) ∧ Below w.heap.size w w'
theorem rd_far {L : List Int} (h : L.length ≠ 104) : rdM L = mg0 ∧ rdE L = we L := by
  have h2 : ¬ (L.length = 104 ∧ goodM L = true) := fun h' => h h'.1
  refine ⟨by unfold rdM; rw [if_neg h2], ?_⟩
  unfold rdE we
  by_cases h3 : L.length < 104
  · rw [if_pos h3, if_pos h3]
  · rw [if_neg h3, if_neg h3, if_neg h2, if_pos (by omega)]
theorem rd_bad {L : List Int} (h : L.length = 104) (hg : goodM L = false) : rdM L = mg0 ∧ rdE L = 8 := by
  have h2 : ¬ (L.length = 104 ∧ goodM L = true) := fun h' => by rw [hg] at h'; exact absurd h'.2 (by simp)
  exact ⟨by unfold rdM; rw [if_neg h2], by unfold rdE; rw [if_neg (by omega), if_neg h2]⟩
theorem rd_good {L : List Int} (h : L.length = 104) (hg : goodM L = true) : rdM L = mgOf L ∧ rdE L = 0 :=
  ⟨by unfold rdM; rw [if_pos ⟨h, hg⟩], by unfold rdE; rw [if_neg (by omega), if_pos ⟨h, hg⟩]⟩
theorem RPost.far {L : List Int} {w w' : World} (h : L.length ≠ 104) (hb : Below w.heap.size w w') : RPost L w (.returned (.tuple #[.agg mg0.arr, .int .i64 (we L)])) w' := ⟨by rw [(rd_far h).1, (rd_far h).2], hb⟩
theorem RPost.bad {L : List Int} {w w' : World} (h : L.length = 104) (hg : goodM L = false) (hb : Below w.heap.size w w') : RPost L w (.returned (.tuple #[.agg mg0.arr, .int .i64 8])) w' := ⟨by rw [(rd_bad h hg).1, (rd_bad h hg).2], hb⟩
theorem RPost.good {L : List Int} {w w' : World} (h : L.length = 104) (hg : goodM L = true) (hb : Below w.heap.size w w') : RPost L w (.returned (.tuple #[.agg (mgOf L).arr, .int .i64 0])) w' := ⟨by rw [(rd_good h hg).1, (rd_good h hg).2], hb⟩
theorem we_ne {L : List Int} (h : L.length ≠ 104) : we L ≠ 0 := by
  unfold we
  by_cases h3 : L.length < 104
  · rw [if_pos h3]; omega
  · rw [if_neg h3, if_pos (by omega)]; omega
theorem we_eq {L : List Int} (h : L.length = 104) : we L = 0 := by
  unfold we; rw [if_neg (by omega), if_neg (by omega)]
theorem wordsC {L : List Int} {sp : Option Addr} {n cap N : Nat} {w : World} (hS : BS N w sp n cap L) {e : Int} {f : Nat → Int} (he : Hid (we L = e)) (hf : Hid (wv L = f)) :
    Calls Try.prog 87 #[.slice sp n cap] w fun r w' => r = .returned (.tuple #[.agg (u64s 13 f), .int .i64 e]) ∧ Below w.heap.size w w' := by
  have := words14_any sp n cap N L w hS
  rw [he.out, hf.out] at this
  exact this
theorem refWordsC {L : List Int} {sp : Option Addr} {n cap N : Nat} {w : World} (hS : BS N w sp n cap L) {e : Int} {f : Nat → Int} (he : Hid (we L = e)) (hf : Hid (wv L = f)) :
    Calls Try.prog 66 #[.slice sp n cap] w fun r w' => r = .returned (.tuple #[.agg (u64s 13 f), .int .i64 e]) ∧ Below w.heap.size w w' := by
  have := refWords15_any sp n cap N L w hS
  rw [he.out, hf.out] at this
  exact this
set_option maxHeartbeats 2000000 in
theorem read_any (sp : Option Addr) (n cap N : Nat) (L : List Int) (w : World) (hS : BS N w sp n cap L) : Calls Try.prog 64 #[.slice sp n cap] w (RPost L w) := by
  have R0 := Arr.new w 95 mg0.arr
  have hB0 := alloc_bel' w (.cells mg0.arr 95)
  have hS0 := (hS.here).below hB0
  have hbts := hS.bts
  have hlen := hS.len
  have z27 := zv27
  have hb0 := built27z
  have hsz0 := Mg.size mg0_ok
  go_enter Try.func64, Try.ntmps64
  by_cases hl : L.length = 104
  · have E := Hid.mk' (we_eq hl)
    have F := Hid.mk' (wv_yes hl)
    have hl := Hid.mk' hl
    go_upto_region 4 with (first
      | (go_at_call 87; go_must (refine (wordsC hS0 E F).mono ?_; rintro e w1 ⟨rfl, hb1⟩; have R1 := R0.bel hb1; have B1 := hB0.trans (hb1.mono (by simp)); clear R0 hB0 hS0))
      | (refine atS 131 (.tmp 4) (.tmp 10) ?_; refine st41n (by rfl) (.tmp 4) (.tmp 10) (by rfl) w1 w1.heap.size rfl (by rfl) (u64s 13 (wd L)) (by rfl) (by rfl) (u64s_size _ _) (u64s_one _ _) ?_))
    have A2 := Arr.new w1 131 (u64s 13 (wd L))
    have R2 := R1.alloc (.cells (u64s 13 (wd L)) 131)
    have B2 := B1.alloc B1.size (.cells (u64s 13 (wd L)) 131)
    generalize hG : w1.heap.size = G at A2 ⊢
    have hRG : w.heap.size < G := by rw [← hG]; exact R1.lt
    generalize w1.alloc (.cells (u64s 13 (wd L)) 131) = V at A2 R2 B2 ⊢
    clear R1 B1 hb1 hG
    have hok := mgOf_ok hbts hl.out
    go_upto_region 5 with (first
      | (refine atL 131 (.tmp 4) ?_; refine wpList_load_row (by rfl) 131 (.tmp 4) (by rfl) G (by rfl) 131 (u64s 13 (wd L)) (0, 0) _ A2 Try.underlying131 rfl (s41u _) ?_)
      | (go_at_call 88; go_must (refine (msgOf_any L _ hbts hl.out).mono ?_; rintro e w3 ⟨rfl, hb3⟩; have A3 := A2.bel hb3; have R3 := R2.bel hb3; have B3 := B2.trans (hb3.mono B2.size); clear A2 R2 B2))
      | (refine atS 95 (.tmp 6) (.tmp 17) ?_; refine st27n (by rfl) (.tmp 6) (.tmp 17) (by rfl) w3 w3.heap.size rfl hsz0 (mgOf L) (by rfl) (by rfl) hok ?_))
    have M4 := Arr.new w3 95 (mgOf L).arr
    have A4 := A3.alloc (.cells (mgOf L).arr 95)
    have R4 := R3.alloc (.cells (mgOf L).arr 95)
    have B4 := B3.alloc B3.size (.cells (mgOf L).arr 95)
    generalize hG2 : w3.heap.size = G2 at M4 ⊢
    have hRG2 : w.heap.size < G2 := by rw [← hG2]; exact R3.lt
    generalize w3.alloc (.cells (mgOf L).arr 95) = V4 at M4 A4 R4 B4 ⊢
    clear A3 R3 B3 hb3 hG2
    have c0 := mg_c0 M4
    have d0 : V4.cell? ⟨G, 0, none⟩ = some (.int .u64 (wd L 0)) := (A4.cell 0).trans (u64s_get (by omega))
    have k0 := hok.k0
    have k1 := hok.k1
    have kw : IntKind.u64.wrap (mgOf L).kd = (mgOf L).kd := wrap64_of k0 (by omega)
    have km : (mgOf L).kd % 18446744073709551616 = (mgOf L).kd := by omega
    have GK := Hid.mk' (goodM_kd hbts)
    generalize hkd : (mgOf L).kd = kd at c0 kw km GK k0 k1
    generalize hw0 : wd L 0 = x0 at d0 GK
    have hkd := Hid.mk' hkd
    have hw0 := Hid.mk' hw0
    by_cases hq : x0 = kd
    · have hq' : (kd != x0) = false := by simp [hq]
      subst hq
      cases hmay : (mgOf L).may
      · have hg : Hid (goodM L = false) := Hid.mk' (by rw [GK.out, hmay]; simp)
        go_wp2_with (first
          | (refine atL 95 (.tmp 6) ?_; refine ld27M (by rfl) (.tmp 6) (by rfl) G2 95 (by rfl) (mgOf L) hok M4 ?_)
          | (go_at_call 89; go_must (refine (may_anyM (mgOf L) _ hok).mono ?_; rintro e w5 ⟨rfl, hb5⟩; have R5 := R4.bel hb5; have B5 := B4.trans (hb5.mono B4.size)))
          | (refine atB 95 ?_; refine bdT (by rfl) 95 #[] (by rfl) (ps := []) (by rfl) hb0 ?_)
          | (refine atS 95 (.tmp 2) (.tmp 29) ?_; refine st27 (by rfl) (.tmp 2) (.tmp 29) (by rfl) w.heap.size mg0 (by rfl) (by rfl) mg0_ok hsz0 R5 ?_))
        exact bodyPost_ret (v := .tuple #[.agg mg0.arr, .int .i64 8]) (resM Try.results64 rfl rfl mg0_ok (R5.setRow _)) rfl (RPost.bad hl.out hg.out (below_setRow B5 (by omega) _))
      · have hg : Hid (goodM L = true) := Hid.mk' (by rw [GK.out, hmay]; simp)
        go_wp2_with (first
          | (refine atL 95 (.tmp 6) ?_; refine ld27M (by rfl) (.tmp 6) (by rfl) G2 95 (by rfl) (mgOf L) hok (by assumption) ?_)
          | (go_at_call 89; go_must (refine (may_anyM (mgOf L) _ hok).mono ?_; rintro e w5 ⟨rfl, hb5⟩; have R5 := R4.bel hb5; have B5 := B4.trans (hb5.mono B4.size); have M5 := M4.bel hb5))
          | (refine atS 95 (.tmp 2) (.tmp 30) ?_; refine st27 (by rfl) (.tmp 2) (.tmp 30) (by rfl) w.heap.size (mgOf L) (by rfl) (by rfl) hok hsz0 R5 ?_))
        exact bodyPost_ret (v := .tuple #[.agg (mgOf L).arr, .int .i64 0]) (resM Try.results64 rfl rfl hok (R5.setRow _)) rfl (RPost.good hl.out hg.out (below_setRow B5 (by omega) _))
    · have hq' : (kd != x0) = true := by simp; omega
      have hq2 : ¬ kd = x0 := fun h => hq h.symm
      have hg : Hid (goodM L = false) := Hid.mk' (by rw [GK.out]; simp [hq])
      go_wp2_with (first
        | (refine atB 95 ?_; refine bdT (by rfl) 95 #[] (by rfl) (ps := []) (by rfl) hb0 ?_)
        | (refine atS 95 (.tmp 2) (.tmp 29) ?_; refine st27 (by rfl) (.tmp 2) (.tmp 29) (by rfl) w.heap.size mg0 (by rfl) (by rfl) mg0_ok hsz0 R4 ?_))
      exact bodyPost_ret (v := .tuple #[.agg mg0.arr, .int .i64 8]) (resM Try.results64 rfl rfl mg0_ok (R4.setRow _)) rfl (RPost.bad hl.out hg.out (below_setRow B4 (by omega) _))
  · have F := Hid.mk' (wv_no hl)
    have hne := we_ne hl
    obtain ⟨ee, E⟩ : ∃ x, Hid (we L = x) := ⟨_, rfl⟩
    rw [E.out] at hne
    have HL := Hid.mk' hl
    go_wp2_with (first
      | (go_at_call 87; go_must (refine (wordsC hS0 E F).mono ?_; rintro e w1 ⟨rfl, hb1⟩; have R1 := R0.bel hb1; have B1 := hB0.trans (hb1.mono (by simp)); have R2 := R1.alloc (.cells (u64s 13 (fun _ => 0)) 131); have B2 := B1.alloc B1.size (.cells (u64s 13 (fun _ => 0)) 131); clear R0 hB0 hS0))
      | (refine atS 131 (.tmp 4) (.tmp 10) ?_; refine st41n (by rfl) (.tmp 4) (.tmp 10) (by rfl) w1 w1.heap.size rfl (by rfl) (u64s 13 (fun _ => 0)) (by rfl) (by rfl) (u64s_size _ _) (u64s_one _ _) ?_)
      | (refine atB 95 ?_; refine bdT (by rfl) 95 #[] (by rfl) (ps := []) (by rfl) hb0 ?_)
      | (refine atS 95 (.tmp 2) (.tmp 14) ?_; refine st27 (by rfl) (.tmp 2) (.tmp 14) (by rfl) w.heap.size mg0 (by rfl) (by rfl) mg0_ok hsz0 R2 ?_))
    have P := RPost.far HL.out (below_setRow B2 (Nat.le_refl _) mg0.arr)
    rw [E.out] at P
    exact bodyPost_ret (v := .tuple #[.agg mg0.arr, .int .i64 ee]) (resM Try.results64 rfl rfl mg0_ok (R2.setRow _)) rfl P
end Go.Proofs.Ytbhhbkoikocjgaa
