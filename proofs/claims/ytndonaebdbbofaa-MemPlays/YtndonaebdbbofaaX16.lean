/- Mz, Pa, Pd, Px, Sa, La, ZVa, ZVf, ZVl, ZVs, Aa, Pe. -/
import Derived.Test.YtndonaebdbbofaaX03
import Derived.Test.YtndonaebdbbofaaX06
import Derived.Test.YtndonaebdbbofaaX07
import Derived.Test.YtndonaebdbbofaaX11
import Derived.Test.YtndonaebdbbofaaX13
import Derived.Test.YtndonaebdbbofaaX15
import Derived.BigQuiet
import Derived.BigRegion
import Derived.ChangeKeysEq
import Derived.Deep.DeepCutAuto
import Derived.Deep.DrawnRows
import Derived.Deep.MidRow
import Derived.Deep.QuietTactic
import Derived.Deep.RegionHeld3
import Derived.Deep.RegionLaw
import Derived.Deep.RegionWith
import Derived.Deep.WholeRow
import Derived.Great.BuildSlice
import Derived.Great.FillDense
import Derived.Laws.AppendOwnNone
import Derived.Laws.BitsLemmas
import Derived.Laws.BytesArg
import Derived.Laws.CopyOwn
import Derived.Laws.CopyRow
import Derived.Laws.MakeOwn
import Derived.Laws.OwnMore
import Derived.Lib.SlBytesConst
import Derived.LoopIn
import Derived.LoopNIn
import Derived.OwnWalkIn
import Derived.RangeFuncBound
import Derived.RangeFuncCalls
import Derived.RangeFuncLeaves
import Derived.RangeFuncNested
import Derived.RangeFuncRecord
import Derived.Shelf.Abstract
import Derived.Shelf.RegionOpen
import Derived.TacticsInMore
import Derived.WalkKit
import Derived.WalkLawsBesides
import Derived.WalkSpells
import Derived.Test.YtndonaebdbbofaaX01
import Derived.Test.YtndonaebdbbofaaX10
import Derived.Laws.Tables
import Derived.Maps.AppendAt
import Derived.Test.YtndonaebdbbofaaRows
import Derived.DeepKeys3
import Derived.Laws.ResultCell
import Derived.Test.YtndonaebdbbofaaX09
import Derived.Recover
/- Layer mem: what the layers below give. -/
namespace Go.Proofs.Ytndonaebdbbofaa
open Go.RowKit Go.Shelf
set_option maxRecDepth 100000
set_option linter.unusedVariables false
set_option linter.unusedSimpArgs false
attribute [local go_sem] Oper.semAt_some

set_option maxRecDepth 100000 in
set_option maxHeartbeats 1000000 in
theorem refProof_bad (d i : Int) (N : Nat) (sp : Option Addr) (n cap : Nat) (ls : List (List Int)) (w : World) (hS : HS N w sp n cap ls) (h : pE d i n ≠ 0) :
    Calls Try.prog 37 #[.int .i64 d, .slice sp n cap, .int .i64 i] w fun e w' => e = .returned (.tuple #[.slice none 0 0, .int .i64 (pE d i n)]) ∧ Below w.heap.size w w' := by
  have hsm := hS.small
  clear hS
  unfold pE at h ⊢
  by_cases h1 : 0 ≤ d
  · by_cases h2 : d ≤ 16
    · obtain ⟨m, rfl⟩ : ∃ m : Nat, d = m := ⟨d.toNat, by omega⟩
      have hm : m ≤ 16 := by omega
      have hwp := wrap_pow hm
      have hbad := refBad_any m n
      unfold rE at hbad
      rw [if_pos ⟨h1, h2⟩] at hbad
      rw [Int.toNat_natCast] at h hbad ⊢
      obtain ⟨p, hp⟩ : ∃ p : Nat, p = 2 ^ m := ⟨_, rfl⟩
      rw [← hp] at hwp h hbad ⊢
      replace hp := Hid.mk' hp
      by_cases h3 : 0 ≤ i
      · by_cases h4 : i < p
        · rw [if_pos ⟨⟨h1, h2⟩, h3, h4⟩] at h ⊢
          by_cases h5 : n ≤ p
          · rw [if_pos h5] at h; exact absurd rfl h
          · rw [if_neg h5] at hbad ⊢
            clear h
            have h6 : ¬ (p : Int) ≤ i := by omega
            go_enter Try.func37, Try.ntmps37
            go_wp2_with (first
              | (go_at_call 58; go_must (refine (hbad _).mono ?_; rintro e w1 ⟨rfl, rfl⟩)))
            go_ret2
            exact ⟨rfl, Below.refl _ _⟩
        · rw [if_neg (fun hh => h4 hh.2.2)]
          clear h hbad
          have h6 : (p : Int) ≤ i := by omega
          go_enter Try.func37, Try.ntmps37
          go_wp2
          go_ret2
          exact ⟨rfl, Below.refl _ _⟩
      · rw [if_neg (fun hh => h3 hh.2.1)]
        clear h hbad
        go_enter Try.func37, Try.ntmps37
        go_wp2
        go_ret2
        exact ⟨rfl, Below.refl _ _⟩
    · rw [if_neg (fun hh => h2 hh.1.2)]
      clear h
      go_enter Try.func37, Try.ntmps37
      go_wp2
      go_ret2
      exact ⟨rfl, Below.refl _ _⟩
  · rw [if_neg (fun hh => h1 hh.1.1)]
    clear h
    go_enter Try.func37, Try.ntmps37
    go_wp2
    go_ret2
    exact ⟨rfl, Below.refl _ _⟩
theorem pE_cases {d i : Int} {n : Nat} (h : pE d i n = 0) : ∃ a b : Nat, d = a ∧ i = b ∧ a ≤ 16 ∧ b < 2 ^ a ∧ n ≤ 2 ^ a := by
  unfold pE at h
  by_cases h1 : (0 ≤ d ∧ d ≤ 16) ∧ 0 ≤ i ∧ i < (2 ^ d.toNat : Nat)
  · rw [if_pos h1] at h
    by_cases h2 : n ≤ 2 ^ d.toNat
    · exact ⟨d.toNat, i.toNat, by omega, by omega, by omega, by omega, h2⟩
    · rw [if_neg h2] at h; cases h
  · rw [if_neg h1] at h; cases h
/-- What both Proofs answer: the proof where there is one. -/
def pF (d i : Int) (ls : List (List Int)) : List (List Int) := if pE d i ls.length = 0 then pf d.toNat ls i.toNat else []
theorem pF_l32 {d i : Int} {ls : List (List Int)} (hl : ∀ x ∈ ls, x.length = 32) : ∀ x ∈ pF d i ls, x.length = 32 := by
  intro x hx
  unfold pF at hx
  split at hx
  · unfold pf at hx
    obtain ⟨k, -, rfl⟩ := List.mem_map.1 hx
    exact tr_len _ _ (fun y hy => hl y (List.mem_of_mem_drop hy))
  · cases hx
/-- An answer of Proof. -/
def PPost (d i : Int) (ls : List (List Int)) (w : World) (e : Ending) (w' : World) : Prop :=
  ∃ sp cap, e = .returned (.tuple #[.slice sp (pF d i ls).length cap, .int .i64 (pE d i ls.length)]) ∧ HS w'.heap.size w' sp (pF d i ls).length cap (pF d i ls) ∧ w'.ownsRow w.heap.size 43 32 (.slice sp (pF d i ls).length cap) (pF d i ls).length (flat32 (pF d i ls)) ∧ Below w.heap.size w w'
theorem refProof_any (d i : Int) (N : Nat) (sp : Option Addr) (n cap : Nat) (ls : List (List Int)) (w : World) (hS : HS N w sp n cap ls) : Calls Try.prog 37 #[.int .i64 d, .slice sp n cap, .int .i64 i] w (PPost d i ls w) := by
  have hln := hS.len.out
  by_cases h : pE d i ls.length = 0
  · obtain ⟨a, b, rfl, rfl, h1, h2, h3⟩ := pE_cases h
    have e : pF a b ls = pf a ls b := by unfold pF; rw [if_pos h]; simp
    have hl := pF_l32 (d := a) (i := b) hS.l32
    rw [e] at hl
    refine (refProof_ok a b N sp n cap ls w h1 h2 (by omega) hS).mono ?_
    rintro e' w' ⟨v, rfl, hown, hb⟩
    obtain ⟨sq, cq, rfl, hH, -⟩ := own_hs hown hl (by rw [pf_len]) (by omega)
    unfold PPost
    rw [e, h, pf_len]
    exact ⟨sq, cq, rfl, hH, hown, hb⟩
  · have e : pF d i ls = [] := by unfold pF; rw [if_neg h]
    refine (refProof_bad d i N sp n cap ls w hS (by rw [hln]; exact h)).mono ?_
    rintro e' w' ⟨rfl, hb⟩
    unfold PPost
    rw [e, ← hln]
    exact ⟨none, 0, rfl, HS.nil0 _ _, World.ownsRow_nil _ _ _ _, hb⟩
end Go.Proofs.Ytndonaebdbbofaa
/- Layer mem: what the layers below give. -/
namespace Go.Proofs.Ytndonaebdbbofaa
open Go.RowKit
set_option maxRecDepth 100000
set_option linter.unusedVariables false
set_option linter.unusedSimpArgs false

/-- A number in eight bytes. -/
def e8 (n : Int) : List Int := (List.range 8).map fun j => n / 2 ^ (56 - 8 * j) % 256
theorem e8_len (n : Int) : (e8 n).length = 8 := by simp [e8]
/-- A leaf. -/
def lf (b : List Int) : List Int := shl (0 :: b)
end Go.Proofs.Ytndonaebdbbofaa
/- Layer mem: what the layers below give. -/
namespace Go.Proofs.Ytndonaebdbbofaa
open Go.RowKit
set_option maxRecDepth 100000
set_option linter.unusedVariables false
set_option linter.unusedSimpArgs false

theorem e8_take {n : Int} {j : Nat} (hj : j < 8) : (e8 n).take (j + 1) = (e8 n).take j ++ [n / 2 ^ (56 - 8 * j) % 256] := by
  rw [List.take_add_one]
  congr 1
  simp [e8, hj]
end Go.Proofs.Ytndonaebdbbofaa
/- Layer mem: what the layers below give. -/
namespace Go.Proofs.Ytndonaebdbbofaa
open Go.RowKit
set_option maxRecDepth 100000
set_option linter.unusedVariables false
set_option linter.unusedSimpArgs false

set_option maxHeartbeats 1000000 in
theorem leaf_any (sp : Option Addr) (n cap : Nat) (L : List Int) (w : World) (hn : n = L.length) (hnil : sp = none → n = 0 ∧ cap = 0) (hS : SlL w sp L) (hb : n ≤ 140737488355000) :
    Calls Try.prog 56 #[.slice sp n cap] w fun e w' => e = .returned (.agg (sha (0 :: L))) ∧ Below w.heap.size w w' := by
  obtain ⟨i0, hi, hz0, hz1, hz2⟩ := info_parts info5
  have hnI : (n : Int) ≤ 140737488355000 := by omega
  have hn0 : (0 : Int) ≤ n := by omega
  have HN := Hid.mk' hn
  clear hn
  go_enter Try.func56, Try.ntmps56
  go_wp2_with (first
    | (at_make; go_must (refine wpList_make_own _ (by rfl) (.const (.int .i64 0)) (.tmp 6) 79 (by rfl) (w.heap.size + 1) 5 i0 (.int .u8 0) 1 Try.underlying79 hi hz0 hz1 .i64 .i64 _ (n + 1) (by rfl) (by rfl) (by omega) (by rw [hz2]; omega) (Nat.le_trans (by omega) maxLen_ge) (by simp) ?_; intro w1 hown1 hg1; have hown1 : w1.ownsRow (w.heap.size + 1) 5 1 (.slice (some ⟨w.heap.size + 1, 0, none⟩) 0 (n + 1)) 0 [] := (by simpa using hown1); have hs1 : w.heap.size + 1 ≤ w1.heap.size := (by have := hg1.size; simpa using this); have hZ1 : ∃ Z : Array Value, Z.size = 32 ∧ Arr w1 w.heap.size 43 Z := ⟨_, by rfl, (Arr.new w 43 _).grown hg1 (by simp)⟩; have hS1 : SlL w1 sp L := (Sl.alloc hS _).grown hg1 (fun _ _ _ _ => by simp); have hB1 : Below w.heap.size w w1 := ((Below.refl _ _).alloc (Nat.le_refl _) _).grown hg1 (by simp) (by simp)))
    | (at_builtin; refine append_bytes (by rfl) (.tmp 8) (.tmp 9) (by rfl) (w.heap.size + 1) _ 0 [] (by rfl) (hown1.alloc _) (some ⟨w1.heap.size, 0, none⟩) 1 1 [0] (by rfl) (by rfl) (fun h => by cases h) (Arr.sl (Arr.new w1 5 _)) (by omega) (by simp; omega) ?_; intro v2 w2 hown2 hg2; obtain ⟨Z, hZs, hZ1⟩ := hZ1; have hZ2 := (hZ1.alloc _).grown hg2 (ne_own hown1 (by omega)); have hS2 : SlL w2 sp L := (Sl.alloc hS1 _).grown hg2 (fun b off e h0 => ne_own hown1 (by subst e; have := Sl.lt hS h0; omega)); have hB2 := (hB1.alloc (by omega) _).grown hg2 (by simp; omega) (fun k e => by have := own_ge hown1 k e; omega); have hs2 : w.heap.size + 1 ≤ w2.heap.size := (by have := hg2.size; simp at this; omega))
    | (at_builtin; refine append_bytes (by rfl) (.tmp 11) (.tmp 12) (by rfl) (w.heap.size + 1) _ 1 [0] (by rfl) hown2 sp n cap L (by rfl) HN.out hnil hS2 (by omega) hs2 ?_; intro v3 w3 hown3 hg3; have hZ3 := hZ2.grown hg3 (ne_own hown2 (by omega)); have hB3 := hB2.grown hg3 (by omega) (fun k e => by have := own_ge hown2 k e; omega); obtain ⟨g, cap3, rfl, hn3, hcap3, hg, hBy, -⟩ := own_slice hown3 (by omega))
    | (go_at_call 52; go_must (refine (sum_n g 0 (1 + n) cap3 ([0] ++ L) _ hn3 hBy hcap3 (by omega)).mono ?_; rintro e w4 ⟨rfl, hb4⟩; have hZ4 := hZ3.below hb4 hZ3.lt))
    | (refine wpList_store_arr (by rfl) 43 (.tmp 2) (.tmp 14) (by rfl) w.heap.size (sha ([0] ++ L)) (by rfl) (by rfl) 43 Z hZ4 (s24sha _) (by rw [hZs, sha_size]) (sha_one _) ?_))
  exact bodyPost_ret (v := .agg (sha (0 :: L))) (results_cell_row Try.results56 _ _ w.heap.size 43 _ (0, 0) _ rfl (hZ4.setRow _) Try.underlying43 rfl (s24sha _)) rfl ⟨rfl, below_setRow (hB3.trans (hb4.mono hB3.size)) (Nat.le_refl _) _⟩
set_option maxHeartbeats 1000000 in
theorem refLeaf_any (sp : Option Addr) (n cap : Nat) (L : List Int) (w : World) (hn : n = L.length) (hnil : sp = none → n = 0 ∧ cap = 0) (hS : SlL w sp L) (hb : n ≤ 140737488354000) :
    Calls Try.prog 32 #[.slice sp n cap] w fun e w' => e = .returned (.agg (sha (0 :: L))) ∧ Below w.heap.size w w' := by
  have HN := Hid.mk' hn
  clear hn
  have hlit : ∀ o : Obj, ((w.alloc o).alloc (.cells #[.int .u8 0] 5)).ownsRow (w.heap.size + 1) 5 1 (.slice (some ⟨w.heap.size + 1, 0, none⟩) 1 1) 1 (by8 [0]) := fun o => by
    have h : ((w.alloc o).alloc (.cells #[.int .u8 0] 5)).ownsRow (w.heap.size + 1) 5 1 (.slice (some ⟨(w.alloc o).heap.size, 0, none⟩) 1 1) 1 (by8 [0]) := World.ownsRow_lit _ _ _ (by simp) (by unfold maxLen; omega) rfl
    simpa using h
  go_enter Try.func32, Try.ntmps32
  go_wp2_with (first
    | (at_builtin; go_must (refine append_bytes (by rfl) (.tmp 3) (.tmp 4) (by rfl) (w.heap.size + 1) _ 1 [0] (by rfl) (hlit _) sp n cap L (by rfl) HN.out hnil (Sl.alloc (Sl.alloc hS _) _) (by omega) (by simp) ?_; intro v2 w2 hown2 hg2; obtain ⟨g, c2, rfl, hn2, hc2, hgg, hBy, -⟩ := own_slice hown2 (by omega); have hZ2 : ∃ Z : Array Value, Z.size = 32 ∧ Arr w2 w.heap.size 43 Z := ⟨_, by rfl, ((Arr.new w 43 _).alloc _).grown hg2 (by simp [Value.ownBlock])⟩; have hB2 : Below w.heap.size w w2 := (((Below.refl _ _).alloc (Nat.le_refl _) _).alloc (by simp) _).grown hg2 (by simp; omega) (fun k e => by simp [Value.ownBlock] at e; omega)))
    | (go_at_call 54; go_must (refine (refSum_any (some ⟨g, 0, none⟩) (1 + n) c2 (0 :: L) _ hn2.out (fun h => by cases h) (fun _ => ⟨g, 0, rfl, hBy⟩) (by omega)).mono ?_; rintro e w3 ⟨rfl, hb3⟩; obtain ⟨Z, hZs, hZ2⟩ := hZ2; have hZ3 := hZ2.below hb3 hZ2.lt))
    | (refine wpList_store_arr (by rfl) 43 (.tmp 2) (.tmp 6) (by rfl) w.heap.size (sha (0 :: L)) (by rfl) (by rfl) 43 Z hZ3 (s24sha _) (by rw [hZs, sha_size]) (sha_one _) ?_))
  exact bodyPost_ret (v := .agg (sha (0 :: L))) (results_cell_row Try.results32 _ _ w.heap.size 43 _ (0, 0) _ rfl (hZ3.setRow _) Try.underlying43 rfl (s24sha _)) rfl ⟨rfl, below_setRow (hB2.trans (hb3.mono hB2.size)) (Nat.le_refl _) _⟩
end Go.Proofs.Ytndonaebdbbofaa
/- Layer mem: what the layers below give. -/
namespace Go.Proofs.Ytndonaebdbbofaa
open Go.RowKit
set_option maxRecDepth 100000
set_option linter.unusedVariables false
set_option linter.unusedSimpArgs false

set_option maxHeartbeats 1000000 in
theorem eight_any (n : Int) (w : World) :
    Calls Try.prog 53 #[.int .u64 n] w fun e w' => ∃ v', e = .returned v' ∧ w'.ownsRow w.heap.size 5 1 v' 8 (by8 (e8 n)) ∧ Below w.heap.size w w' := by
  go_enter Try.func53, Try.ntmps53
  go_wp2_with fail
  go_loopw [3, 4] (fun u q wr => ∃ j : Nat, q = .int .i64 (7 - (j : Int)) ∧ j ≤ 8 ∧ wr.ownsRow w.heap.size 5 1 u j (by8 ((e8 n).take j)) ∧ Below w.heap.size w wr) (fun _ q _ => (intOf q + 1).toNat)
  case atStart => exact ⟨0, rfl, by omega, World.ownsRow_nil _ _ _ _, Below.refl _ _⟩
  case round =>
    obtain ⟨j, rfl, hj, hou, hbl⟩ := hrel
    have hsz := hbl.size
    by_cases hlt : j < 8
    · obtain ⟨i, hi⟩ : ∃ i, i = 7 - j := ⟨_, rfl⟩
      rw [show (7 - (j : Int)) = (i : Int) by omega]
      have hs0 : (0 : Int) ≤ (i : Int) := by omega
      have hs1 : (i : Int) ≤ 7 := by omega
      have hw1 : IntKind.i64.wrap (8 * (i : Int)) = 8 * i := by rw [IntKind.wrap_i64]; omega
      have hw2 : (8 * (i : Int)) % 18446744073709551616 = 8 * i := by omega
      have hw3 : (8 * (i : Int)).toNat = 8 * i := by omega
      have het : Hid ((e8 n).take (j + 1) = (e8 n).take j ++ [n / 2 ^ (8 * i) % 256]) := Hid.mk' (by rw [e8_take hlt, show 56 - 8 * j = 8 * i by omega])
      have hij : Hid ((i : Int) - 1 = 7 - ((j + 1 : Nat) : Int)) := Hid.mk' (by omega)
      clear hi
      go_wp2_with (at_builtin; go_must (refine append_bytes (by rfl) (.tmp 9) (.tmp 16) (by rfl) w.heap.size _ j ((e8 n).take j) (by rfl) (hou.alloc _) (some ⟨wr.heap.size, 0, none⟩) 1 1 [n / 2 ^ (8 * i) % 256] (by rfl) (by rfl) (fun h => by cases h) (Arr.sl (Arr.new wr 5 _)) (by omega) (by simp; omega) ?_; intro v2 w2 hown2 hg2; have hB2 := (hbl.alloc hsz _).grown hg2 (by simp; omega) (fun k e => own_ge hou k e)))
      go_roundw
      case rel => exact ⟨j + 1, congrArg (Value.int .i64) hij.out, by omega, by rw [het.out]; exact hown2, hB2⟩
      case measure => first | (simp [intOf]; omega) | simp [intOf]
    · obtain rfl : j = 8 := by omega
      have e8' : Hid ((e8 n).take 8 = e8 n) := Hid.mk' (List.take_of_length_le (by rw [e8_len]; exact Nat.le_refl _))
      go_wp2_with fail
      go_ret
      exact ⟨_, rfl, by rw [← e8'.out]; exact hou, hbl⟩
theorem refLeaf_bs (sp : Option Addr) (n cap N : Nat) (L : List Int) (w : World) (hS : BS N w sp n cap L) (hn : n ≤ 1000) :
    Calls Try.prog 32 #[.slice sp n cap] w fun e w' => e = .returned (.agg (h8 (lf L))) ∧ Below w.heap.size w w' := by
  have h := refLeaf_any sp n cap L w hS.len.out hS.nil hS.sl (by omega)
  rw [sha_h8] at h
  exact h
end Go.Proofs.Ytndonaebdbbofaa
/- Layer mem: what the layers below give. -/
namespace Go.Proofs.Ytndonaebdbbofaa
open Go.RowKit
set_option maxRecDepth 100000
set_option linter.unusedVariables false
set_option linter.unusedSimpArgs false

/-- Nothing that was there has changed but some blocks. -/
structure Chg (S : Nat → Prop) (w w' : World) : Prop where
  os : w'.os = w.os
  tape : w'.tape = w.tape
  output : w'.output = w.output
  size : w.heap.size ≤ w'.heap.size
  block : ∀ b, b < w.heap.size → ¬ S b → w'.heap[b]? = w.heap[b]?
theorem Chg.refl (S : Nat → Prop) (w : World) : Chg S w w := ⟨rfl, rfl, rfl, Nat.le_refl _, fun _ _ _ => rfl⟩
theorem Chg.trans {S : Nat → Prop} {a b c : World} (h : Chg S a b) (k : Chg S b c) : Chg S a c :=
  ⟨k.os.trans h.os, k.tape.trans h.tape, k.output.trans h.output, Nat.le_trans h.size k.size, fun i hi hs => (k.block i (Nat.lt_of_lt_of_le hi h.size) hs).trans (h.block i hi hs)⟩
theorem Chg.mono {S T : Nat → Prop} {a b : World} (h : Chg S a b) (hST : ∀ i, i < a.heap.size → S i → T i) : Chg T a b :=
  ⟨h.os, h.tape, h.output, h.size, fun i hi ht => h.block i hi fun hs => ht (hST i hi hs)⟩
theorem Chg.of_below {S : Nat → Prop} {a b : World} (h : Below a.heap.size a b) : Chg S a b := ⟨h.os, h.tape, h.output, h.size, fun i hi _ => h.block i hi⟩
theorem Chg.below {S : Nat → Prop} {a b : World} {N : Nat} (h : Chg S a b) (hN : ∀ i, i < N → i < a.heap.size ∧ ¬ S i) : Below N a b := ⟨h.os, h.tape, h.output, h.size, fun i hi => h.block i (hN i hi).1 (hN i hi).2⟩
theorem Chg.alloc {S : Nat → Prop} {a b : World} (h : Chg S a b) (o : Obj) : Chg S a (b.alloc o) :=
  h.trans (Chg.of_below (alloc_bel' b o))
theorem Chg.grown {S : Nat → Prop} {a b c : World} {row : Option Nat} (h : Chg S a b) (hg : b.grownBy c row) (hr : ∀ k, k < a.heap.size → row = some k → S k) : Chg S a c :=
  ⟨hg.os.trans h.os, hg.tape.trans h.tape, hg.output.trans h.output, Nat.le_trans h.size hg.size, fun i hi hs => (hg.block i (Nat.lt_of_lt_of_le hi h.size) (fun e => hs (hr i hi e.symm))).trans (h.block i hi hs)⟩
end Go.Proofs.Ytndonaebdbbofaa
/- Layer mem: what the layers below give. -/
namespace Go.Proofs.Ytndonaebdbbofaa
open Go.RowKit
set_option maxRecDepth 100000
set_option linter.unusedVariables false
set_option linter.unusedSimpArgs false

/-- Is it a number of 64 bits? -/
def U64 (x : Int) : Prop := 0 ≤ x ∧ x < 18446744073709551616
theorem U64.wrap (x : Int) : U64 (IntKind.u64.wrap x) := by
  simp only [IntKind.wrap, IntKind.bits, IntKind.signed]
  unfold U64
  simp
  omega
end Go.Proofs.Ytndonaebdbbofaa
/- Layer mem: what the layers below give. -/
namespace Go.Proofs.Ytndonaebdbbofaa
open Go.RowKit
set_option maxRecDepth 100000
set_option linter.unusedVariables false
set_option linter.unusedSimpArgs false

/-- A machine, as numbers. -/
structure Mc where
  pc : Int
  rg : List Int
  st : Int
  me : List Int
structure Mc.ok (m : Mc) : Prop where
  pc : U64 m.pc
  r16 : m.rg.length = 16
  rg : ∀ k, U64 (m.rg.getD k 0)
  st : 0 ≤ m.st ∧ m.st < 256
  me : ∀ k, U64 (m.me.getD k 0)
/-- Words as they lie. -/
def by64 (L : List Int) : List Value := L.map (Value.int .u64)
theorem by64_len (L : List Int) : (by64 L).length = L.length := by simp [by64]
theorem by64_get {L : List Int} {t : Nat} (h : t < L.length) : (by64 L)[t]? = some (.int .u64 (L.getD t 0)) := by
  simp [by64, List.getElem?_eq_getElem h, List.getD_eq_getElem?_getD]
def mcL (m : Mc) (v : Value) : List Value := .int .u64 m.pc :: (by64 m.rg ++ [.int .u8 m.st, v])
theorem mcL_len {m : Mc} (h : m.rg.length = 16) (v : Value) : (mcL m v).length = 19 := by simp [mcL, by64_len, h]
theorem mcL_reg {m : Mc} (h : m.rg.length = 16) (v : Value) (X : List Value) {a : Nat} (ha : a < 16) : (mcL m v ++ X)[1 + a]? = some (.int .u64 (m.rg.getD a 0)) := by
  rw [List.getElem?_append_left (by rw [mcL_len h]; omega), mcL, Nat.add_comm, List.getElem?_cons_succ, List.getElem?_append_left (by rw [by64_len, h]; exact ha)]
  exact by64_get (by rw [h]; exact ha)
theorem mcL_st {m : Mc} (h : m.rg.length = 16) (v : Value) (X : List Value) : (mcL m v ++ X)[17]? = some (.int .u8 m.st) := by
  rw [List.getElem?_append_left (by rw [mcL_len h]; omega), mcL, List.getElem?_cons_succ, List.getElem?_append_right (by rw [by64_len, h]; omega), by64_len, h]
  rfl
theorem mcL_me {m : Mc} (h : m.rg.length = 16) (v : Value) (X : List Value) : (mcL m v ++ X)[18]? = some v := by
  rw [List.getElem?_append_left (by rw [mcL_len h]; omega), mcL, List.getElem?_cons_succ, List.getElem?_append_right (by rw [by64_len, h]; omega), by64_len, h]
  rfl
/-- Words in block gm. -/
def MW (w : World) (gm : Nat) (L : List Int) : Prop := ∃ C : Array Value, Arr w gm 30 C ∧ ∀ t, t < L.length → C[t]? = some (.int .u64 (L.getD t 0))
theorem MW.cell {w : World} {gm : Nat} {L : List Int} (h : MW w gm L) {t : Nat} (ht : t < L.length) : w.cell? ⟨gm, t, none⟩ = some (.int .u64 (L.getD t 0)) := by
  obtain ⟨C, hA, hC⟩ := h
  rw [hA.cell]; exact hC t ht
theorem MW.lt {w : World} {gm : Nat} {L : List Int} (h : MW w gm L) : gm < w.heap.size := by
  obtain ⟨C, hA, hC⟩ := h
  exact hA.lt
theorem MW.below {w w' : World} {gm B : Nat} {L : List Int} (h : MW w gm L) (hb : Below B w w') (hg : gm < B) : MW w' gm L := by
  obtain ⟨C, hA, hC⟩ := h
  exact ⟨C, hA.below hb hg, hC⟩
end Go.Proofs.Ytndonaebdbbofaa
/- Layer mem: what the layers below give. -/
namespace Go.Proofs.Ytndonaebdbbofaa
open Go.RowKit
set_option maxRecDepth 100000
set_option linter.unusedVariables false
set_option linter.unusedSimpArgs false

/-- A register; a register set, and on. -/
def Mc.get (m : Mc) (a : Nat) : Int := m.rg.getD a 0
end Go.Proofs.Ytndonaebdbbofaa
/- Layer mem: what the layers below give. -/
namespace Go.Proofs.Ytndonaebdbbofaa
open Go.RowKit
set_option maxRecDepth 100000
set_option linter.unusedVariables false
set_option linter.unusedSimpArgs false

/-- Words in memory, wherever. -/
structure MS (N : Nat) (w : World) (sp : Option Addr) (n cap : Nat) (L : List Int) : Prop where
  len : Hid (n = L.length)
  nil : sp = none → n = 0 ∧ cap = 0
  le : n ≤ cap
  big : cap ≤ 9223372036854775807
  small : n ≤ 17592186044416
  at0 : 0 < n → ∃ g off, sp = some ⟨g, off, none⟩ ∧ g < N ∧ ∀ t, t < n → w.cell? ⟨g, off + t, none⟩ = some (.int .u64 (L.getD t 0))
theorem MS.mono {N N' : Nat} {w : World} {sp : Option Addr} {n cap : Nat} {L : List Int} (h : MS N w sp n cap L) (hN : N ≤ N') : MS N' w sp n cap L :=
  ⟨h.len, h.nil, h.le, h.big, h.small, fun h0 => let ⟨b, off, e, hb, hB⟩ := h.at0 h0; ⟨b, off, e, by omega, hB⟩⟩
theorem MS.below {N : Nat} {w w' : World} {sp : Option Addr} {n cap : Nat} {L : List Int} (h : MS N w sp n cap L) (hb : Below N w w') : MS N w' sp n cap L :=
  ⟨h.len, h.nil, h.le, h.big, h.small, fun h0 => let ⟨b, off, e, hbN, hB⟩ := h.at0 h0; ⟨b, off, e, hbN, fun t ht => (hb.cell (p := ⟨b, off + t, none⟩) hbN).trans (hB t ht)⟩⟩
theorem MS.here {N : Nat} {w : World} {sp : Option Addr} {n cap : Nat} {L : List Int} (h : MS N w sp n cap L) : MS w.heap.size w sp n cap L :=
  ⟨h.len, h.nil, h.le, h.big, h.small, fun h0 => let ⟨b, off, e, hb, hB⟩ := h.at0 h0; ⟨b, off, e, block_lt_of_cell (hB 0 h0), hB⟩⟩
theorem MS.nil0 (N : Nat) (w : World) : MS N w none 0 0 [] := ⟨rfl, fun _ => ⟨rfl, rfl⟩, Nat.le_refl _, by omega, by omega, fun h => absurd h (by omega)⟩
theorem MW.ms {w : World} {gm n cap : Nat} {L : List Int} (h : MW w gm L) (hl : n = L.length) (hn : n ≤ 17592186044416) (hc : n ≤ cap ∧ cap ≤ 9223372036854775807) : MS w.heap.size w (some ⟨gm, 0, none⟩) n cap L :=
  ⟨hl, (fun e => by cases e), hc.1, hc.2, hn, fun _ => ⟨gm, 0, rfl, h.lt, fun t ht => by rw [Nat.zero_add]; exact h.cell (by omega)⟩⟩
/-- A machine by value. -/
def mcA (m : Mc) (sp : Option Addr) (n cap : Nat) : Array Value := (mcL m (.slice sp n cap)).toArray
theorem mcA_size {m : Mc} (h : m.rg.length = 16) (sp : Option Addr) (n cap : Nat) : (mcA m sp n cap).size = 19 := by simp [mcA, mcL_len h]
theorem mcA_one (m : Mc) (sp : Option Addr) (n cap : Nat) : (mcA m sp n cap).all (·.oneCell') = true := all_oneCell_toArray (by
  intro v hv
  simp only [mcL, by64, List.mem_cons, List.mem_append, List.mem_map, List.not_mem_nil, or_false] at hv
  rcases hv with rfl | ⟨x, -, rfl⟩ | rfl | rfl <;> rfl)
theorem mcA_0 (m : Mc) (sp : Option Addr) (n cap : Nat) : (mcA m sp n cap)[0]? = some (.int .u64 m.pc) := rfl
theorem mcA_r {m : Mc} (h : m.rg.length = 16) (sp : Option Addr) (n cap : Nat) {a : Nat} (ha : a < 16) : (mcA m sp n cap)[1 + a]? = some (.int .u64 (m.get a)) := by
  have := mcL_reg h (.slice sp n cap) [] ha
  rw [List.append_nil] at this
  simp only [mcA, List.getElem?_toArray]
  exact this
theorem mcA_17 {m : Mc} (h : m.rg.length = 16) (sp : Option Addr) (n cap : Nat) : (mcA m sp n cap)[17]? = some (.int .u8 m.st) := by
  have := mcL_st h (.slice sp n cap) []
  rw [List.append_nil] at this
  simpa [mcA] using this
theorem mcA_18 {m : Mc} (h : m.rg.length = 16) (sp : Option Addr) (n cap : Nat) : (mcA m sp n cap)[18]? = some (.slice sp n cap) := by
  have := mcL_me h (.slice sp n cap) []
  rw [List.append_nil] at this
  simpa [mcA] using this
theorem size45 : (Try.prog.info? 61).map (·.size) = some 19 := by kernel_rfl
theorem ld45 {ops : Array Oper} {rest : List Oper} {o : Oper} {a : Act} {w : World} {Q : Exit → Act → World → Prop} (hgd : o.guard = none) (x : Operand) (ho : o.op = .load 61 x)
    (g : Nat) (hx : a.eval x = .pointer (some ⟨g, 0, none⟩)) (C : Array Value) (hC : C.size = 19) (hA : Arr w g 61 C)
    (h : wpList Try.prog ops Q rest (a.put o.dst (.agg C)) w) : wpList Try.prog ops Q (o :: rest) a w :=
  wpList_load_row hgd 61 x ho g hx 61 C (0, 0) _ hA Try.underlying61 rfl (by rw [hC]; exact size45) h
theorem ld45g {ops : Array Oper} {rest : List Oper} {o : Oper} {a : Act} {w : World} {Q : Exit → Act → World → Prop} (hgd : Region.wanted o (yielded ops a.tmps) = true) (x : Operand) (ho : o.op = .load 61 x)
    (g : Nat) (hx : a.eval x = .pointer (some ⟨g, 0, none⟩)) (C : Array Value) (hC : C.size = 19) (hA : Arr w g 61 C)
    (h : wpList Try.prog ops Q rest (a.put o.dst (.agg C)) w) : wpList Try.prog ops Q (o :: rest) a w :=
  wpList_want hgd fun _ hK => wp_load_mid 61 x ho g 0 hx C.toList _ (fun j v hv => by rw [Nat.zero_add, hA.cell]; simpa using hv) Try.underlying61 rfl (by rw [Array.length_toList, hC]; exact size45) (hK _ _ (by simpa using h))
theorem st45 {ops : Array Oper} {rest : List Oper} {o : Oper} {a : Act} {w : World} {Q : Exit → Act → World → Prop} (hgd : o.guard = none) (x y : Operand) (ho : o.op = .store 61 x y)
    (g : Nat) (C : Array Value) (hx : a.eval x = .pointer (some ⟨g, 0, none⟩)) (hy : a.eval y = .agg C) (hC : C.size = 19) (h1 : C.all (·.oneCell') = true) (D : Array Value) (hD : D.size = 19) (hA : Arr w g 61 D)
    (h : wpList Try.prog ops Q rest (a.put o.dst undef) (w.setRow g C)) : wpList Try.prog ops Q (o :: rest) a w :=
  wpList_store_arr hgd 61 x y ho g C hx hy 61 D hA (by rw [hC]; exact size45) (by rw [hC, hD]) h1 h
theorem st45n {ops : Array Oper} {rest : List Oper} {o : Oper} {a : Act} {Q : Exit → Act → World → Prop} (hgd : o.guard = none) (x y : Operand) (ho : o.op = .store 61 x y) (W : World) (g : Nat) (hgW : W.heap.size = g) {z : Array Value} (hz : z.size = 19)
    (C : Array Value) (hx : a.eval x = .pointer (some ⟨g, 0, none⟩)) (hy : a.eval y = .agg C) (hC : C.size = 19) (h1 : C.all (·.oneCell') = true)
    (h : wpList Try.prog ops Q rest (a.put o.dst undef) (W.alloc (.cells C 61))) : wpList Try.prog ops Q (o :: rest) a (W.alloc (.cells z 61)) := by
  subst hgW
  exact wpList_store_new W z 61 hgd 61 x y ho C hx hy (by rw [hC]; exact size45) (by rw [hz, hC]) h1 h
theorem res45 {f : Func} {w : World} {tmps : Array Value} {g t k l : Nat} {C : Array Value} {v u : Value} (hf : f.results = #[.cell t 61, .tmp k, .tmp l]) (hp : tmps.getD t undef = .pointer (some ⟨g, 0, none⟩)) (hk : tmps.getD k undef = v) (hl : tmps.getD l undef = u) (hC : C.size = 19) (hA : Arr w g 61 C) :
    (results f tmps).run Try.prog w = .ok (.tuple #[.agg C, v, u]) w := by
  have hr := run_loadVar_mid (P := Try.prog) w g 0 61 C.toList _ (fun j v hv => by rw [Nat.zero_add, hA.cell]; simpa using hv) Try.underlying61 rfl (by rw [Array.length_toList, hC]; exact size45)
  have hp' : tmps[t]?.getD undef = .pointer (some ⟨g, 0, none⟩) := by simpa using hp
  have hk' : tmps[k]?.getD undef = v := by simpa using hk
  have hl' : tmps[l]?.getD undef = u := by simpa using hl
  simp [results, hf, hp', hk', hl', asAddr, hr]
theorem res45b {f : Func} {w : World} {tmps : Array Value} {g t k : Nat} {C : Array Value} {v : Value} (hf : f.results = #[.cell t 61, .tmp k]) (hp : tmps.getD t undef = .pointer (some ⟨g, 0, none⟩)) (hk : tmps.getD k undef = v) (hC : C.size = 19) (hA : Arr w g 61 C) :
    (results f tmps).run Try.prog w = .ok (.tuple #[.agg C, v]) w := by
  have hr := run_loadVar_mid (P := Try.prog) w g 0 61 C.toList _ (fun j v hv => by rw [Nat.zero_add, hA.cell]; simpa using hv) Try.underlying61 rfl (by rw [Array.length_toList, hC]; exact size45)
  have hp' : tmps[t]?.getD undef = .pointer (some ⟨g, 0, none⟩) := by simpa using hp
  have hk' : tmps[k]?.getD undef = v := by simpa using hk
  simp [results, hf, hp', hk', asAddr, hr]
theorem res45c {f : Func} {w : World} {tmps : Array Value} {g t : Nat} {C : Array Value} (hf : f.results = #[.cell t 61]) (hp : tmps.getD t undef = .pointer (some ⟨g, 0, none⟩)) (hC : C.size = 19) (hA : Arr w g 61 C) :
    (results f tmps).run Try.prog w = .ok (.agg C) w := results_cell_row hf _ _ g 61 _ (0, 0) _ hp hA Try.underlying61 rfl (by rw [hC]; exact size45)
/-- A memory of so many words may be. -/
def szB (n : Nat) : Bool := (List.range 13).any (fun k => n == 2 ^ k)
theorem szB_all : ((List.range 4097).all fun n => (decide (1 ≤ n) && (n &&& (n - 1) == 0)) == szB n) = true := by decide +kernel
theorem szB_and {n : Nat} (h : n ≤ 4096) : (decide (1 ≤ n) && (n &&& (n - 1) == 0)) = szB n := by
  have := szB_all
  rw [List.all_eq_true] at this
  have h2 := this n (by simp; omega)
  simpa using h2
theorem szB_le {n : Nat} (h : szB n = true) : 1 ≤ n ∧ n ≤ 4096 := by
  unfold szB at h
  rw [List.any_eq_true] at h
  obtain ⟨k, hk, e⟩ := h
  simp at hk e
  subst e
  have h1 : 0 < 2 ^ k := Nat.pow_pos (by omega)
  have h2 : 2 ^ k ≤ 2 ^ 12 := Nat.pow_le_pow_right (by omega) (by omega)
  omega
theorem and_i64 {a b : Nat} (ha : a < 4611686018427387904) (hb : b < 4611686018427387904) : bits .and .i64 (a : Int) (b : Int) = ((a &&& b : Nat) : Int) := by
  have e1 : (BitVec.ofInt 64 (a : Int)).toNat = a := by rw [BitVec.ofInt_natCast, BitVec.toNat_ofNat]; exact Nat.mod_eq_of_lt (by omega)
  have e2 : (BitVec.ofInt 64 (b : Int)).toNat = b := by rw [BitVec.ofInt_natCast, BitVec.toNat_ofNat]; exact Nat.mod_eq_of_lt (by omega)
  show IntKind.i64.wrap ((BitVec.ofInt 64 (a : Int) &&& BitVec.ofInt 64 (b : Int)).toNat : Int) = _
  rw [BitVec.toNat_and, e1, e2, IntKind.wrap_i64]
  have := Nat.and_le_left (n := a) (m := b)
  omega
/-- May this number of words be? of whatever number. -/
def szI (x : Int) : Bool := decide (0 ≤ x) && szB x.toNat
theorem szI_nat (n : Nat) : szI (n : Int) = szB n := by simp [szI]
set_option maxHeartbeats 400000 in
theorem maySize_any (x : Int) (w : World) (hx : -9223372036854775808 ≤ x ∧ x ≤ 9223372036854775807) : Calls Try.prog 68 #[.int .i64 x] w fun e w' => e = .returned (.bool (szI x)) ∧ w' = w := by
  by_cases h1 : 1 ≤ x
  · by_cases h2 : x ≤ 4096
    · obtain ⟨n, rfl⟩ : ∃ n : Nat, x = n := ⟨x.toNat, by omega⟩
      have hb := and_i64 (a := n) (b := n - 1) (by omega) (by omega)
      rw [show ((n - 1 : Nat) : Int) = (n : Int) - 1 by omega] at hb
      have hs := szB_and (n := n) (by omega)
      have hf : ((((n &&& (n - 1) : Nat) : Int)) == 0) = szI (n : Int) := by
        rw [szI_nat, ← hs, Bool.eq_iff_iff]
        simp
        omega
      replace hf := Hid.mk' hf
      clear hs
      go_enter Try.func68, Try.ntmps68
      go_wp2
      go_ret
      exact ⟨by rw [← hf.out]; rfl, rfl⟩
    · have hf : szI x = false := by
        cases h : szI x with
        | false => rfl
        | true =>
          unfold szI at h
          have := szB_le (by simpa using (Bool.and_eq_true_iff.1 h).2)
          omega
      rw [hf]
      clear hf
      go_enter Try.func68, Try.ntmps68
      go_wp2
      go_ret
      exact ⟨rfl, rfl⟩
  · have hf : szI x = false := by
      cases h : szI x with
      | false => rfl
      | true =>
        unfold szI at h
        have := szB_le (by simpa using (Bool.and_eq_true_iff.1 h).2)
        omega
    rw [hf]
    clear hf
    go_enter Try.func68, Try.ntmps68
    go_wp2
    go_ret
    exact ⟨rfl, rfl⟩
/-- May this machine be? -/
def mayM (m : Mc) : Bool := szB m.me.length && decide (m.st ≤ 2)
set_option maxHeartbeats 400000 in
theorem may_anyV (m : Mc) (sp : Option Addr) (n cap : Nat) (w : World) (hok : m.ok) (hl : Hid (n = m.me.length)) (hn : n ≤ 17592186044416) :
    Calls Try.prog 49 #[.agg (mcA m sp n cap)] w fun e w' => e = .returned (.bool (mayM m)) ∧ Below w.heap.size w w' := by
  have A0 := Arr.new w 61 (mcA m sp n cap)
  have c17 := (A0.cell 17).trans (mcA_17 hok.r16 sp n cap)
  have c18 := (A0.cell 18).trans (mcA_18 hok.r16 sp n cap)
  have hz : szI (n : Int) = szB m.me.length := by rw [szI_nat, hl.out]
  have hz := Hid.mk' hz
  unfold mayM
  generalize szB m.me.length = b at *
  generalize mcA m sp n cap = C at *
  cases b
  · go_enter Try.func49, Try.ntmps49
    go_wp2_with (go_at_call 68; go_must (refine (maySize_any _ _ (by omega)).mono ?_; rintro e w1 ⟨rfl, h⟩; subst h; rw [hz.out]))
    go_ret
    exact ⟨rfl, alloc_bel' _ _⟩
  · go_enter Try.func49, Try.ntmps49
    go_wp2_with (go_at_call 68; go_must (refine (maySize_any _ _ (by omega)).mono ?_; rintro e w1 ⟨rfl, h⟩; subst h; rw [hz.out]))
    go_ret
    exact ⟨rfl, alloc_bel' _ _⟩
end Go.Proofs.Ytndonaebdbbofaa
/- Layer mem: a memory's tree. Pure. -/
namespace Go.Proofs.Ytndonaebdbbofaa
open Go.RowKit
set_option maxRecDepth 100000
set_option linter.unusedVariables false
set_option linter.unusedSimpArgs false


/-- A word's leaf. -/
def lw (x : Int) : List Int := lf (e8 x)
theorem lw_len (x : Int) : (lw x).length = 32 := shl_len _
/-- The leaves of words. -/
def lvs (L : List Int) : List (List Int) := L.map lw
theorem lvs_len (L : List Int) : (lvs L).length = L.length := by simp [lvs]
theorem lvs_l32 (L : List Int) : ∀ x ∈ lvs L, x.length = 32 := by
  intro x hx
  obtain ⟨y, -, rfl⟩ := List.mem_map.1 hx
  exact lw_len y
theorem lvs_set (L : List Int) (i : Nat) (x : Int) : lvs (L.set i x) = (lvs L).set i (lw x) := by simp [lvs, List.map_set]
theorem lvs_app (L : List Int) (x : Int) : lvs (L ++ [x]) = lvs L ++ [lw x] := by simp [lvs]
/-- What stands at a place. -/
def tat (T : List (List Int)) (i : Nat) : List Int := T.getD i []
theorem tat_some {T : List (List Int)} {i : Nat} {X : List Int} (h : T[i]? = some X) : tat T i = X := by simp [tat, List.getD_eq_getElem?_getD, h]
theorem tat_get {T : List (List Int)} {i : Nat} (h : i < T.length) : T[i]? = some (tat T i) := by simp [tat, List.getD_eq_getElem?_getD, List.getElem?_eq_getElem h]
theorem tat_l32 {T : List (List Int)} {i : Nat} (hT : ∀ x ∈ T, x.length = 32) (h : i < T.length) : (tat T i).length = 32 := hT _ (List.mem_of_getElem? (tat_get h))
theorem tat_app1 {T : List (List Int)} {i : Nat} (X : List Int) (h : i < T.length) : tat (T ++ [X]) i = tat T i := by simp [tat, List.getD_eq_getElem?_getD, List.getElem?_append_left h]
theorem tat_app2 (T : List (List Int)) (X : List Int) : tat (T ++ [X]) T.length = X := by simp [tat, List.getD_eq_getElem?_getD]
theorem tat_set1 {T : List (List Int)} {i : Nat} (X : List Int) (h : i < T.length) : tat (T.set i X) i = X := by simp [tat, List.getD_eq_getElem?_getD, h]
theorem tat_set2 {T : List (List Int)} {i j : Nat} (X : List Int) (h : i ≠ j) : tat (T.set i X) j = tat T j := by simp [tat, List.getD_eq_getElem?_getD, List.getElem?_set_ne h]
theorem tat_lvs {L : List Int} {i : Nat} (h : i < L.length) : tat (lvs L) i = lw (L.getD i 0) := by
  simp [tat, lvs, List.getD_eq_getElem?_getD, List.getElem?_eq_getElem h]
/-- A tree's levels in one list, where P holds. -/
structure TI (n : Nat) (l T : List (List Int)) (P : Nat → Prop) : Prop where
  leaf : ∀ i, i < n → i < T.length → tat T i = tat l i
  node : ∀ k, n + k < T.length → P k → tat T (n + k) = pr (tat T (2 * k)) (tat T (2 * k + 1))
  l32 : ∀ x ∈ T, x.length = 32
theorem TI.nil (n : Nat) (l : List (List Int)) (P : Nat → Prop) : TI n l [] P := ⟨fun i _ h => by simp at h, fun k h => by simp at h, fun x h => by cases h⟩
theorem TI.appLeaf {n j : Nat} {l T : List (List Int)} {P : Nat → Prop} (h : TI n l T P) (hj : T.length = j) (hn : j < n) {X : List Int} (hX : X = tat l j) (h32 : X.length = 32) : TI n l (T ++ [X]) P := by
  subst hj
  refine ⟨fun i hi hil => ?_, fun k hk hP => ?_, fun x hx => ?_⟩
  · by_cases e : i = T.length
    · subst e; rw [tat_app2, hX]
    · have : i < T.length := by simp at hil; omega
      rw [tat_app1 _ this]; exact h.leaf i hi this
  · simp at hk; omega
  · rcases List.mem_append.1 hx with hx | hx
    · exact h.l32 x hx
    · simp at hx; subst hx; exact h32
theorem TI.appNode {n k : Nat} {l T : List (List Int)} (h : TI n l T (fun _ => True)) (hj : T.length = n + k) (hn : k + 1 < n) {X : List Int} (hX : X = pr (tat T (2 * k)) (tat T (2 * k + 1))) : TI n l (T ++ [X]) (fun _ => True) := by
  refine ⟨fun i hi hil => ?_, fun q hq _ => ?_, fun x hx => ?_⟩
  · rw [tat_app1 _ (by omega)]; exact h.leaf i hi (by omega)
  · by_cases e : q = k
    · subst e
      rw [← hj, tat_app2, tat_app1 _ (by omega), tat_app1 _ (by omega), hX]
    · have hq' : q < k := by simp at hq; omega
      rw [tat_app1 _ (by omega), tat_app1 _ (by omega), tat_app1 _ (by omega)]
      exact h.node q (by omega) trivial
  · rcases List.mem_append.1 hx with hx | hx
    · exact h.l32 x hx
    · simp at hx; subst hx; rw [hX]; exact pr_len _ _
theorem mem_set_or {T : List (List Int)} {i : Nat} {X x : List Int} (h : x ∈ T.set i X) : x = X ∨ x ∈ T := by
  rcases List.mem_or_eq_of_mem_set h with h | h
  · exact Or.inr h
  · exact Or.inl h
/-- A leaf is set: one pair is not right yet. -/
theorem TI.setLeaf {n i : Nat} {l T : List (List Int)} (h : TI n l T (fun _ => True)) (hi : i < n) (hT : n ≤ T.length) (hl : n ≤ l.length) {X : List Int} (h32 : X.length = 32) : TI n (l.set i X) (T.set i X) (fun k => k ≠ i / 2) := by
  refine ⟨fun j hj hjl => ?_, fun k hk hP => ?_, fun x hx => ?_⟩
  · by_cases e : i = j
    · subst e; rw [tat_set1 _ (by omega), tat_set1 _ (by omega)]
    · rw [tat_set2 _ e, tat_set2 _ e]; exact h.leaf j hj (by simpa using hjl)
  · rw [tat_set2 _ (by omega), tat_set2 _ (by omega), tat_set2 _ (by omega)]
    exact h.node k (by simpa using hk) trivial
  · rcases mem_set_or hx with rfl | hx
    · exact h32
    · exact h.l32 x hx
/-- .. and then the pair above. -/
theorem TI.setNode {n a : Nat} {l T : List (List Int)} (h : TI n l T (fun k => k ≠ a / 2)) (ha : a / 2 + 1 < n) (hT : T.length = 2 * n - 1) {X : List Int} (hX : X = pr (tat T (2 * (a / 2))) (tat T (2 * (a / 2) + 1))) : TI n l (T.set (n + a / 2) X) (fun k => k ≠ (n + a / 2) / 2) := by
  refine ⟨fun j hj hjl => ?_, fun k hk hP => ?_, fun x hx => ?_⟩
  · rw [tat_set2 _ (by omega)]; exact h.leaf j hj (by simpa using hjl)
  · by_cases e : k = a / 2
    · rw [e, tat_set1 _ (by omega), tat_set2 _ (by omega), tat_set2 _ (by omega), hX]
    · rw [tat_set2 _ (by omega), tat_set2 _ (by omega), tat_set2 _ (by omega)]
      exact h.node k (by simpa using hk) e
  · rcases mem_set_or hx with rfl | hx
    · rw [hX]; exact pr_len _ _
    · exact h.l32 x hx
theorem TI.done {n a : Nat} {l T : List (List Int)} (h : TI n l T (fun k => k ≠ a / 2)) (ha : ¬ a / 2 + 1 < n) (hT : T.length = 2 * n - 1) : TI n l T (fun _ => True) :=
  ⟨h.leaf, fun k hk _ => h.node k hk (by omega), h.l32⟩
/-- Where a level begins. -/
def lo (d k : Nat) : Nat := 2 ^ (d + 1) - 2 ^ (d + 1 - k)
theorem lo_zero (d : Nat) : lo d 0 = 0 := by simp [lo]
theorem lo_even {d k : Nat} (hk : k ≤ d) : ∃ q, lo d k = 2 * q ∧ 2 ^ d + q = lo d (k + 1) ∧ q + 2 ^ (d - k) = 2 ^ d := by
  obtain ⟨m, rfl⟩ : ∃ m, d = k + m := ⟨d - k, by omega⟩
  refine ⟨2 ^ (k + m) - 2 ^ m, ?_, ?_, ?_⟩
  · unfold lo
    rw [show k + m + 1 - k = m + 1 by omega, Nat.pow_succ, Nat.pow_succ]; omega
  · unfold lo
    have : 2 ^ m ≤ 2 ^ (k + m) := Nat.pow_le_pow_right (by omega) (by omega)
    rw [show k + m + 1 - (k + 1) = m by omega, Nat.pow_succ]; omega
  · have : 2 ^ m ≤ 2 ^ (k + m) := Nat.pow_le_pow_right (by omega) (by omega)
    rw [show k + m - k = m by omega]; omega
/-- What stands where. -/
theorem TI.val {d : Nat} {l T : List (List Int)} (h : TI (2 ^ d) l T (fun _ => True)) (hT : T.length = 2 * 2 ^ d - 1) (hl : l.length = 2 ^ d) (k : Nat) : k ≤ d → ∀ j, j < 2 ^ (d - k) → tat T (lo d k + j) = tr k (l.drop (j * 2 ^ k)) := by
  have hp : 0 < 2 ^ d := Nat.pow_pos (by omega)
  induction k with
  | zero =>
    intro _ j hj
    rw [Nat.sub_zero] at hj
    rw [lo_zero, Nat.zero_add, h.leaf j hj (by omega)]
    rw [Nat.pow_zero, Nat.mul_one, List.drop_eq_getElem_cons (by omega)]
    simp [tr, tat, List.getD_eq_getElem?_getD, List.getElem?_eq_getElem (show j < l.length by omega)]
  | succ k ih =>
    intro hk j hj
    obtain ⟨q, e1, e2, e3⟩ := lo_even (show k ≤ d by omega)
    have h2 : 2 ^ (d - k) = 2 * 2 ^ (d - (k + 1)) := by rw [show d - k = d - (k + 1) + 1 by omega, Nat.pow_succ]; omega
    have h3 : 0 < 2 ^ (d - (k + 1)) := Nat.pow_pos (by omega)
    rw [← e2, Nat.add_assoc, h.node (q + j) (by omega) trivial]
    have a1 := ih (by omega) (2 * j) (by omega)
    have a2 := ih (by omega) (2 * j + 1) (by omega)
    rw [e1] at a1 a2
    rw [show 2 * (q + j) = 2 * q + 2 * j by omega, a1, show 2 * q + 2 * j + 1 = 2 * q + (2 * j + 1) by omega, a2]
    exact tr_two k j l
/-- The root. -/
theorem TI.top {d : Nat} {l T : List (List Int)} (h : TI (2 ^ d) l T (fun _ => True)) (hT : T.length = 2 * 2 ^ d - 1) (hl : l.length = 2 ^ d) : tat T (2 * 2 ^ d - 2) = tr d l := by
  have := h.val hT hl d (Nat.le_refl _) 0 (by simp)
  rw [Nat.zero_mul, List.drop_zero, Nat.add_zero] at this
  rw [← this]
  congr 1
  unfold lo
  rw [show d + 1 - d = 1 by omega, Nat.pow_succ]; omega
/-- The way up from the leaf i. -/
def wy (d i k : Nat) : Nat := lo d k + i / 2 ^ k
theorem wy_zero (d i : Nat) : wy d i 0 = i := by simp [wy, lo_zero]
theorem div_lt_pow {d i k : Nat} (hi : i < 2 ^ d) (hk : k ≤ d) : i / 2 ^ k < 2 ^ (d - k) := by
  rw [Nat.div_lt_iff_lt_mul (Nat.pow_pos (by omega)), ← Nat.pow_add]
  rwa [show d - k + k = d by omega]
theorem wy_succ {d i k : Nat} (hk : k ≤ d) : wy d i (k + 1) = 2 ^ d + wy d i k / 2 := by
  obtain ⟨q, e1, e2, e3⟩ := lo_even hk
  unfold wy
  rw [← e2, e1, div_succ]
  omega
theorem wy_lt {d i k : Nat} (hi : i < 2 ^ d) (hk : k < d) : wy d i k + 2 < 2 * 2 ^ d := by
  obtain ⟨q, e1, e2, e3⟩ := lo_even (show k ≤ d by omega)
  have := div_lt_pow hi (show k ≤ d by omega)
  have h2 : 2 ^ (d - k) = 2 * 2 ^ (d - (k + 1)) := by rw [show d - k = d - (k + 1) + 1 by omega, Nat.pow_succ]; omega
  have h3 : 0 < 2 ^ (d - (k + 1)) := Nat.pow_pos (by omega)
  unfold wy
  rw [e1]
  omega
theorem wy_end {d i : Nat} (hi : i < 2 ^ d) : wy d i d = 2 * 2 ^ d - 2 := by
  unfold wy lo
  rw [Nat.div_eq_of_lt hi, show d + 1 - d = 1 by omega, Nat.pow_succ]; omega
theorem sib_wy {d i k : Nat} (hk : k ≤ d) : sib (wy d i k) = lo d k + sib (i / 2 ^ k) := by
  obtain ⟨q, e1, -, -⟩ := lo_even hk
  unfold wy sib
  rw [e1]
  generalize i / 2 ^ k = j
  split <;> split <;> omega
theorem sib_lt {m j : Nat} (h : j < 2 * m) : sib j < 2 * m := by unfold sib; split <;> omega
theorem TI.beside {d i k : Nat} {l T : List (List Int)} (h : TI (2 ^ d) l T (fun _ => True)) (hT : T.length = 2 * 2 ^ d - 1) (hl : l.length = 2 ^ d) (hi : i < 2 ^ d) (hk : k < d) : pf (k + 1) l i = pf k l i ++ [tat T (sib (wy d i k))] ∧ sib (wy d i k) < T.length := by
  have h1 := div_lt_pow hi (show k ≤ d by omega)
  have h2 : 2 ^ (d - k) = 2 * 2 ^ (d - (k + 1)) := by rw [show d - k = d - (k + 1) + 1 by omega, Nat.pow_succ]; omega
  rw [h2] at h1
  have h3 := sib_lt h1
  rw [pf_succ, sib_wy (show k ≤ d by omega), h.val hT hl k (by omega) _ (by omega)]
  refine ⟨rfl, ?_⟩
  obtain ⟨q, e1, e2, e3⟩ := lo_even (show k ≤ d by omega)
  rw [e1]
  have h4 : 0 < 2 ^ (d - (k + 1)) := Nat.pow_pos (by omega)
  omega
theorem szB_pow {n : Nat} (h : szB n = true) : ∃ d, d ≤ 12 ∧ n = 2 ^ d := by
  unfold szB at h
  rw [List.any_eq_true] at h
  obtain ⟨k, hk, e⟩ := h
  simp at hk e
  exact ⟨k, by omega, e⟩
theorem pow_szB {d : Nat} (h : d ≤ 12) : szB (2 ^ d) = true := by
  unfold szB
  rw [List.any_eq_true]
  exact ⟨d, by simp; omega, by simp⟩
/-- The root of words: what is answered where they may be. -/
def rW (L : List Int) : List Int := if szB L.length = true then tr (Nat.log2 L.length) (lvs L) else Z32
def eW (L : List Int) : Int := if szB L.length = true then 0 else 2
theorem rW_pow {L : List Int} {d : Nat} (hd : d ≤ 12) (h : L.length = 2 ^ d) : rW L = tr d (lvs L) ∧ eW L = 0 := by
  unfold rW eW
  rw [h, pow_szB hd, Nat.log2_two_pow]; simp
theorem rW_no {L : List Int} (h : szB L.length = false) : rW L = Z32 ∧ eW L = 2 := by
  unfold rW eW
  rw [h]; simp
theorem rW_len (L : List Int) : (rW L).length = 32 := by
  unfold rW; split
  · exact tr_len _ _ (lvs_l32 L)
  · exact Z32_len
end Go.Proofs.Ytndonaebdbbofaa
/- Layer mem: what the layers below give. -/
namespace Go.Proofs.Ytndonaebdbbofaa
open Go.RowKit
set_option maxRecDepth 100000
set_option linter.unusedVariables false
set_option linter.unusedSimpArgs false

/-- sha.Leaf, of bytes anywhere. -/
theorem leaf_bs (sp : Option Addr) (n cap N : Nat) (L : List Int) (w : World) (hS : BS N w sp n cap L) :
    Calls Try.prog 56 #[.slice sp n cap] w fun e w' => e = .returned (.agg (h8 (lf L))) ∧ Below w.heap.size w w' := by
  have h := leaf_any sp n cap L w hS.len.out hS.nil hS.sl hS.small
  rw [sha_h8] at h
  exact h
end Go.Proofs.Ytndonaebdbbofaa
