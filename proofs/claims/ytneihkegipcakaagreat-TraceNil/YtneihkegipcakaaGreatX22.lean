/- Mx, Al, Ao0, Ap. -/
import Derived.Test.YtneihkegipcakaaGreatX01
import Derived.Test.YtneihkegipcakaaGreatX02
import Derived.Test.YtneihkegipcakaaGreatX03
import Derived.Test.YtneihkegipcakaaGreatX04
import Derived.Test.YtneihkegipcakaaGreatX05
import Derived.Test.YtneihkegipcakaaGreatX08
import Derived.Test.YtneihkegipcakaaGreatX06
import Derived.Test.YtneihkegipcakaaGreatX21
import Derived.BigQuiet
import Derived.BigRegion
import Derived.ChangeKeysEq
import Derived.ChangeOld
import Derived.Deep.DeepCutAuto
import Derived.Deep.DrawnRows
import Derived.Deep.MidRow
import Derived.Deep.QuietTactic
import Derived.Deep.RegionHeld3
import Derived.Deep.RegionLaw
import Derived.Deep.RegionWith
import Derived.Deep.WholeRow
import Derived.Great.BuildSlice
import Derived.Great.FillDense
import Derived.Laws.AppendOwnNone
import Derived.Laws.BitsLemmas
import Derived.Laws.BytesArg
import Derived.Laws.CopyOwn
import Derived.Laws.CopyRow
import Derived.Laws.MakeOwn
import Derived.Laws.OwnMore
import Derived.Laws.Tables
import Derived.Lib.SlBytesConst
import Derived.LoopIn
import Derived.LoopNIn
import Derived.Maps.AppendAt
import Derived.OpenShut
import Derived.OwnWalkIn
import Derived.ProofKit
import Derived.RangeFuncBound
import Derived.RangeFuncCalls
import Derived.RangeFuncLeaves
import Derived.RangeFuncNested
import Derived.RangeFuncRecord
import Derived.Shelf.Abstract
import Derived.Shelf.RegionOpen
import Derived.ShutString
import Derived.SizedLaws
import Derived.TacticsInMore
import Derived.WalkKit
import Derived.WalkLawsBesides
import Derived.WalkSpells
import Derived.Test.YtneihkegipcakaaGreatX20
import Derived.Deep.OwnRows
import Derived.DeepKeys3
import Derived.Laws.DeepBits32
import Derived.Laws.ResultCell
import Derived.Lib.AppendZeros
import Derived.Recover
/- Layer trace: what the layers below give. -/
namespace Go.Proofs.YtneihkegipcakaaGreat
open Go.RowKit Go.Shelf
set_option maxRecDepth 100000
set_option linter.unusedVariables false
set_option linter.unusedSimpArgs false

set_option maxRecDepth 100000 in
set_option maxHeartbeats 400000 in
theorem refBad_any (d : Int) (n : Nat) (w : World) : Calls Tryz.prog 107 #[.int .i64 d, .int .i64 n] w fun e w' => e = .returned (.int .i64 (rE d n)) ∧ w' = w := by
  unfold rE
  by_cases h1 : 0 ≤ d
  · by_cases h2 : d ≤ 16
    · rw [if_pos ⟨h1, h2⟩]
      obtain ⟨m, rfl⟩ : ∃ m : Nat, d = m := ⟨d.toNat, by omega⟩
      have hm : m ≤ 16 := by omega
      have hwp := wrap_pow hm
      rw [Int.toNat_natCast]
      obtain ⟨p, hp⟩ : ∃ p : Nat, p = 2 ^ m := ⟨_, rfl⟩
      rw [← hp] at hwp ⊢
      replace hp := Hid.mk' hp
      by_cases h3 : n ≤ p
      · rw [if_pos h3]
        have h4 : ¬ (p : Int) < n := by omega
        go_enter Tryz.func107, Tryz.ntmps107
        go_wp2
        go_ret
        exact ⟨rfl, rfl⟩
      · rw [if_neg h3]
        have h4 : (p : Int) < n := by omega
        go_enter Tryz.func107, Tryz.ntmps107
        go_wp2
        go_ret
        exact ⟨rfl, rfl⟩
    · rw [if_neg (fun h => h2 h.2)]
      go_enter Tryz.func107, Tryz.ntmps107
      go_wp2
      go_ret
      exact ⟨rfl, rfl⟩
  · rw [if_neg (fun h => h1 h.1)]
    go_enter Tryz.func107, Tryz.ntmps107
    go_wp2
    go_ret
    exact ⟨rfl, rfl⟩
theorem HS.fst {N : Nat} {w : World} {sp : Option Addr} {n cap : Nat} {ls : List (List Int)} (h : HS N w sp n cap ls) (p : Nat) (hp : p ≤ n) : HS N w sp p cap (ls.take p) := by
  have hl := h.len.out
  refine ⟨show p = _ by rw [List.length_take]; omega, fun e => ?_, by have := h.le; omega, h.big, by have := h.small; omega, fun h0 => ?_, fun X hX => h.l32 X (List.mem_of_mem_take hX)⟩
  · have := h.nil e; exact ⟨by omega, this.2⟩
  · obtain ⟨g, off, e, hg, hR⟩ := h.at0 (by omega)
    refine ⟨g, off, e, hg, fun i X hX => hR i X ?_⟩
    have hi : i < p := by have := (List.getElem?_eq_some_iff.1 hX).1; rw [List.length_take] at this; omega
    rw [List.getElem?_take_of_lt hi] at hX; exact hX
set_option maxRecDepth 100000 in
set_option maxHeartbeats 4000000 in
/-- The document's root, whatever is given. -/
theorem refroot_any (d : Nat) : ∀ (N : Nat) (sp : Option Addr) (n cap : Nat) (ls : List (List Int)) (w : World) (x : Int), x = (d : Int) → d ≤ 16 → HS N w sp n cap ls →
    Calls Tryz.prog 108 #[.int .i64 x, .slice sp n cap] w fun e w' => e = .returned (.agg (h8 (tr d ls))) ∧ Below w.heap.size w w' := by
  induction d with
  | zero =>
    intro N sp n cap ls w x hx hd hS
    obtain rfl : x = 0 := hx
    have A0 := Arr.new w 40 (h8 Z32)
    have hb0 := alloc_bel' w (.cells (h8 Z32) 40)
    have hln := hS.len
    have hle := hS.le
    have hsm := hS.small
    by_cases h0 : 0 < n
    · obtain ⟨g, off, rfl, hgN, hR⟩ := (hS.here.below hb0).at0 h0
      have hlen : 0 < ls.length := by rw [← hln.out]; exact h0
      have hX := hR 0 ls[0] (List.getElem?_eq_getElem hlen)
      have hX32 := hS.l32 ls[0] (List.getElem_mem hlen)
      have e0 : tr 0 ls = ls[0] := by cases ls with | nil => simp at hlen | cons a r => rfl
      rw [e0]
      generalize ls[0] = X at *
      rw [Nat.zero_mul, Nat.add_zero] at hX
      have h0I : (0 : Int) < n := by omega
      rw [h8_Z] at hX A0 hb0
      go_enter Tryz.func108, Tryz.ntmps108
      go_wp2_with (first
        | (refine ld24 (by rfl) _ (by rfl) g off (by rfl) X hX32 hX ?_)
        | (refine st24n (by rfl) _ _ (by rfl) w w.heap.size rfl (by rfl) X (by rfl) (by rfl) hX32 ?_))
      exact bodyPost_ret (v := .agg (h8 X)) (res24 Tryz.results108 rfl hX32 (Arr.new w 40 _)) rfl ⟨rfl, alloc_bel' w _⟩
    · obtain rfl : n = 0 := by omega
      obtain rfl : ls = [] := List.eq_nil_of_length_eq_zero hln.out.symm
      have e0 : tr 0 [] = Z32 := rfl
      rw [e0]
      go_enter Tryz.func108, Tryz.ntmps108
      go_wp2_with (first
        | (refine st24n (by rfl) _ _ (by rfl) w w.heap.size rfl (by rfl) Z32 (by rfl) (by rfl) Z32_len ?_))
      exact bodyPost_ret (v := .agg (h8 Z32)) (res24 Tryz.results108 rfl Z32_len (Arr.new w 40 _)) rfl ⟨rfl, alloc_bel' w _⟩
  | succ d ih =>
    intro N sp n cap ls w x hx hd hS
    have hS := hS.here
    have A0 := Arr.new w 40 (h8 Z32)
    have hb0 := alloc_bel' w (.cells (h8 Z32) 40)
    have hln := hS.len
    have hle := hS.le
    have hsm := hS.small
    have hbig := hS.big
    have hx1 : x - 1 = (d : Int) := by omega
    have hx0 : ¬ x = 0 := by omega
    have hxl : 0 < x := by omega
    have hxu : x ≤ 17 := by omega
    have hd16 : d ≤ 16 := by omega
    have hwp := wrap_pow hd16
    have hp16 := pow16 hd16
    have hwd : IntKind.i64.wrap (d : Int) = d := by rw [IntKind.wrap_i64]; omega
    obtain ⟨p, hp⟩ : ∃ p : Nat, p = 2 ^ d := ⟨_, rfl⟩
    have hp0 : 0 < p := by rw [hp]; exact Nat.pow_pos (by omega)
    rw [← hp] at hwp hp16
    have hH0 := hS.below hb0
    have htl : ∀ l : List (List Int), (∀ X ∈ l, X.length = 32) → (tr d l).length = 32 := fun l hl => tr_len d l hl
    have hall := hS.l32
    replace hx := Hid.mk' hx
    by_cases h0 : n = 0
    · have hnil : ls = [] := List.eq_nil_of_length_eq_zero (by rw [← hln.out]; exact h0)
      rw [hnil, tr_nil]
      have hX := htl [] (fun X h => by cases h)
      have ihc := fun w x hx => ih _ none 0 0 [] w x hx hd16 (HS.nil0 w.heap.size w)
      generalize tr d [] = X at *
      have hXX := pr_len X X
      subst h0
      rw [h8_Z] at A0 hb0
      clear hH0
      go_enter Tryz.func108, Tryz.ntmps108
      go_wp2_with (first
        | (go_at_call 130; go_must (refine (refPair_h X X _ hX hX).mono ?_; rintro e w3 ⟨rfl, hb3⟩; have hs3 := hb3.size; simp at hs3; have S3 := A2.below hb3 (by simp; omega); have bw3 := bw2.trans (hb3.mono (by simp; omega))))
        | (go_at_call 108; go_must (refine (ihc _ _ (by first | exact hx1 | rfl | exact hwd)).mono ?_; rintro e w2 ⟨rfl, hb2⟩; have hs2 := hb2.size; simp at hs2; have A2 := (A0.below hb2 (by simp)).alloc (.cells (h8 X) 40); have V2 := Arr.new w2 40 (h8 X); have bw2 := (hb0.trans (hb2.mono (by simp))).alloc (by omega) (.cells (h8 X) 40)))
        | (refine st24 (by rfl) _ _ (by rfl) w.heap.size (pr X X) Z32 (by rfl) (by rfl) hXX Z32_len S3 ?_)
        | (refine st24n (by rfl) _ _ (by rfl) w2 w2.heap.size rfl (by rfl) X (by rfl) (by rfl) hX ?_)
        | (refine ld24 (by rfl) _ (by rfl) w2.heap.size 0 (by rfl) X hX V2.range ?_))
      exact bodyPost_ret (v := .agg (h8 (pr X X))) (res24 Tryz.results108 rfl hXX (S3.setRow _)) rfl ⟨rfl, below_setRow bw3 (Nat.le_refl _) _⟩
    · have h0I : ¬ (n : Int) = 0 := by omega
      by_cases h1 : n ≤ p
      · have h1I : (n : Int) ≤ p := by omega
        have e1 : tr (d + 1) ls = pr (tr d ls) (tr d []) := by rw [tr_succ, List.drop_eq_nil_of_le (by rw [← hln.out, ← hp]; exact h1)]
        rw [e1]
        replace hp := Hid.mk' hp
        have hX := htl [] (fun X h => by cases h)
        have hY := htl ls hall
        have ihc := fun w x hx => ih _ none 0 0 [] w x hx hd16 (HS.nil0 w.heap.size w)
        have ihd := fun N w x hx hS => ih N sp n cap ls w x hx hd16 hS
        generalize tr d [] = X at *
        generalize tr d ls = Y at *
        have hYX := pr_len Y X
        rw [h8_Z] at A0 hb0 hH0
        go_enter Tryz.func108, Tryz.ntmps108
        go_wp2_with (first
          | (go_at_call 130; go_must (refine (refPair_h Y X _ hY hX).mono ?_; rintro e w4 ⟨rfl, hb4⟩; have hs4 := hb4.size; have S4 := A3.below hb4 (by omega); have bw4 := bw3.trans (hb4.mono (by omega))))
          | (go_at_call 108; go_must (first
            | (refine (ihc w2 _ (by first | exact hx1 | rfl | exact hwd)).mono ?_; rintro e w3 ⟨rfl, hb3⟩; have hs3 := hb3.size; have A3 := A2.below hb3 (by omega); have bw3 := bw2.trans (hb3.mono (by omega)))
            | (refine (ihd _ _ _ (by first | exact hx1 | rfl | exact hwd) hH0).mono ?_; rintro e w2 ⟨rfl, hb2⟩; have hs2 := hb2.size; simp at hs2; have A2 := A0.below hb2 (by simp); have bw2 := hb0.trans (hb2.mono (by simp)))))
          | (refine st24 (by rfl) _ _ (by rfl) w.heap.size (pr Y X) Z32 (by rfl) (by rfl) hYX Z32_len S4 ?_))
        exact bodyPost_ret (v := .agg (h8 (pr Y X))) (res24 Tryz.results108 rfl hYX (S4.setRow _)) rfl ⟨rfl, below_setRow bw4 (Nat.le_refl _) _⟩
      · have h1I : ¬ (n : Int) ≤ p := by omega
        obtain ⟨g, off, rfl, hgN, hR⟩ := hS.at0 (by omega)
        have hc1 : ¬ cap = p := by omega
        have hc2 : p ≤ cap := by omega
        have hpn : p ≤ n := by omega
        have e1 : tr (d + 1) ls = pr (tr d (ls.take p)) (tr d (ls.drop p)) := by rw [hp]; rfl
        rw [e1]
        have hX1 := htl (ls.take p) (fun X hX => hall X (List.mem_of_mem_take hX))
        have hX2 := htl (ls.drop p) (fun X hX => hall X (List.mem_of_mem_drop hX))
        have hYX := pr_len (tr d (ls.take p)) (tr d (ls.drop p))
        rw [h8_Z] at A0 hb0 hH0
        have hF0 := hH0.fst p hpn
        have hG0 := hH0.part p (n - p) (cap - p) (by omega) (by omega) (by omega) (by omega)
        rw [List.take_of_length_le (by rw [List.length_drop, ← hln.out]; omega)] at hG0
        replace hp := Hid.mk' hp
        go_enter Tryz.func108, Tryz.ntmps108
        go_upto_region 11 with fail
        try simp only [hx1, hwp, Int.toNat_natCast]
        have hsV : w.heap.size < (w.alloc (.cells (h8 Z32) 40)).heap.size := by simp
        rw [h8_Z] at hsV
        generalize w.alloc (.cells _ 40) = V at *
        have hF1 : HS w.heap.size V.drew (some ⟨g, off, none⟩) p cap (ls.take p) := hF0.below ((Below.refl _ _).drew)
        have hF2 : HS V.heap.size V (some ⟨g, off + p * 32, none⟩) (n - p) (cap - p) (ls.drop p) := hG0.mono (by omega)
        refine wp_region_held_drew (S := fun _ => True) (by kernel_rfl) trivial (fun hHeld => ?_)
        refine wpAnyH_take (i := 0) (oi := ⟨_, _, _, _, _, _⟩) (v := ?_) rfl (by kernel_rfl) (by kernel_rfl) (by kernel_rfl) (fun _ _ _ h => h) (Or.inl ⟨by rfl, ?_⟩) (by assumption) ?_
        rotate_left
        · intro u hSw
          go_simp
          try (with_reducible rfl)
        try simp only [Act.put, List.setIfInBounds_toArray, List.set_cons_zero, List.set_cons_succ]
        refine wpAnyH_take (i := 1) (oi := ⟨_, _, _, _, _, _⟩) (v := ?_) rfl (by kernel_rfl) (by kernel_rfl) (by kernel_rfl) (fun _ _ _ h => h) (Or.inl ⟨by rfl, ?_⟩) (by assumption) ?_
        rotate_left
        · intro u hSw
          go_simp
          try (with_reducible rfl)
        try simp only [Act.put, List.setIfInBounds_toArray, List.set_cons_zero, List.set_cons_succ]
        refine wpAnyH_take (i := 2) (oi := ⟨_, _, _, _, _, _⟩) (v := ?_) rfl (by kernel_rfl) (by kernel_rfl) (by kernel_rfl) (fun _ _ _ h => h) (Or.inl ⟨by rfl, ?_⟩) (by assumption) ?_
        rotate_left
        · intro u hSw
          go_simp
          try (with_reducible rfl)
        try simp only [Act.put, List.setIfInBounds_toArray, List.set_cons_zero, List.set_cons_succ]
        refine wpAnyH_take (i := 3) (oi := ⟨_, _, _, _, _, _⟩) (v := ?_) rfl (by kernel_rfl) (by kernel_rfl) (by kernel_rfl) (fun _ _ _ h => h) (Or.inl ⟨by rfl, ?_⟩) (by assumption) ?_
        rotate_left
        · intro u hSw
          go_simp
          try (with_reducible rfl)
        try simp only [Act.put, List.setIfInBounds_toArray, List.set_cons_zero, List.set_cons_succ]
        refine wpAnyH_take (i := 4) (oi := ⟨_, _, _, _, _, _⟩) (v := ?_) rfl (by kernel_rfl) (by kernel_rfl) (by kernel_rfl) (fun _ _ _ h => h) (Or.inl ⟨by rfl, ?_⟩) (by assumption) ?_
        rotate_left
        · intro u hSw
          go_simp
          try (with_reducible rfl)
        try simp only [Act.put, List.setIfInBounds_toArray, List.set_cons_zero, List.set_cons_succ]
        refine wpAnyH_take (i := 6) (oi := ⟨_, _, _, _, _, _⟩) (v := ?_) rfl (by kernel_rfl) (by kernel_rfl) (by kernel_rfl) (fun _ _ _ h => h) (Or.inl ⟨by rfl, ?_⟩) (by assumption) ?_
        rotate_left
        · intro u hSw
          go_simp
          try (with_reducible rfl)
        try simp only [Act.put, List.setIfInBounds_toArray, List.set_cons_zero, List.set_cons_succ]
        refine wpAnyH_take (i := 7) (oi := ⟨_, _, _, _, _, _⟩) (v := ?_) rfl (by kernel_rfl) (by kernel_rfl) (by kernel_rfl) (fun _ _ _ h => h) (Or.inl ⟨by rfl, ?_⟩) (by assumption) ?_
        rotate_left
        · intro u hSw
          go_simp
          try (with_reducible rfl)
        try simp only [Act.put, List.setIfInBounds_toArray, List.set_cons_zero, List.set_cons_succ]
        refine wpAnyH_take (i := 8) (oi := ⟨_, _, _, _, _, _⟩) (v := ?_) rfl (by kernel_rfl) (by kernel_rfl) (by kernel_rfl) (fun _ _ _ h => h) (Or.inl ⟨by rfl, ?_⟩) (by assumption) ?_
        rotate_left
        · intro u hSw
          go_simp
          try (with_reducible rfl)
        try simp only [Act.put, List.setIfInBounds_toArray, List.set_cons_zero, List.set_cons_succ]
        refine wpAnyH_take (i := 9) (oi := ⟨_, _, _, _, _, _⟩) (v := ?_) rfl (by kernel_rfl) (by kernel_rfl) (by kernel_rfl) (fun _ _ _ h => h) (Or.inl ⟨by rfl, ?_⟩) (by assumption) ?_
        rotate_left
        · intro u hSw
          go_simp
          try (with_reducible rfl)
        try simp only [Act.put, List.setIfInBounds_toArray, List.set_cons_zero, List.set_cons_succ]
        refine wpAnyH_take (i := 10) (oi := ⟨_, _, _, _, _, _⟩) (v := ?_) rfl (by kernel_rfl) (by kernel_rfl) (by kernel_rfl) (fun _ _ _ h => h) (Or.inl ⟨by rfl, ?_⟩) (by assumption) ?_
        rotate_left
        · intro u hSw
          go_simp
          try (with_reducible rfl)
        try simp only [Act.put, List.setIfInBounds_toArray, List.set_cons_zero, List.set_cons_succ]
        refine wpAnyH_ready (rs := [5]) (by kernel_rfl) (by simp) ?_
        refine AllReadyH.cons (o := ⟨_, _, _, _, _, _⟩) rfl (fun K hK => ?_) AllReadyH.nil
        go_simp
        refine (ih _ _ p cap (ls.take p) _ _ (by first | exact hx1 | rfl | exact hwd) (by omega) hF1).mono ?_; rintro e u1 ⟨rfl, hu1⟩; have hsu1 := hu1.size; simp at hsu1; have hH1 : Below V.heap.size V u1 := ((Below.refl V.heap.size V).drew).trans (hu1.mono (by simp))
        go_wp2_with fail
        refine hK.out _ _ trivial (fun hHeld => ?_)
        clear hK K
        try simp only [Act.put, List.setIfInBounds_toArray, List.set_cons_zero, List.set_cons_succ]
        refine wpAnyH_ready (rs := [11]) (by kernel_rfl) (by simp) ?_
        refine AllReadyH.cons (o := ⟨_, _, _, _, _, _⟩) rfl (fun K hK => ?_) AllReadyH.nil
        go_simp
        refine (ih _ _ (n - p) (cap - p) (ls.drop p) _ _ (by first | exact hx1 | rfl | exact hwd) (by omega) (hF2.below hH1)).mono ?_; rintro e u2 ⟨rfl, hu2⟩; have hsu2 := hu2.size; have hH2 : Below V.heap.size V u2 := hH1.trans (hu2.mono (by omega))
        go_wp2_with fail
        refine hK.out _ _ trivial (fun hHeld => ?_)
        clear hK K
        try simp only [Act.put, List.setIfInBounds_toArray, List.set_cons_zero, List.set_cons_succ]
        refine wpAnyH_ready (rs := [12]) (by kernel_rfl) (by simp) ?_
        refine AllReadyH.cons (o := ⟨_, _, _, _, _, _⟩) rfl (fun K hK => ?_) AllReadyH.nil
        go_simp
        refine (refPair_h _ _ _ hX1 hX2).mono ?_; rintro e u3 ⟨rfl, hu3⟩; have hsu3 := hu3.size; have hH3 : Below V.heap.size V u3 := hH2.trans (hu3.mono (by omega)); have S3 := A0.below hH3 (by omega)
        go_wp2_with fail
        refine hK.out _ _ trivial (fun hHeld => ?_)
        clear hK K
        try simp only [Act.put, List.setIfInBounds_toArray, List.set_cons_zero, List.set_cons_succ]
        refine wpAnyH_ready (rs := [13]) (by kernel_rfl) (by simp) ?_
        refine AllReadyH.cons (o := ⟨_, _, _, _, _, _⟩) rfl (fun K hK => ?_) AllReadyH.nil
        refine step_want rfl (wp_store_row 40 (.tmp 4) (.tmp 53) rfl w.heap.size (h8 (pr (tr d (ls.take p)) (tr d (ls.drop p)))) rfl rfl 40 _ S3 (s24h8 (pr_len _ _)) (by rw [h8_size, pr_len]; rfl) (h8_one _) ?_)
        refine hK.out _ _ trivial (fun hHeld => ?_)
        clear hK K
        try simp only [Act.put, List.setIfInBounds_toArray, List.set_cons_zero, List.set_cons_succ]
        refine wpAnyH_done (by kernel_rfl) ?_ _
        go_wp2_with fail
        exact bodyPost_ret (v := .agg (h8 (pr (tr d (ls.take p)) (tr d (ls.drop p))))) (res24 Tryz.results108 rfl hYX (S3.setRow _)) rfl ⟨rfl, below_setRow (hb0.trans (hH3.mono (by omega))) (Nat.le_refl _) _⟩
set_option maxRecDepth 100000 in
set_option maxHeartbeats 1000000 in
/-- The document's Root. -/
theorem refRoot_any (d : Int) (N : Nat) (sp : Option Addr) (n cap : Nat) (ls : List (List Int)) (w : World) (hS : HS N w sp n cap ls) :
    Calls Tryz.prog 79 #[.int .i64 d, .slice sp n cap] w fun e w' => e = .returned (.tuple #[.agg (h8 (rR d ls)), .int .i64 (rE d ls.length)]) ∧ Below w.heap.size w w' := by
  have hln := hS.len
  have hbd := refBad_any d n
  rw [← hln.out]
  have hb0 := alloc_bel' w (.cells (h8 Z32) 40)
  have hH0 := hS.here.below hb0
  have A0 := Arr.new w 40 (h8 Z32)
  have hRL := rR_len (d := d) hS.l32
  by_cases h : rE d n = 0
  · have e1 : rR d ls = tr d.toNat ls := by unfold rR; rw [← hln.out, if_pos h]
    have hd : 0 ≤ d ∧ d ≤ 16 := by
      unfold rE at h
      by_cases h2 : 0 ≤ d ∧ d ≤ 16
      · exact h2
      · rw [if_neg h2] at h; cases h
    have hr := refroot_any d.toNat w.heap.size sp n cap ls (w.alloc (.cells (h8 Z32) 40)) d (by omega) (by omega) hH0
    rw [← e1] at hr
    rw [h] at hbd ⊢
    clear e1 h
    generalize rR d ls = R at *
    rw [h8_Z] at hr hb0 A0
    clear hH0
    replace hr := Hid.mk' hr
    go_enter Tryz.func79, Tryz.ntmps79
    go_wp2_with (first
      | (go_at_call 107; go_must (refine (hbd _).mono ?_; rintro e w1 ⟨rfl, rfl⟩))
      | (go_at_call 108; go_must (refine hr.out.mono ?_; rintro e w2 ⟨rfl, hb2⟩; have S2 := A0.below hb2 (by simp)))
      | (refine st24 (by rfl) _ _ (by rfl) w.heap.size R Z32 (by rfl) (by rfl) hRL Z32_len S2 ?_))
    exact bodyPost_ret (v := .tuple #[.agg (h8 R), .int .i64 0]) (resP Tryz.results79 rfl rfl hRL (S2.setRow _)) rfl ⟨rfl, below_setRow (hb0.trans (hb2.mono (by simp))) (Nat.le_refl _) _⟩
  · have e1 : rR d ls = Z32 := by unfold rR; rw [← hln.out, if_neg h]
    rw [e1]
    generalize rE d n = c at *
    have hc : (c != 0) = true := by simpa using h
    rw [h8_Z] at hb0 A0
    clear hH0
    go_enter Tryz.func79, Tryz.ntmps79
    go_wp2_with (first
      | (go_at_call 107; go_must (refine (hbd _).mono ?_; rintro e w1 ⟨rfl, rfl⟩))
      | (refine st24n (by rfl) _ _ (by rfl) w w.heap.size rfl (by rfl) Z32 (by rfl) (by rfl) Z32_len ?_))
    exact bodyPost_ret (v := .tuple #[.agg (h8 Z32), .int .i64 c]) (resP Tryz.results79 rfl rfl Z32_len (Arr.new w 40 _)) rfl ⟨rfl, alloc_bel' w _⟩
end Go.Proofs.YtneihkegipcakaaGreat
/- Layer trace: what the layers below give. -/
namespace Go.Proofs.YtneihkegipcakaaGreat
open Go.RowKit
set_option maxRecDepth 100000
set_option linter.unusedVariables false
set_option linter.unusedSimpArgs false

set_option maxHeartbeats 1000000 in
theorem refRootM_any (sp : Option Addr) (n cap : Nat) (L : List Int) (N : Nat) (w : World) (hM : MS N w sp n cap L) :
    Calls Tryz.prog 46 #[.slice sp n cap] w fun e w' => e = .returned (.tuple #[.agg (h8 (rW L)), .int .i64 (eW L)]) ∧ Below w.heap.size w w' := by
  have hsm := hM.small
  have hsz := fun w => refSize_any (n : Int) w (by omega)
  rw [szI_nat, hM.len.out] at hsz
  have A0 := Arr.new w 40 (h8 Z32)
  have hb0 := alloc_bel' w (.cells (h8 Z32) 40)
  rw [← hM.len.out] at hsz
  have hM0 := hM.here.below hb0
  rw [h8_Z] at A0 hb0 hM0
  have hl := hM.len.out
  cases h : szB L.length with
  | true =>
    rw [← hl] at h
    rw [h] at hsz
    obtain ⟨d, hd, e⟩ := szB_pow h
    have hn4 : n ≤ 4096 := by rw [e]; exact pow12 hd
    have hR := rW_pow (L := L) hd (by rw [← hl, e])
    have hrr := rR_okM hd (show (lvs L).length = 2 ^ d by rw [lvs_len, ← hl, e])
    have hrt := fun (s : Option Addr) (c : Nat) (U : World) (h : HS U.heap.size U s n c (lvs L)) => refRoot_any (d : Int) U.heap.size s n c (lvs L) U h
    rw [hrr.1, hrr.2, ← hR.1] at hrt
    rw [hR.2]
    have hRl := rW_len L
    have hdep := fun w => refDepth_any d n hd (Hid.mk' e) w
    have hlv := refLeaves_anyM sp n cap L w.heap.size _ hM0 hn4
    clear hrr hR h e hl hM
    generalize rW L = R at *
    go_enter Tryz.func46, Tryz.ntmps46
    go_wp2_with (first
      | (go_at_call 42; go_must (refine (hsz _).mono ?_; rintro e w1 ⟨rfl, h⟩; replace h := h.symm; subst h))
      | (go_at_call 47; go_must (refine (hdep _).mono ?_; rintro e w1 ⟨rfl, h⟩; replace h := h.symm; subst h))
      | (go_at_call 80; go_must (refine hlv.mono ?_; rintro e w2 ⟨s2, c2, rfl, hH2, hb2⟩; have A2 := A0.below hb2 (by simp); have hB2 := hb0.trans (hb2.mono (by simp))))
      | (go_at_call 79; go_must (refine (hrt _ _ _ hH2).mono ?_; rintro e w3 ⟨rfl, hb3⟩; have A3 := A2.below hb3 A2.lt; have hB3 := hB2.trans (hb3.mono (by have := A2.lt; omega)); have A4 := A3.alloc (.cells (h8 R) 40); have A5 := Arr.new w3 40 (h8 R)))
      | (refine st24n (by rfl) _ _ (by rfl) w3 w3.heap.size rfl (by rfl) R (by rfl) (by rfl) hRl ?_)
      | (refine ld24 (by rfl) _ (by rfl) w3.heap.size 0 (by rfl) R hRl A5.range ?_)
      | (refine st24 (by rfl) _ _ (by rfl) w.heap.size R Z32 (by rfl) (by rfl) hRl Z32_len A4 ?_))
    exact bodyPost_ret (v := .tuple #[.agg (h8 R), .int .i64 0]) (resP Tryz.results46 rfl rfl hRl (A4.setRow _)) rfl ⟨rfl, below_setRow (hB3.alloc (by have := A3.lt; omega) _) (Nat.le_refl _) _⟩
  | false =>
    rw [(rW_no h).1, (rW_no h).2]
    rw [← hl] at h
    rw [h] at hsz
    clear h hl hM hM0
    go_enter Tryz.func46, Tryz.ntmps46
    go_wp2_with (first
      | (go_at_call 42; go_must (refine (hsz _).mono ?_; rintro e w1 ⟨rfl, h⟩; replace h := h.symm; subst h))
      | (refine st24 (by rfl) _ _ (by rfl) w.heap.size Z32 Z32 (by rfl) (by rfl) Z32_len Z32_len A0 ?_))
    exact bodyPost_ret (v := .tuple #[.agg (h8 Z32), .int .i64 2]) (resP Tryz.results46 rfl rfl Z32_len (A0.setRow _)) rfl ⟨rfl, below_setRow hb0 (Nat.le_refl _) _⟩
end Go.Proofs.YtneihkegipcakaaGreat
/- Layer trace: what the layers below give. -/
namespace Go.Proofs.YtneihkegipcakaaGreat
open Go.RowKit
set_option maxRecDepth 100000
set_option linter.unusedVariables false
set_option linter.unusedSimpArgs false

/-- The bytes of a commitment. -/
def cmB (pc : Int) (rg : List Int) (s d : Int) (R : List Int) : List Int := (([2] ++ e8 pc) ++ rg.flatMap e8) ++ [s, d] ++ R
def cmt (pc : Int) (rg : List Int) (s d : Int) (R : List Int) : List Int := shl (cmB pc rg s d R)
/-- May a commitment be? -/
abbrev cOK (s d : Int) : Prop := 0 ≤ d ∧ d ≤ 12 ∧ s ≤ 2
def cmR (pc : Int) (rg : List Int) (s d : Int) (R : List Int) : List Int := if cOK s d then cmt pc rg s d R else Z32
def cmE (s d : Int) : Int := if cOK s d then 0 else 2
theorem flatMap_len (rg : List Int) : (rg.flatMap e8).length = 8 * rg.length := by
  induction rg with
  | nil => rfl
  | cons a r ih => simp only [List.flatMap_cons, List.length_append, e8_len, ih, List.length_cons]; omega
theorem cmB_len {pc : Int} {rg : List Int} {s d : Int} {R : List Int} (h : rg.length = 16) (hR : R.length = 32) : (cmB pc rg s d R).length = 171 := by
  unfold cmB
  rw [List.length_append, List.length_append, List.length_append, List.length_append, flatMap_len, e8_len, h, hR]
  rfl
/-- Registers, by value. -/
def rgA (rg : List Int) : Array Value := (by64 rg).toArray
theorem rgA_size {rg : List Int} (h : rg.length = 16) : (rgA rg).size = 16 := by simp [rgA, by64_len, h]
theorem rgA_at {rg : List Int} {k : Nat} (h : k < rg.length) : (rgA rg)[k]? = some (.int .u64 (rg.getD k 0)) := by simpa [rgA] using by64_get h
theorem size58 : (Tryz.prog.info? 23).map (·.size) = some 16 := by kernel_rfl
theorem index58 (rg : List Int) (h : rg.length = 16) (k : Nat) (hk : k < 16) (w : World) : (Instr.index 23 (.agg (rgA rg)) (.int .i64 k)).run Tryz.prog w = .ok (.int .u64 (rg.getD k 0)) w := by
  match rg, h with
  | [r0, r1, r2, r3, r4, r5, r6, r7, r8, r9, r10, r11, r12, r13, r14, r15], _ =>
  match k, hk with
  | 0, _ => rfl
  | 1, _ => rfl
  | 2, _ => rfl
  | 3, _ => rfl
  | 4, _ => rfl
  | 5, _ => rfl
  | 6, _ => rfl
  | 7, _ => rfl
  | 8, _ => rfl
  | 9, _ => rfl
  | 10, _ => rfl
  | 11, _ => rfl
  | 12, _ => rfl
  | 13, _ => rfl
  | 14, _ => rfl
  | 15, _ => rfl
  | (k + 16), hk => exact absurd hk (by omega)
theorem ld58 {ops : Array Oper} {rest : List Oper} {o : Oper} {a : Act} {w : World} {Q : Exit → Act → World → Prop} (hgd : o.guard = none) (x : Operand) (ho : o.op = .load 23 x)
    (g : Nat) (hx : a.eval x = .pointer (some ⟨g, 0, none⟩)) (C : Array Value) (hC : C.size = 16) (hA : Arr w g 23 C)
    (h : wpList Tryz.prog ops Q rest (a.put o.dst (.agg C)) w) : wpList Tryz.prog ops Q (o :: rest) a w :=
  wpList_load_row hgd 23 x ho g hx 23 C (0, 0) _ hA Tryz.underlying23 rfl (by rw [hC]; exact size58) h
theorem flatMap_take {rg : List Int} {j : Nat} (h : j < rg.length) : (rg.take (j + 1)).flatMap e8 = (rg.take j).flatMap e8 ++ e8 (rg.getD j 0) := by
  rw [List.take_add_one, List.getElem?_eq_getElem h, List.flatMap_append]
  simp [List.getD_eq_getElem?_getD, List.getElem?_eq_getElem h]
theorem sl_of_own {w : World} {base n : Nat} {v : Value} {L : List Int} (h : w.ownsRow base 5 1 v n (by8 L)) (h0 : 0 < n) : ∃ g cap, v = .slice (some ⟨g, 0, none⟩) n cap ∧ n = L.length ∧ n ≤ cap ∧ base ≤ g ∧ SlL w (some ⟨g, 0, none⟩) L := by
  obtain ⟨g, cap, e, hn, hc, hb, hB, -⟩ := own_slice h h0
  exact ⟨g, cap, e, hn.out, hc, hb, fun _ => ⟨g, 0, rfl, hB⟩⟩
theorem h8_sl {w : World} {g ty : Nat} {R : List Int} (h : Arr w g ty (h8 R)) : SlL w (some ⟨g, 0, none⟩) R := Arr.sl (L := R) h
set_option maxHeartbeats 1000000 in
theorem parts_no1 (pc : Int) (rg : List Int) (s d : Int) (R : List Int) (w : World) (hrg : rg.length = 16) (hR : R.length = 32) (hs : 0 ≤ s ∧ s < 256) (h : ¬ (0 ≤ d ∧ d ≤ 12)) : Calls Tryz.prog 85 #[.int .u64 pc, .agg (rgA rg), .int .u8 s, .int .i64 d, .agg (h8 R)] w fun e w' => e = .returned (.tuple #[.agg (h8 Z32), .int .i64 2]) ∧ Below w.heap.size w w' := by
  have hdd : Hid (decide (0 ≤ d ∧ d ≤ 12) = false) := Hid.mk' (decide_eq_false h)
  clear h

  have A0 := ((Arr.new w 23 (rgA rg)).alloc (.cells (h8 R) 40)).alloc (.cells (h8 Z32) 40)
  have A1 := (Arr.new (w.alloc (.cells (rgA rg) 23)) 40 (h8 R)).alloc (.cells (h8 Z32) 40)
  have A2 := Arr.new ((w.alloc (.cells (rgA rg) 23)).alloc (.cells (h8 R) 40)) 40 (h8 Z32)
  simp only [World.size_alloc] at A1 A2
  have hb0 : Below w.heap.size w (((w.alloc (.cells (rgA rg) 23)).alloc (.cells (h8 R) 40)).alloc (.cells (h8 Z32) 40)) := ((alloc_bel' w _).alloc (by simp) _).alloc (by simp; omega) _
  rw [h8_Z] at A0 A1 A2 hb0
  go_enter Tryz.func85, Tryz.ntmps85
  go_wp2_with (first
    | (go_at_call 112; go_must (refine (mayDepthM_any _ _).mono ?_; rintro e w1 ⟨rfl, h⟩; replace h := h.symm; subst h; rw [hdd.out]))
    | (refine st24 (by rfl) _ _ (by rfl) (w.heap.size + 1 + 1) Z32 Z32 (by rfl) (by rfl) Z32_len Z32_len A2 ?_))
  exact bodyPost_ret (v := .tuple #[.agg (h8 Z32), .int .i64 2]) (resP Tryz.results85 rfl rfl Z32_len (A2.setRow _)) rfl ⟨rfl, below_setRow hb0 (by omega) _⟩
set_option maxHeartbeats 1000000 in
theorem parts_no2 (pc : Int) (rg : List Int) (s d : Int) (R : List Int) (w : World) (hrg : rg.length = 16) (hR : R.length = 32) (hs : 0 ≤ s ∧ s < 256) (h : 0 ≤ d ∧ d ≤ 12) (hs2 : ¬ s ≤ 2) : Calls Tryz.prog 85 #[.int .u64 pc, .agg (rgA rg), .int .u8 s, .int .i64 d, .agg (h8 R)] w fun e w' => e = .returned (.tuple #[.agg (h8 Z32), .int .i64 2]) ∧ Below w.heap.size w w' := by
  have hdd : Hid (decide (0 ≤ d ∧ d ≤ 12) = true) := Hid.mk' (decide_eq_true h)
  have hs3 : 2 < s := by omega

  have A0 := ((Arr.new w 23 (rgA rg)).alloc (.cells (h8 R) 40)).alloc (.cells (h8 Z32) 40)
  have A1 := (Arr.new (w.alloc (.cells (rgA rg) 23)) 40 (h8 R)).alloc (.cells (h8 Z32) 40)
  have A2 := Arr.new ((w.alloc (.cells (rgA rg) 23)).alloc (.cells (h8 R) 40)) 40 (h8 Z32)
  simp only [World.size_alloc] at A1 A2
  have hb0 : Below w.heap.size w (((w.alloc (.cells (rgA rg) 23)).alloc (.cells (h8 R) 40)).alloc (.cells (h8 Z32) 40)) := ((alloc_bel' w _).alloc (by simp) _).alloc (by simp; omega) _
  rw [h8_Z] at A0 A1 A2 hb0
  go_enter Tryz.func85, Tryz.ntmps85
  go_wp2_with (first
    | (go_at_call 112; go_must (refine (mayDepthM_any _ _).mono ?_; rintro e w1 ⟨rfl, h⟩; replace h := h.symm; subst h; rw [hdd.out]))
    | (refine st24 (by rfl) _ _ (by rfl) (w.heap.size + 1 + 1) Z32 Z32 (by rfl) (by rfl) Z32_len Z32_len A2 ?_))
  exact bodyPost_ret (v := .tuple #[.agg (h8 Z32), .int .i64 2]) (resP Tryz.results85 rfl rfl Z32_len (A2.setRow _)) rfl ⟨rfl, below_setRow hb0 (by omega) _⟩
set_option maxHeartbeats 1000000 in
theorem refParts_no1 (pc : Int) (rg : List Int) (s d : Int) (R : List Int) (w : World) (hrg : rg.length = 16) (hR : R.length = 32) (hs : 0 ≤ s ∧ s < 256) (h : d < 0) : Calls Tryz.prog 43 #[.int .u64 pc, .agg (rgA rg), .int .u8 s, .int .i64 d, .agg (h8 R)] w fun e w' => e = .returned (.tuple #[.agg (h8 Z32), .int .i64 2]) ∧ Below w.heap.size w w' := by

  have A0 := ((Arr.new w 23 (rgA rg)).alloc (.cells (h8 R) 40)).alloc (.cells (h8 Z32) 40)
  have A1 := (Arr.new (w.alloc (.cells (rgA rg) 23)) 40 (h8 R)).alloc (.cells (h8 Z32) 40)
  have A2 := Arr.new ((w.alloc (.cells (rgA rg) 23)).alloc (.cells (h8 R) 40)) 40 (h8 Z32)
  simp only [World.size_alloc] at A1 A2
  have hb0 : Below w.heap.size w (((w.alloc (.cells (rgA rg) 23)).alloc (.cells (h8 R) 40)).alloc (.cells (h8 Z32) 40)) := ((alloc_bel' w _).alloc (by simp) _).alloc (by simp; omega) _
  rw [h8_Z] at A0 A1 A2 hb0
  go_enter Tryz.func43, Tryz.ntmps43
  go_wp2_with (first
    | (go_at_call 112; go_must (refine (mayDepthM_any _ _).mono ?_; rintro e w1 ⟨rfl, h⟩; replace h := h.symm; subst h; rw [hdd.out]))
    | (refine st24 (by rfl) _ _ (by rfl) (w.heap.size + 1 + 1) Z32 Z32 (by rfl) (by rfl) Z32_len Z32_len A2 ?_))
  exact bodyPost_ret (v := .tuple #[.agg (h8 Z32), .int .i64 2]) (resP Tryz.results43 rfl rfl Z32_len (A2.setRow _)) rfl ⟨rfl, below_setRow hb0 (by omega) _⟩
set_option maxHeartbeats 1000000 in
theorem refParts_no2 (pc : Int) (rg : List Int) (s d : Int) (R : List Int) (w : World) (hrg : rg.length = 16) (hR : R.length = 32) (hs : 0 ≤ s ∧ s < 256) (h : ¬ d < 0) (h2 : 12 < d) : Calls Tryz.prog 43 #[.int .u64 pc, .agg (rgA rg), .int .u8 s, .int .i64 d, .agg (h8 R)] w fun e w' => e = .returned (.tuple #[.agg (h8 Z32), .int .i64 2]) ∧ Below w.heap.size w w' := by

  have A0 := ((Arr.new w 23 (rgA rg)).alloc (.cells (h8 R) 40)).alloc (.cells (h8 Z32) 40)
  have A1 := (Arr.new (w.alloc (.cells (rgA rg) 23)) 40 (h8 R)).alloc (.cells (h8 Z32) 40)
  have A2 := Arr.new ((w.alloc (.cells (rgA rg) 23)).alloc (.cells (h8 R) 40)) 40 (h8 Z32)
  simp only [World.size_alloc] at A1 A2
  have hb0 : Below w.heap.size w (((w.alloc (.cells (rgA rg) 23)).alloc (.cells (h8 R) 40)).alloc (.cells (h8 Z32) 40)) := ((alloc_bel' w _).alloc (by simp) _).alloc (by simp; omega) _
  rw [h8_Z] at A0 A1 A2 hb0
  go_enter Tryz.func43, Tryz.ntmps43
  go_wp2_with (first
    | (go_at_call 112; go_must (refine (mayDepthM_any _ _).mono ?_; rintro e w1 ⟨rfl, h⟩; replace h := h.symm; subst h; rw [hdd.out]))
    | (refine st24 (by rfl) _ _ (by rfl) (w.heap.size + 1 + 1) Z32 Z32 (by rfl) (by rfl) Z32_len Z32_len A2 ?_))
  exact bodyPost_ret (v := .tuple #[.agg (h8 Z32), .int .i64 2]) (resP Tryz.results43 rfl rfl Z32_len (A2.setRow _)) rfl ⟨rfl, below_setRow hb0 (by omega) _⟩
set_option maxHeartbeats 1000000 in
theorem refParts_no3 (pc : Int) (rg : List Int) (s d : Int) (R : List Int) (w : World) (hrg : rg.length = 16) (hR : R.length = 32) (hs : 0 ≤ s ∧ s < 256) (h : ¬ d < 0) (h2 : ¬ 12 < d) (h3 : 2 < s) : Calls Tryz.prog 43 #[.int .u64 pc, .agg (rgA rg), .int .u8 s, .int .i64 d, .agg (h8 R)] w fun e w' => e = .returned (.tuple #[.agg (h8 Z32), .int .i64 2]) ∧ Below w.heap.size w w' := by

  have A0 := ((Arr.new w 23 (rgA rg)).alloc (.cells (h8 R) 40)).alloc (.cells (h8 Z32) 40)
  have A1 := (Arr.new (w.alloc (.cells (rgA rg) 23)) 40 (h8 R)).alloc (.cells (h8 Z32) 40)
  have A2 := Arr.new ((w.alloc (.cells (rgA rg) 23)).alloc (.cells (h8 R) 40)) 40 (h8 Z32)
  simp only [World.size_alloc] at A1 A2
  have hb0 : Below w.heap.size w (((w.alloc (.cells (rgA rg) 23)).alloc (.cells (h8 R) 40)).alloc (.cells (h8 Z32) 40)) := ((alloc_bel' w _).alloc (by simp) _).alloc (by simp; omega) _
  rw [h8_Z] at A0 A1 A2 hb0
  go_enter Tryz.func43, Tryz.ntmps43
  go_wp2_with (first
    | (go_at_call 112; go_must (refine (mayDepthM_any _ _).mono ?_; rintro e w1 ⟨rfl, h⟩; replace h := h.symm; subst h; rw [hdd.out]))
    | (refine st24 (by rfl) _ _ (by rfl) (w.heap.size + 1 + 1) Z32 Z32 (by rfl) (by rfl) Z32_len Z32_len A2 ?_))
  exact bodyPost_ret (v := .tuple #[.agg (h8 Z32), .int .i64 2]) (resP Tryz.results43 rfl rfl Z32_len (A2.setRow _)) rfl ⟨rfl, below_setRow hb0 (by omega) _⟩
end Go.Proofs.YtneihkegipcakaaGreat
/- Layer trace: what the layers below give. -/
namespace Go.Proofs.YtneihkegipcakaaGreat
open Go.RowKit
set_option maxRecDepth 100000
set_option linter.unusedVariables false
set_option linter.unusedSimpArgs false

set_option maxHeartbeats 2000000 in
theorem parts_ok (pc : Int) (rg : List Int) (s d : Int) (R : List Int) (w : World) (hrg : rg.length = 16) (hR : R.length = 32) (hs : 0 ≤ s ∧ s < 256) (hd : 0 ≤ d ∧ d ≤ 12) (hs2 : s ≤ 2) : Calls Tryz.prog 85 #[.int .u64 pc, .agg (rgA rg), .int .u8 s, .int .i64 d, .agg (h8 R)] w fun e w' => e = .returned (.tuple #[.agg (h8 (cmt pc rg s d R)), .int .i64 0]) ∧ Below w.heap.size w w' := by
  obtain ⟨i0, hi, hz0, hz1, hz2⟩ := info_parts info5
  have hdd : Hid (decide (0 ≤ d ∧ d ≤ 12) = true) := Hid.mk' (decide_eq_true hd)
  have hs3 : ¬ 2 < s := by omega
  have hd8 : d % 256 = d := by omega
  have hd8' : IntKind.u8.wrap d = d := by simp [IntKind.wrap, IntKind.bits, IntKind.signed]; omega
  have hlen := cmB_len (pc := pc) (s := s) (d := d) hrg hR
  have hsum := fun (sp : Option Addr) (c : Nat) (U : World) (h1 : sp = none → 171 = 0 ∧ c = 0) (h2 : SlL U sp (cmB pc rg s d R)) (h3 : 171 ≤ c) => sum_sl sp 171 c (cmB pc rg s d R) U hlen.symm h1 h2 h3 (by omega)
  simp only [sha_h8] at hsum
  have hC32 : (cmt pc rg s d R).length = 32 := shl_len _
  rw [show shl (cmB pc rg s d R) = cmt pc rg s d R from rfl] at hsum
  have hcm : Hid (([2] ++ e8 pc ++ rg.flatMap e8) ++ [s, d] ++ R = cmB pc rg s d R) := Hid.mk' rfl
  generalize cmt pc rg s d R = CC at *
  generalize cmB pc rg s d R = BB at *

  have A0 := ((Arr.new w 23 (rgA rg)).alloc (.cells (h8 R) 40)).alloc (.cells (h8 Z32) 40)
  have A1 := (Arr.new (w.alloc (.cells (rgA rg) 23)) 40 (h8 R)).alloc (.cells (h8 Z32) 40)
  have A2 := Arr.new ((w.alloc (.cells (rgA rg) 23)).alloc (.cells (h8 R) 40)) 40 (h8 Z32)
  simp only [World.size_alloc] at A1 A2
  have hb0 : Below w.heap.size w (((w.alloc (.cells (rgA rg) 23)).alloc (.cells (h8 R) 40)).alloc (.cells (h8 Z32) 40)) := ((alloc_bel' w _).alloc (by simp) _).alloc (by simp; omega) _
  rw [h8_Z] at A0 A1 A2 hb0
  have hrs := rgA_size hrg
  have hix := index58 rg hrg
  generalize hCg : rgA rg = CR at *
  clear hCg
  go_enter Tryz.func85, Tryz.ntmps85
  go_upto_region 3 with (go_at_call 112; go_must (refine (mayDepthM_any _ _).mono ?_; rintro e w1 ⟨rfl, h⟩; replace h := h.symm; subst h; rw [hdd.out]))
  generalize hV : World.alloc _ (.cells _ 40) = V at *
  have hVs : w.heap.size + 3 ≤ V.heap.size := by rw [← hV]; simp
  clear hV
  go_upto_region 5 with (first
    | (at_make; go_must (refine wpList_make_own _ (by rfl) (.const (.int .i64 0)) (.const (.int .i64 171)) 50 (by rfl) V.heap.size 5 i0 (.int .u8 0) 1 Tryz.underlying50 hi hz0 hz1 .i64 .i64 _ 171 (by rfl) (by rfl) (by omega) (by rw [hz2]; omega) (Nat.le_trans (by omega) maxLen_ge) (Nat.le_refl _) ?_; intro w1 hown1 hg1; have hown1 : w1.ownsRow V.heap.size 5 1 (.slice (some ⟨V.heap.size, 0, none⟩) 0 171) 0 (by8 []) := (by simpa [by8] using hown1); have hB1 : Below V.heap.size V w1 := (Below.refl _ _).grown hg1 (Nat.le_refl _) (by simp)))
    | (refine atA (.tmp 24) (.tmp 25) ?_; go_must (refine append_bytes (by rfl) (.tmp 24) (.tmp 25) (by rfl) V.heap.size _ 0 [] (by rfl) (hown1.alloc _) (some ⟨w1.heap.size, 0, none⟩) 1 1 [2] (by rfl) (by rfl) (fun h => by cases h) (Arr.sl (Arr.new w1 5 _)) (by omega) (by have := hB1.size; simp; omega) ?_; intro v2 w2 hown2 hg2; have hB2 : Below V.heap.size V w2 := (hB1.alloc hB1.size _).grown hg2 (by have := hB1.size; simp; omega) (fun k e => own_ge hown1 k e)))
    | (go_at_call 113; go_must (refine (appW_any V.heap.size _ _ _ pc _ hown2 hB2.size (by omega)).mono ?_; rintro e w3 ⟨v3, rfl, hown3, hb3⟩; have hB3 := hB2.trans hb3)))
  have hown3' : w3.ownsRow V.heap.size 5 1 v3 9 (by8 ([2] ++ e8 pc)) := by simpa using hown3
  clear hown3 hown2 hown1 hg1 hg2 hB1 hB2 hb3
  go_upto_region 6 with (refine ld58 (by rfl) (.tmp 6) (by rfl) w.heap.size (by rfl) CR hrs (A0.below hB3 A0.lt) ?_)
  go_loopw [12, 30] (fun v q wr => ∃ (j k : Nat), q = .int .i64 (j : Int) ∧ j ≤ 16 ∧ Hid (k = 9 + 8 * j) ∧ Below V.heap.size V wr ∧ wr.ownsRow V.heap.size 5 1 v k (by8 ([2] ++ e8 pc ++ (rg.take j).flatMap e8))) (fun _ q _ => 16 - (intOf q).toNat)
  case atStart => exact ⟨0, 9, rfl, by omega, Hid.mk' rfl, hB3, by simpa using hown3'⟩
  case round =>
    clear hown3' hB3
    obtain ⟨j, k, rfl, hj, hk, hbl, hown⟩ := hrel
    have hbs := hbl.size
    by_cases hlt : j < 16
    · have hI : (j : Int) < 16 := by omega
      replace hix := hix j hlt
      have hft : Hid ([2] ++ e8 pc ++ (rg.take (j + 1)).flatMap e8 = [2] ++ e8 pc ++ (rg.take j).flatMap e8 ++ e8 (rg.getD j 0)) := Hid.mk' (by rw [flatMap_take (by omega)]; simp only [List.append_assoc])
      generalize rg.getD j 0 = y at *
      have hk10 : k ≤ 1000 := by have := hk.out; omega
      generalize [2] ++ e8 pc ++ (rg.take j).flatMap e8 = B0 at *
      go_wp2_with (go_at_call 113; go_must (refine (appW_any V.heap.size k _ B0 y _ hown hbs hk10).mono ?_; rintro e w4 ⟨v4, rfl, hown4, hb4⟩))
      go_roundw
      case rel => exact ⟨j + 1, k + 8, by go_num, by omega, Hid.mk' (by have := hk.out; omega), hbl.trans hb4, by rw [hft.out]; exact hown4⟩
      case measure => simp [intOf]; omega
    · obtain rfl : j = 16 := by omega
      have hI : ¬ ((16 : Nat) : Int) < 16 := by omega
      obtain rfl : k = 137 := hk.out
      rw [List.take_of_length_le (by omega)] at hown
      generalize [2] ++ e8 pc ++ rg.flatMap e8 = B0 at *
      have Q1 := A1.below hbl A1.lt
      have Q2 := A2.below hbl A2.lt
      clear hk
      go_wp2_with (first
        | (refine atA (.tmp 37) (.tmp 41) ?_; go_must (refine append_bytes (by rfl) (.tmp 37) (.tmp 41) (by rfl) V.heap.size _ 137 B0 (by rfl) (hown.alloc _) (some ⟨wr.heap.size, 0, none⟩) 2 2 [s, d] (by rfl) (by rfl) (fun h => by cases h) (Arr.sl (Arr.new wr 5 _)) (by omega) (by simp; omega) ?_; intro v5 w5 hown5 hg5; have hB5 : Below V.heap.size V w5 := (hbl.alloc hbs _).grown hg5 (by simp; omega) (fun k e => own_ge hown k e); have Q15 := A1.below hB5 A1.lt; have Q25 := A2.below hB5 A2.lt))
        | (refine atA (.tmp 43) (.tmp 44) ?_; go_must (refine append_bytes (by rfl) (.tmp 43) (.tmp 44) (by rfl) V.heap.size _ 139 (B0 ++ [s, d]) (by rfl) hown5 (some ⟨w.heap.size + 1, 0, none⟩) 32 32 R (by rfl) hR.symm (fun h => by cases h) (h8_sl Q15) (by omega) hB5.size ?_; intro v6 w6 hown6 hg6; rw [hcm.out] at hown6; have hB6 : Below V.heap.size V w6 := hB5.grown hg6 hB5.size (fun k e => own_ge hown5 k e); have Q26 := A2.below hB6 A2.lt; obtain ⟨g6, c6, rfl, -, hc6, -, hSl6⟩ := sl_of_own hown6 (by omega)))
        | (go_at_call 114; go_must (refine (hsum _ _ _ (fun h => by cases h) hSl6 hc6).mono ?_; rintro e w7 ⟨rfl, hb7⟩; have Q27 := Q26.below hb7 Q26.lt; have hB7 := hB6.trans (hb7.mono hB6.size)))
        | (refine st24 (by rfl) _ _ (by rfl) (w.heap.size + 1 + 1) CC Z32 (by rfl) (by rfl) hC32 Z32_len Q27 ?_))
      exact bodyPost_ret (v := .tuple #[.agg (h8 CC), .int .i64 0]) (resP Tryz.results85 rfl rfl hC32 (Q27.setRow _)) rfl ⟨rfl, below_setRow (hb0.trans (hB7.mono (by omega))) (by omega) _⟩
end Go.Proofs.YtneihkegipcakaaGreat
