/- Layer collide: the walk of CollideOnly. -/
import Derived.Test.YtgjnbpimldjkpaaCs0
import Derived.Test.YtgjnbpimldjkpaaCk
namespace Go.Proofs.Ytgjnbpimldjkpaa
open Go.RowKit
set_option linter.unusedVariables false
set_option linter.unusedSimpArgs false

theorem ld24h {ops : Array Oper} {rest : List Oper} {o : Oper} {a : Act} {w : World} {Q : Exit → Act → World → Prop} (x : Operand) (ho : o.op = .load 29 x)
    (b off : Nat) (hx : a.eval x = .pointer (some ⟨b, off, none⟩)) (X : List Int) (hX : X.length = 32) (hc : w.rangeAt b off (by8 X)) (hgd : Region.wanted o (yielded ops a.tmps) = true)
    (h : wpList Try.prog ops Q rest (a.put o.dst (.agg (h8 X))) w) : wpList Try.prog ops Q (o :: rest) a w := ld24g hgd x ho b off hx X hX hc h
theorem refSum_h (sp : Option Addr) (n cap : Nat) (L : List Int) (N : Nat) (w : World) (hB : BS N w sp n cap L) :
    Calls Try.prog 17 #[.slice sp n cap] w fun e w' => e = .returned (.agg (h8 (shl L))) ∧ Below w.heap.size w w' := by
  have h := refSum_any sp n cap L w hB.len.out hB.nil hB.sl hB.small
  rw [sha_h8] at h
  exact h
set_option maxRecDepth 100000 in
set_option maxHeartbeats 4000000 in
theorem only_walk (i : Int) (A B : List Int) (sp sp' : Option Addr) (n cap n' cap' : Nat) (ls ls' : List (List Int)) (hA : A.length = 32) (hB : B.length = 32) (bA : Bts A) (bB : Bts B) (bl : ∀ Y ∈ ls, Bts Y) (bl' : ∀ Y ∈ ls', Bts Y) (w : World) (hS : HS w.heap.size w sp n cap ls) (hS' : HS w.heap.size w sp' n' cap' ls') :
    Calls Try.prog 5 #[.int .i64 i, .agg (twoA A B sp n cap sp' n' cap')] w fun e w' => e = .returned (.bool true) ∧ Below w.heap.size w w' := by
  have hl := hS.len
  have hl' := hS'.len
  have T0 := TW.of_arr (Arr.new w 32 (twoA A B sp n cap sp' n' cap')) hA hB
  have hB0 := alloc_bel' w (.cells (twoA A B sp n cap sp' n' cap') 32)
  have hf1 := fun (u : World) (hu : HS w.heap.size u sp n cap ls) => refFold_any i A w.heap.size sp n cap ls u hA hu
  have hf2 := fun (u : World) (hu : HS w.heap.size u sp' n' cap' ls') => refFold_any i B w.heap.size sp' n' cap' ls' u hB hu
  have hRA := foR_len (i := i) (ls := ls) hA
  have hRB := foR_len (i := i) (ls := ls') hB
  obtain ⟨RA, hRAe⟩ : ∃ R, R = foR i A ls := ⟨_, rfl⟩
  obtain ⟨RB, hRBe⟩ : ∃ R, R = foR i B ls' := ⟨_, rfl⟩
  rw [← hRAe] at hf1 hRA
  rw [← hRBe] at hf2 hRB
  replace hRAe := Hid.mk' hRAe
  replace hRBe := Hid.mk' hRBe
  replace hf1 := Hid.mk' hf1
  replace hf2 := Hid.mk' hf2
  have hbi := Hid.mk' (fun (u : World) (h : HS w.heap.size u sp n cap ls) (h' : HS w.heap.size u sp' n' cap' ls') => bind_any i A B sp sp' n cap n' cap' ls ls' hA hB bA bB bl bl' w.heap.size u h h')
  replace bl := Hid.mk' bl
  replace bl' := Hid.mk' bl'
  have ca := T0.ca
  have cb := T0.cb
  go_enter Try.func5, Try.ntmps5
  go_upto_region 2 with (first
    | (refine ld24 (by rfl) (.tmp 15) (by rfl) w.heap.size 0 (by rfl) A hA T0.ra ?_)
    | (go_at_call 16; go_must (refine (hf1.out _ (hS.below hB0)).mono ?_; rintro e w1 ⟨rfl, hb1⟩))
    | (refine st24n (by rfl) _ _ (by rfl) w1 w1.heap.size rfl (by rfl) RA (by rfl) (by rfl) hRA ?_))
  have hB1 := (hB0.trans (hb1.mono hB0.size)).alloc (Nat.le_trans hB0.size hb1.size) (.cells (h8 RA) 29)
  have T1 := (T0.bel hb1).bel (alloc_bel' w1 (.cells (h8 RA) 29))
  have PA1 := Arr.new w1 29 (h8 RA)
  generalize w1.alloc (.cells (h8 RA) 29) = V1 at *
  clear ca cb
  have ca := T1.ca
  have cb := T1.cb
  go_upto_region 3 with (first
    | (refine ld24 (by rfl) (.tmp 24) (by rfl) w.heap.size 32 (by rfl) B hB T1.rb ?_)
    | (go_at_call 16; go_must (refine (hf2.out _ (hS'.below hB1)).mono ?_; rintro e w2 ⟨rfl, hb2⟩))
    | (refine st24n (by rfl) _ _ (by rfl) w2 w2.heap.size rfl (by rfl) RB (by rfl) (by rfl) hRB ?_))
  have hB2 := (hB1.trans (hb2.mono hB1.size)).alloc (Nat.le_trans hB1.size hb2.size) (.cells (h8 RB) 29)
  have T2 := (T1.bel hb2).bel (alloc_bel' w2 (.cells (h8 RB) 29))
  have PA2 := (PA1.bel hb2).alloc (.cells (h8 RB) 29)
  have PB2 := Arr.new w2 29 (h8 RB)
  generalize w2.alloc (.cells (h8 RB) 29) = V2 at *
  clear ca cb
  have ca := T2.ca
  have cb := T2.cb
  go_upto_region 4 with (first
    | (refine ld24 (by rfl) (.tmp 33) (by rfl) w.heap.size 0 (by rfl) A hA T2.ra ?_)
    | (refine ld24 (by rfl) (.tmp 37) (by rfl) w.heap.size 32 (by rfl) B hB T2.rb ?_)
    | (go_at_call 12; go_must (refine (hbi.out V2 (hS.below hB2) (hS'.below hB2)).mono ?_; rintro e w3 ⟨q1, m1, p1, q2, m2, p2, rfl, hq1, hq2, hb3⟩)))
  have hB3 := hB2.trans (hb3.mono hB2.size)
  have T3 := T2.bel hb3
  have PA3 := PA2.bel hb3
  have PB3 := PB2.bel hb3
  clear ca cb T0 T1 T2 PA1 PA2 PB2 hB0 hB1 hB2 hb1 hb2 hb3
  cases ho : bindO i A ls B ls' with
  | none =>
    rw [ho] at hq1 hq2
    replace ho := Hid.mk' ho
    simp only [Option.isSome_none]
    go_upto_region 6 with fail
    have hB6 := hB3
    have T6 := T3
    have PA6 := PA3
    have PB6 := PB3
    obtain ⟨w6, hw6⟩ : ∃ u, u = w3 := ⟨_, rfl⟩
    rw [← hw6] at hB6 T6 PA6 PB6 ⊢
    clear hw6
    go_cut [12] (fun s wc => s = .bool (decide (A = B ∧ ls = ls')) ∧ Below w6.heap.size w6 wc)
    case first =>
      have ca := T6.ca
      have cb := T6.cb
      have hqq := run_eq24 hA hB
      by_cases hAB : A = B
      · have hdd : decide (A = B ∧ ls = ls') = decide (ls = ls') := by simp [hAB]
        replace hdd := Hid.mk' hdd
        rw [decide_eq_true hAB] at hqq
        replace hAB := Hid.mk' hAB
        go_wp2_with (first | (refine ld24 (by rfl) (.tmp 58) (by rfl) w.heap.size 0 (by rfl) A hA T6.ra ?_) | (refine ld24 (by rfl) (.tmp 60) (by rfl) w.heap.size 32 (by rfl) B hB T6.rb ?_) | (go_at_call 18; go_must (refine (same4_any _ _ _ _ _ _ _ _ ls ls' w6 (hS.below hB6) (hS'.below hB6)).mono ?_; rintro e w8 ⟨rfl, hb8⟩)))
        go_meet
        exact ⟨by rw [hdd.out], hb8⟩
      · have hdd : decide (A = B ∧ ls = ls') = false := by simp [hAB]
        replace hdd := Hid.mk' hdd
        rw [decide_eq_false hAB] at hqq
        replace hAB := Hid.mk' hAB
        go_wp2_with (first | (refine ld24 (by rfl) (.tmp 58) (by rfl) w.heap.size 0 (by rfl) A hA T6.ra ?_) | (refine ld24 (by rfl) (.tmp 60) (by rfl) w.heap.size 32 (by rfl) B hB T6.rb ?_))
        go_meet
        exact ⟨by rw [hdd.out], Below.refl _ _⟩
    case rest =>
      obtain ⟨rfl, hbc⟩ := hcut
      replace hB6 := hB6.trans (hbc.mono hB6.size)
      replace T6 := T6.bel hbc
      replace PA6 := PA6.bel hbc
      replace PB6 := PB6.bel hbc
      have hno : ¬ ((ls.length = ls'.length ∧ FoOK i ls.length ∧ fo i.toNat A ls = fo i.toNat B ls') ∧ ¬ (A = B ∧ ls = ls')) := fun h => by have := (bind_some hS.l32 hS'.l32 hA hB).2 h; rw [ho.out] at this; cases this
      by_cases h1 : FoOK i ls.length
      · have e1 : foE i ls = 0 := by unfold foE; rw [if_pos h1]
        rw [e1]
        by_cases h2 : FoOK i ls'.length
        · have e2 : foE i ls' = 0 := by unfold foE; rw [if_pos h2]
          rw [e2]
          have hqq := run_eq24 hRA hRB
          by_cases h3 : RA = RB
          · rw [decide_eq_true h3] at hqq
            by_cases h4 : ls.length = ls'.length
            · have hnn : ((n : Int) == n') = true := by rw [hl.out, hl'.out, h4]; simp
              have hdd : decide (A = B ∧ ls = ls') = true := decide_eq_true (Classical.byContradiction fun hc => hno ⟨⟨h4, h1, by rw [hRAe.out, hRBe.out] at h3; unfold foR at h3; rwa [if_pos h1, if_pos h2] at h3⟩, hc⟩)
              rw [hdd]
              clear hdd hno h1 h2 h3 h4 e1 e2
              go_wp2_with (first | (go_at_call 9; go_must (refine (anchored_any _).mono ?_; rintro e w9 ⟨rfl, hb9⟩; have T9 := T6.bel hb9; have P9 := PA6.bel hb9; have Q9 := PB6.bel hb9; have ca := T9.ca; have cb := T9.cb)) | (have P9' := P9; clear P9; refine ld24h (.tmp 5) (by rfl) w1.heap.size 0 (by rfl) RA hRA P9'.range (by kernel_rfl) ?_; clear P9') | (have Q9' := Q9; clear Q9; refine ld24h (.tmp 7) (by rfl) w2.heap.size 0 (by rfl) RB hRB Q9'.range (by kernel_rfl) ?_; clear Q9'))
              go_ret
              exact ⟨rfl, hB6.trans (hb9.mono hB6.size)⟩
            · have hnn : ((n : Int) == n') = false := by rw [hl.out, hl'.out]; simp; omega
              generalize decide (A = B ∧ ls = ls') = sd
              clear hno h1 h2 h3 h4 e1 e2
              go_wp2_with (first | (go_at_call 9; go_must (refine (anchored_any _).mono ?_; rintro e w9 ⟨rfl, hb9⟩; have T9 := T6.bel hb9; have P9 := PA6.bel hb9; have Q9 := PB6.bel hb9; have ca := T9.ca; have cb := T9.cb)) | (have P9' := P9; clear P9; refine ld24h (.tmp 5) (by rfl) w1.heap.size 0 (by rfl) RA hRA P9'.range (by kernel_rfl) ?_; clear P9') | (have Q9' := Q9; clear Q9; refine ld24h (.tmp 7) (by rfl) w2.heap.size 0 (by rfl) RB hRB Q9'.range (by kernel_rfl) ?_; clear Q9'))
              go_ret
              exact ⟨rfl, hB6.trans (hb9.mono hB6.size)⟩
          · rw [decide_eq_false h3] at hqq
            generalize decide (A = B ∧ ls = ls') = sd
            clear hno h1 h2 h3 e1 e2
            go_wp2_with (first | (go_at_call 9; go_must (refine (anchored_any _).mono ?_; rintro e w9 ⟨rfl, hb9⟩; have T9 := T6.bel hb9; have P9 := PA6.bel hb9; have Q9 := PB6.bel hb9; have ca := T9.ca; have cb := T9.cb)) | (have P9' := P9; clear P9; refine ld24h (.tmp 5) (by rfl) w1.heap.size 0 (by rfl) RA hRA P9'.range (by kernel_rfl) ?_; clear P9') | (have Q9' := Q9; clear Q9; refine ld24h (.tmp 7) (by rfl) w2.heap.size 0 (by rfl) RB hRB Q9'.range (by kernel_rfl) ?_; clear Q9'))
            go_ret
            exact ⟨rfl, hB6.trans (hb9.mono hB6.size)⟩
        · have e2 : foE i ls' = 2 := by unfold foE; rw [if_neg h2]
          rw [e2]
          generalize decide (A = B ∧ ls = ls') = sd
          clear hno h1 h2 e1 e2
          go_wp2_with (go_at_call 9; go_must (refine (anchored_any _).mono ?_; rintro e w9 ⟨rfl, hb9⟩))
          go_ret
          exact ⟨rfl, hB6.trans (hb9.mono hB6.size)⟩
      · have e1 : foE i ls = 2 := by unfold foE; rw [if_neg h1]
        rw [e1]
        generalize decide (A = B ∧ ls = ls') = sd
        clear hno h1 e1
        go_wp2_with (go_at_call 9; go_must (refine (anchored_any _).mono ?_; rintro e w9 ⟨rfl, hb9⟩))
        go_ret
        exact ⟨rfl, hB6.trans (hb9.mono hB6.size)⟩
  | some xy =>
    obtain ⟨x, y⟩ := xy
    have hpr := bind_prop ho
    rw [ho] at hq1 hq2
    replace ho := Hid.mk' ho
    simp only [Option.isSome_some]
    simp only [Option.elim] at hq1 hq2
    have hz1 : decide (x = y) = false := decide_eq_false hpr.2
    have hz2 := run_neq24 (shl_len x) (shl_len y)
    rw [decide_eq_true hpr.1] at hz2
    replace hpr := Hid.mk' hpr
    obtain ⟨sx, hsx⟩ : ∃ s, s = shl x := ⟨_, rfl⟩
    obtain ⟨sy, hsy⟩ : ∃ s, s = shl y := ⟨_, rfl⟩
    have hsm := fun (N : Nat) (u : World) (h : BS N u q1 m1 p1 x) => refSum_h q1 m1 p1 x N u h
    have hsm' := fun (N : Nat) (u : World) (h : BS N u q2 m2 p2 y) => refSum_h q2 m2 p2 y N u h
    rw [← hsx] at hsm
    rw [← hsy] at hsm'
    rw [← hsx, ← hsy] at hz2
    clear hsx hsy
    replace hsm := Hid.mk' hsm
    replace hsm' := Hid.mk' hsm'
    go_upto_region 6 with (first | (go_at_call 15; go_must (refine (same01_any _ _ _ _ _ _ x y _ _ _ hq1 hq2).mono ?_; rw [hz1]; rintro e w4 ⟨rfl, rfl⟩)) | (go_at_call 17; go_must (first | (have hz := hsm; clear hsm; refine (hz.out _ w4 hq1).mono ?_; rintro e w5 ⟨rfl, hb5⟩; have hq2' := hq2.here.below hb5; clear hz) | (refine (hsm'.out _ w5 hq2').mono ?_; rintro e w6 ⟨rfl, hb6⟩))))
    have hB6 := (hB3.trans (hb5.mono hB3.size)).trans (hb6.mono (Nat.le_trans hB3.size hb5.size))
    have T6 := (T3.bel hb5).bel hb6
    have PA6 := (PA3.bel hb5).bel hb6
    have PB6 := (PB3.bel hb5).bel hb6
    go_cut [12] (fun s wc => s = .bool (decide (A = B ∧ ls = ls')) ∧ Below w6.heap.size w6 wc)
    case first =>
      have ca := T6.ca
      have cb := T6.cb
      have hqq := run_eq24 hA hB
      by_cases hAB : A = B
      · have hdd : decide (A = B ∧ ls = ls') = decide (ls = ls') := by simp [hAB]
        replace hdd := Hid.mk' hdd
        rw [decide_eq_true hAB] at hqq
        replace hAB := Hid.mk' hAB
        go_wp2_with (first | (refine ld24 (by rfl) (.tmp 58) (by rfl) w.heap.size 0 (by rfl) A hA T6.ra ?_) | (refine ld24 (by rfl) (.tmp 60) (by rfl) w.heap.size 32 (by rfl) B hB T6.rb ?_) | (go_at_call 18; go_must (refine (same4_any _ _ _ _ _ _ _ _ ls ls' w6 (hS.below hB6) (hS'.below hB6)).mono ?_; rintro e w8 ⟨rfl, hb8⟩)))
        go_meet
        exact ⟨by rw [hdd.out], hb8⟩
      · have hdd : decide (A = B ∧ ls = ls') = false := by simp [hAB]
        replace hdd := Hid.mk' hdd
        rw [decide_eq_false hAB] at hqq
        replace hAB := Hid.mk' hAB
        go_wp2_with (first | (refine ld24 (by rfl) (.tmp 58) (by rfl) w.heap.size 0 (by rfl) A hA T6.ra ?_) | (refine ld24 (by rfl) (.tmp 60) (by rfl) w.heap.size 32 (by rfl) B hB T6.rb ?_))
        go_meet
        exact ⟨by rw [hdd.out], Below.refl _ _⟩
    case rest =>
      obtain ⟨rfl, hbc⟩ := hcut
      replace hB6 := hB6.trans (hbc.mono hB6.size)
      replace T6 := T6.bel hbc
      replace PA6 := PA6.bel hbc
      replace PB6 := PB6.bel hbc
      obtain ⟨⟨hln, hFo, hfo⟩, hns⟩ := (bind_some hS.l32 hS'.l32 hA hB).1 (show (bindO i A ls B ls').isSome = true by rw [ho.out]; rfl)
      have hdd : decide (A = B ∧ ls = ls') = false := decide_eq_false hns
      rw [hdd]
      have e1 : foE i ls = 0 := by unfold foE; rw [if_pos hFo]
      have e2 : foE i ls' = 0 := by unfold foE; rw [if_pos (by rw [← hln]; exact hFo)]
      rw [e1, e2]
      have hrr : RA = RB := by rw [hRAe.out, hRBe.out]; unfold foR; rw [if_pos hFo, if_pos (by rw [← hln]; exact hFo)]; exact hfo
      have hqq := run_eq24 hRA hRB
      rw [decide_eq_true hrr] at hqq
      have hnn : ((n : Int) == n') = true := by rw [hl.out, hl'.out, hln]; simp
      clear hns hdd hrr e1 e2 hln hFo hfo
      go_wp2_with (first | (go_at_call 9; go_must (refine (anchored_any _).mono ?_; rintro e w9 ⟨rfl, hb9⟩; have T9 := T6.bel hb9; have P9 := PA6.bel hb9; have Q9 := PB6.bel hb9; have ca := T9.ca; have cb := T9.cb)) | (have P9' := P9; clear P9; refine ld24h (.tmp 5) (by rfl) w1.heap.size 0 (by rfl) RA hRA P9'.range (by kernel_rfl) ?_; clear P9') | (have Q9' := Q9; clear Q9; refine ld24h (.tmp 7) (by rfl) w2.heap.size 0 (by rfl) RB hRB Q9'.range (by kernel_rfl) ?_; clear Q9'))
      go_ret
      exact ⟨rfl, hB6.trans (hb9.mono hB6.size)⟩
end Go.Proofs.Ytgjnbpimldjkpaa
