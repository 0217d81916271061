/- Layer collide: Bind. -/
import Derived.Test.YtgjnbpimldjkpaaCp
namespace Go.Proofs.Ytgjnbpimldjkpaa
open Go.RowKit
set_option linter.unusedVariables false
set_option linter.unusedSimpArgs false

/-- What two proofs exhibit. -/
def bindO (i : Int) (A : List Int) (ls : List (List Int)) (B : List Int) (ls' : List (List Int)) : Option (List Int × List Int) :=
  if ls.length = ls'.length ∧ FoOK i ls.length ∧ fo i.toNat A ls = fo i.toNat B ls' then low (pth i.toNat A ls) (pth i.toNat B ls') else none
theorem run_neq24 {X Y : List Int} (hX : X.length = 32) (hY : Y.length = 32) (w : World) : (binOp .neq 29 (.agg (h8 X)) (.agg (h8 Y))).run Try.prog w = .ok (.bool (!decide (X = Y))) w := by
  have h := run_eqIn24 hX hY w
  rw [run_neq_struct, h]
  rfl
theorem bpost_none {w w' : World} {r : Ending} (hr : r = .returned (.tuple #[.slice none 0 0, .slice none 0 0, .bool false])) (hb : Below w.heap.size w w') : BPost none w r w' :=
  ⟨none, 0, 0, none, 0, 0, hr, BS.nil0 _ _, BS.nil0 _ _, hb⟩
set_option maxRecDepth 100000 in
set_option maxHeartbeats 2000000 in
theorem bind_any (i : Int) (A B : List Int) (sp sp' : Option Addr) (n cap n' cap' : Nat) (ls ls' : List (List Int)) (hA : A.length = 32) (hB : B.length = 32) (bA : Bts A) (bB : Bts B) (bl : ∀ Y ∈ ls, Bts Y) (bl' : ∀ Y ∈ ls', Bts Y) (N : Nat) (w : World) (hS : HS N w sp n cap ls) (hS' : HS N w sp' n' cap' ls') :
    Calls Try.prog 12 #[.int .i64 i, .agg (h8 A), .slice sp n cap, .agg (h8 B), .slice sp' n' cap'] w (BPost (bindO i A ls B ls') w) := by
  have hS := hS.here
  have hS' := hS'.here
  have hl := hS.len
  have hl' := hS'.len
  have A0 := (Arr.new w 29 (h8 A)).alloc (.cells (h8 B) 29)
  have A1 := Arr.new (w.alloc (.cells (h8 A) 29)) 29 (h8 B)
  rw [World.size_alloc] at A1
  have hb1 : Below w.heap.size w ((w.alloc (.cells (h8 A) 29)).alloc (.cells (h8 B) 29)) := (alloc_bel' w _).alloc (by simp) _
  by_cases hnn : n = n'
  · subst hnn
    have hne : ((n : Int) != n) = false := by simp
    have hlen : ls.length = ls'.length := by rw [← hl.out, ← hl'.out]
    have hf1 := fold_any i A w.heap.size sp n cap ls _ hA (hS.below hb1)
    have hfl := foR_len (i := i) (ls := ls) hA
    have hfl' := foR_len (i := i) (ls := ls') hB
    have hfB := fun (u : World) (hu : HS w.heap.size u sp' n cap' ls') => fold_any i B w.heap.size sp' n cap' ls' u hB hu
    have hr1 : foR i A ls = if FoOK i ls.length then fo i.toNat A ls else Z32 := rfl
    have hr2 : foR i B ls' = if FoOK i ls'.length then fo i.toNat B ls' else Z32 := rfl
    obtain ⟨RA, hRA⟩ : ∃ R, R = foR i A ls := ⟨_, rfl⟩
    obtain ⟨RB, hRB⟩ : ∃ R, R = foR i B ls' := ⟨_, rfl⟩
    rw [← hRA] at hf1 hfl hr1
    rw [← hRB] at hfB hfl' hr2
    clear hRA hRB
    replace hr1 := Hid.mk' hr1
    replace hr2 := Hid.mk' hr2
    replace hf1 := Hid.mk' hf1
    replace hfB := Hid.mk' hfB
    by_cases hFo : FoOK i ls.length
    · have hFo' : FoOK i ls'.length := by rw [← hlen]; exact hFo
      have e1 : foE i ls = 0 := by unfold foE; rw [if_pos hFo]
      have e2 : foE i ls' = 0 := by unfold foE; rw [if_pos hFo']
      have r1 : RA = fo i.toNat A ls := by rw [hr1.out, if_pos hFo]
      have r2 : RB = fo i.toNat B ls' := by rw [hr2.out, if_pos hFo']
      have hq := run_neq24 hfl hfl'
      rw [e1] at hf1
      replace e2 := Hid.mk' e2
      by_cases hr : RA = RB
      · rw [decide_eq_true hr] at hq
        have hbo : Hid (bindO i A ls B ls' = low (pth i.toNat A ls) (pth i.toNat B ls')) := Hid.mk' (by unfold bindO; rw [if_pos ⟨hlen, hFo, by rw [← r1, ← r2]; exact hr⟩])
        obtain ⟨h16, h0, h2n⟩ := hFo
        have hi : i = ((i.toNat : Nat) : Int) := by omega
        have hn16 : n ≤ 16 := by rw [hl.out]; exact h16
        have him : i.toNat ≤ 9223372036854775807 := by have := pow16 h16; omega
        have k1 := built64 i A hA
        have k2 := built64 i B hB
        replace r1 := Hid.mk' r1
        replace r2 := Hid.mk' r2
        replace hr := Hid.mk' hr
        replace hi := Hid.mk' hi
        replace bl := Hid.mk' bl
        replace bl' := Hid.mk' bl'
        replace h2n := Hid.mk' h2n
        clear hFo' hlen
        go_enter Try.func12, Try.ntmps12
        go_upto_region 4 with (first
          | (refine ld24 (by rfl) (.tmp 6) (by rfl) w.heap.size 0 (by rfl) A hA A0.range ?_)
          | (go_at_call 26; go_must (refine hf1.out.mono ?_; rintro e w2 ⟨rfl, hb2⟩; have hB2 := (hb1.trans (hb2.mono hb1.size)); have C2 := hB2.alloc hB2.size (.cells (h8 RA) 29); have A12 := (A1.bel hb2).alloc (.cells (h8 RA) 29); have A02 := (A0.bel hb2).alloc (.cells (h8 RA) 29); have R2 := Arr.new w2 29 (h8 RA); have hf2 := hfB.out (w2.alloc (.cells (h8 RA) 29)) (hS'.below C2); rw [e2.out] at hf2))
          | (refine st24n (by rfl) _ _ (by rfl) w2 w2.heap.size rfl (by rfl) _ (by rfl) (by rfl) hfl ?_))
        go_upto_region 5 with (first
          | (refine ld24 (by rfl) (.tmp 8) (by rfl) (w.heap.size + 1) 0 (by rfl) B hB A12.range ?_)
          | (go_at_call 26; go_must (refine hf2.mono ?_; rintro e w3 ⟨rfl, hb3⟩; have hB3 := (C2.trans (hb3.mono C2.size))))
          | (refine st24n (by rfl) _ _ (by rfl) w3 w3.heap.size rfl (by rfl) _ (by rfl) (by rfl) hfl' ?_))
        have A03 := (A02.bel hb3).alloc (.cells (h8 RB) 29)
        have A13 := (A12.bel hb3).alloc (.cells (h8 RB) 29)
        have R23 := (R2.bel hb3).alloc (.cells (h8 RB) 29)
        have R33 := Arr.new w3 29 (h8 RB)
        have C3 := hB3.alloc hB3.size (.cells (h8 RB) 29)
        generalize w3.alloc (.cells (h8 RB) 29) = W3 at *
        go_upto_region 7 with (first
          | (refine ld24g (by rfl) (.tmp 13) (by rfl) w2.heap.size 0 (by rfl) _ hfl R23.range ?_)
          | (refine ld24g (by rfl) (.tmp 15) (by rfl) w3.heap.size 0 (by rfl) _ hfl' R33.range ?_))
        have hlo := Hid.mk' (lowest_any W3.heap.size (W3.heap.size + 1 + 1) (W3.heap.size + 1) (W3.heap.size + 1 + 1 + 1) i.toNat A B sp sp' n cap cap' ls ls' hA hB bA bB bl.out bl'.out him hn16 ((((W3.alloc (.cells (clA i A) 64)).alloc (.cells #[.slice sp n cap] 30)).alloc (.cells (clA i B) 64)).alloc (.cells #[.slice sp' n cap'] 30)) ⟨by simp <;> omega, by simp <;> omega, by simp <;> omega, by simp⟩ (by
          have B1 := (((Arr.new W3 64 (clA i A)).alloc (.cells #[.slice sp n cap] 30)).alloc (.cells (clA i B) 64)).alloc (.cells #[.slice sp' n cap'] 30)
          have B3 := ((Arr.new (W3.alloc (.cells (clA i A) 64)) 30 #[.slice sp n cap]).alloc (.cells (clA i B) 64)).alloc (.cells #[.slice sp' n cap'] 30)
          have B2 := (Arr.new ((W3.alloc (.cells (clA i A) 64)).alloc (.cells #[.slice sp n cap] 30)) 64 (clA i B)).alloc (.cells #[.slice sp' n cap'] 30)
          have B4 := Arr.new (((W3.alloc (.cells (clA i A) 64)).alloc (.cells #[.slice sp n cap] 30)).alloc (.cells (clA i B) 64)) 30 #[.slice sp' n cap']
          simp only [World.size_alloc] at B2 B3 B4
          have hbb : Below W3.heap.size W3 ((((W3.alloc (.cells (clA i A) 64)).alloc (.cells #[.slice sp n cap] 30)).alloc (.cells (clA i B) 64)).alloc (.cells #[.slice sp' n cap'] 30)) := (((alloc_bel' W3 _).alloc (by simp) _).alloc (by simp; omega) _).alloc (by simp; omega) _
          have hC := C3.trans (hbb.mono C3.size)
          refine ⟨?_, ?_, by simpa using B3.cell 0, by simpa using B4.cell 0, (hS.below hC).here, (hS'.below hC).here, Nat.le_refl _⟩
          · rw [← hi.out]; exact CL.of_arr B1 hA
          · rw [← hi.out]; exact CL.of_arr B2 hB))
        go_wp2_with (first
          | (refine ld24 (by rfl) (.tmp 6) (by rfl) w.heap.size 0 (by rfl) A hA A03.range ?_)
          | (refine ld24 (by rfl) (.tmp 8) (by rfl) (w.heap.size + 1) 0 (by rfl) B hB A13.range ?_)
          | (refine bdT (by rfl) 64 #[(0, .func 27), (1, .tmp 47), (2, .tmp 48)] (by rfl) (by rfl) k1 ?_)
          | (refine bdT (by rfl) 64 #[(0, .func 27), (1, .tmp 51), (2, .tmp 52)] (by rfl) (by rfl) k2 ?_)
          | (go_at_call 30; go_must (refine (side_any i A B sp sp' n cap n cap' W3).mono ?_; rintro e w4 ⟨rfl, rfl⟩))
          | (go_at_call 29; go_must (refine hlo.out.mono ?_; rintro e w5 ⟨q1, m1, p1, q2, m2, p2, rfl, hq1, hq2, hb5⟩)))
        go_ret3
        rw [hbo.out]
        refine ⟨q1, m1, p1, q2, m2, p2, rfl, hq1, hq2, ?_⟩
        have hbb : Below W3.heap.size W3 ((((W3.alloc (.cells (clA i A) 64)).alloc (.cells #[.slice sp n cap] 30)).alloc (.cells (clA i B) 64)).alloc (.cells #[.slice sp' n cap'] 30)) := (((alloc_bel' W3 _).alloc (by simp) _).alloc (by simp; omega) _).alloc (by simp; omega) _
        have hC := C3.trans (hbb.mono C3.size)
        exact hC.trans (hb5.mono hC.size)
      · rw [decide_eq_false hr] at hq
        have hbo : Hid (bindO i A ls B ls' = none) := Hid.mk' (by unfold bindO; rw [if_neg (fun h => hr (by rw [r1, r2]; exact h.2.2))])
        replace r1 := Hid.mk' r1
        replace r2 := Hid.mk' r2
        replace hr := Hid.mk' hr
        replace hFo := Hid.mk' hFo
        clear hFo' hlen
        go_enter Try.func12, Try.ntmps12
        go_upto_region 4 with (first
          | (refine ld24 (by rfl) (.tmp 6) (by rfl) w.heap.size 0 (by rfl) A hA A0.range ?_)
          | (go_at_call 26; go_must (refine hf1.out.mono ?_; rintro e w2 ⟨rfl, hb2⟩; have hB2 := (hb1.trans (hb2.mono hb1.size)); have C2 := hB2.alloc hB2.size (.cells (h8 RA) 29); have A12 := (A1.bel hb2).alloc (.cells (h8 RA) 29); have R2 := Arr.new w2 29 (h8 RA); have hf2 := hfB.out (w2.alloc (.cells (h8 RA) 29)) (hS'.below C2); rw [e2.out] at hf2))
          | (refine st24n (by rfl) _ _ (by rfl) w2 w2.heap.size rfl (by rfl) _ (by rfl) (by rfl) hfl ?_))
        go_upto_region 5 with (first
          | (refine ld24 (by rfl) (.tmp 8) (by rfl) (w.heap.size + 1) 0 (by rfl) B hB A12.range ?_)
          | (go_at_call 26; go_must (refine hf2.mono ?_; rintro e w3 ⟨rfl, hb3⟩; have hB3 := (C2.trans (hb3.mono C2.size))))
          | (refine st24n (by rfl) _ _ (by rfl) w3 w3.heap.size rfl (by rfl) _ (by rfl) (by rfl) hfl' ?_))
        have R23 := (R2.bel hb3).alloc (.cells (h8 RB) 29)
        have R33 := Arr.new w3 29 (h8 RB)
        have C3 := hB3.alloc hB3.size (.cells (h8 RB) 29)
        generalize w3.alloc (.cells (h8 RB) 29) = W3 at *
        go_wp2_with (first
          | (refine ld24g (by rfl) (.tmp 13) (by rfl) w2.heap.size 0 (by rfl) _ hfl R23.range ?_)
          | (refine ld24g (by rfl) (.tmp 15) (by rfl) w3.heap.size 0 (by rfl) _ hfl' R33.range ?_))
        go_ret3
        rw [hbo.out]
        exact bpost_none rfl C3
    · have e1 : foE i ls = 2 := by unfold foE; rw [if_neg hFo]
      rw [e1] at hf1
      have hbo : Hid (bindO i A ls B ls' = none) := Hid.mk' (by unfold bindO; rw [if_neg (fun h => hFo h.2.1)])
      replace hFo := Hid.mk' hFo
      go_enter Try.func12, Try.ntmps12
      go_upto_region 4 with (first
        | (refine ld24 (by rfl) (.tmp 6) (by rfl) w.heap.size 0 (by rfl) A hA A0.range ?_)
        | (go_at_call 26; go_must (refine hf1.out.mono ?_; rintro e w2 ⟨rfl, hb2⟩; have hB2 := (hb1.trans (hb2.mono hb1.size)); have C2 := hB2.alloc hB2.size (.cells (h8 RA) 29); have A12 := (A1.bel hb2).alloc (.cells (h8 RA) 29); have hf2 := hfB.out (w2.alloc (.cells (h8 RA) 29)) (hS'.below C2)))
        | (refine st24n (by rfl) _ _ (by rfl) w2 w2.heap.size rfl (by rfl) RA (by rfl) (by rfl) hfl ?_))
      go_wp2_with (first
        | (refine ld24 (by rfl) (.tmp 8) (by rfl) (w.heap.size + 1) 0 (by rfl) B hB A12.range ?_)
        | (go_at_call 26; go_must (refine hf2.mono ?_; rintro e w3 ⟨rfl, hb3⟩; have hB3 := (C2.trans (hb3.mono C2.size))))
        | (refine st24n (by rfl) _ _ (by rfl) w3 w3.heap.size rfl (by rfl) RB (by rfl) (by rfl) hfl' ?_))
      go_ret3
      rw [hbo.out]
      exact bpost_none rfl (hB3.alloc hB3.size _)
  · have hne : ((n : Int) != n') = true := by simp; omega
    have hlen : ¬ ls.length = ls'.length := by rw [← hl.out, ← hl'.out]; exact hnn
    have hbo : Hid (bindO i A ls B ls' = none) := Hid.mk' (by unfold bindO; rw [if_neg (fun h => hlen h.1)])
    replace hnn := Hid.mk' hnn
    replace hlen := Hid.mk' hlen
    go_enter Try.func12, Try.ntmps12
    go_wp2_with fail
    go_ret3
    rw [hbo.out]
    exact bpost_none rfl hb1
end Go.Proofs.Ytgjnbpimldjkpaa
