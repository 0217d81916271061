/- Ak, Me, Al, Ao0, Ka, Kd, Am. -/
import Derived.Test.YtagebcbnenehfaaGreatX16
import Derived.Handy
namespace Go.Proofs.YtagebcbnenehfaaGreat
open Go.RowKit
set_option maxRecDepth 100000
set_option linter.unusedVariables false
set_option linter.unusedSimpArgs false
set_option maxHeartbeats 40000000
theorem rR_okM {m : Nat} (hm : m ≤ 12) {ls : List (List Int)} (h : ls.length = 2 ^ m) : rE m ls.length = 0 ∧ rR m ls = tr m ls := by
 have e : rE m ls.length = 0 := by unfold rE; rw [if_pos ⟨by omega, by omega⟩, if_pos (by rw [h]; simp)]
 refine ⟨e, ?_⟩
 unfold rR
 rw [if_pos e]; simp
theorem lvs_take {L : List Int} {j n : Nat} (hL : L.length = n) (hj : j < n) : (lvs L).take (j + 1) = (lvs L).take j ++ [lw (L.getD j 0)] := by
 rw [take_snoc (by rw [lvs_len, hL]; exact hj), tat_lvs (by rw [hL]; exact hj)]
theorem rootM_ok (sp : Option Addr) (n cap d : Nat) (L : List Int) (N : Nat) (w : World) (hM : MS N w sp n cap L) (hU : ∀ k, U64 (L.getD k 0)) (hd : d ≤ 12) (hn : Hid (n = 2 ^ d)) :
   Calls Tryz.prog 247 #[.slice sp n cap] w fun e w' => e = .returned (.tuple #[.agg (h8 (rW L)), .int .i64 0]) ∧ Below w.heap.size w w' := by
 obtain ⟨i0, hi0, hz0, hz1, hz2⟩ := info_parts info24
 have hsz : szB L.length = true := by rw [← hM.len.out, hn.out]; exact pow_szB hd
 have hmb := fun w hM => mayBe_any sp n cap L w.heap.size w hM hU
 rw [hsz] at hmb
 clear hsz
 have hn4 : n ≤ 4096 := by rw [hn.out]; exact pow12 hd
 have hn0 : 0 < n := by rw [hn.out]; exact Nat.pow_pos (by omega)
 have hMh := hM.here
 have hL : Hid (L.length = n) := Hid.mk' hM.len.out.symm
 have hle := hM.le
 obtain ⟨g, off, rfl, -⟩ := hM.at0 hn0
 clear hM
 have hdep := fun w => depthOf_any d n hd hn w
 have hR := rW_pow (L := L) hd (by rw [hL.out, hn.out])
 have hrt := fun (s : Option Addr) (c : Nat) (U : World) (h : HS U.heap.size U s n c (lvs L)) => root_any (d : Int) U.heap.size s n c (lvs L) U h
 have hrr := rR_okM hd (show (lvs L).length = 2 ^ d by rw [lvs_len, hL.out, hn.out])
 rw [hrr.1, hrr.2, ← hR.1] at hrt
 have hRl := rW_len L
 clear hrr hR
 generalize rW L = R at *
 have A0 := Arr.new w 30 (h8 Z32)
 have hb0 := alloc_bel' w (.cells (h8 Z32) 30)
 have hM0 := (hMh.below hb0).mono (show w.heap.size ≤ (w.alloc (.cells (h8 Z32) 30)).heap.size by simp)
 rw [h8_Z] at A0 hb0 hM0
 go_enter Tryz.func247, Tryz.ntmps247
 go_upto_region 4 with (first
   | (go_at_call 68; go_must (refine (hmb _ hM0).mono ?_; rintro e w1 ⟨rfl, hb1⟩; have hs1 := hb1.size; simp at hs1; have A1 := A0.below hb1 (by simp); have hB1 := hb0.trans (hb1.mono (by simp))))
   | (at_make; go_must (refine wpList_make_own _ (by rfl) (.const (.int .i64 0)) (.tmp 12) 81 (by rfl) w1.heap.size 30 i0 (.agg (h8 Z32)) 32 Tryz.underlying81 hi0 hz0 hz1 .i64 .i64 _ n (by rfl) (by rfl) (by omega) (by rw [hz2]; omega) (by unfold maxLen; omega) (Nat.le_refl _) ?_; intro w2 hown2 hg2)))
 have hB2 : Below w1.heap.size w1 w2 := (Below.refl _ _).grown hg2 (Nat.le_refl _) (by simp)
 have hown2' : w2.ownsRow w1.heap.size 30 32 (.slice (some ⟨w1.heap.size, 0, none⟩) 0 n) 0 (flat32 []) := by simpa [flat32] using hown2
 clear hown2 hg2 hmb hM0
 go_wp2_with fail
 go_loopw [4, 16] (fun v q wr => ∃ (j : Nat), q = .int .i64 (j : Int) ∧ j ≤ n ∧ Below w1.heap.size w1 wr ∧ wr.ownsRow w1.heap.size 30 32 v j (flat32 ((lvs L).take j))) (fun _ q _ => n - (intOf q).toNat)
 case atStart => exact ⟨0, rfl, by omega, hB2, by simpa using hown2'⟩
 case round =>
   clear hB2 hown2'
   obtain ⟨j, rfl, hj, hbl, hown⟩ := hrel
   have hbs := hbl.size
   have hbw := hB1.trans (hbl.mono (by omega))
   by_cases hlt : j < n
   · have hI : (j : Int) < n := by omega
     obtain ⟨g', off', e', -, hC⟩ := (hMh.below hbw).at0 hn0
     cases e'
     have hc := hC j hlt
     clear hC
     have hjc : j < cap := by omega
     have htk : Hid ((lvs L).take (j + 1) = (lvs L).take j ++ [lw (L.getD j 0)]) := Hid.mk' (lvs_take hL.out hlt)
     generalize L.getD j 0 = x at *
     have hx32 := lw_len x
     have hlf := fun w => leafOf_any x w
     generalize lw x = X at *
     generalize (lvs L).take j = T at *
     go_wp2_with (first
       | (go_at_call 71; go_must (refine (hlf _).mono ?_; rintro e w3 ⟨rfl, hb3⟩; have hs3 := hb3.size; have own3 := own_same hown (fun k hk => hb3.block k (hown.lt k hk).2)))
       | (refine b43 (by rfl) (.tmp 22) (by rfl) X (by rfl) hx32 ?_)
       | (refine atA (.tmp 20) (.tmp 23) ?_; go_must (refine ag43 (by rfl) (.tmp 20) (.tmp 23) (by rfl) w1.heap.size j _ T X (by rfl) (own3.alloc _) w3.heap.size 1 (by rfl) (Arr.new w3 30 (h8 X)) hx32 (by omega) (by simp; omega) ?_; intro v' w4 hown4 hg4)))
     go_roundw
     case rel => exact ⟨j + 1, by go_num, by omega, grown_below ((hbl.trans (hb3.mono hbs)).alloc (by omega) _) hg4 (fun k hk => (hown.lt k hk).1) (by simp; omega), by rw [htk.out]; exact hown4⟩
     case measure => simp [intOf]; omega
   · obtain rfl : j = n := by omega
     have hI : ¬ (j : Int) < j := by omega
     have htk : Hid ((lvs L).take j = lvs L) := Hid.mk' (List.take_of_length_le (by rw [lvs_len, hL.out]; exact Nat.le_refl _))
     rw [htk.out] at hown
     obtain ⟨s, c, rfl, hH, -⟩ := own_hs hown (lvs_l32 L) (by rw [lvs_len, hL.out]) (by omega)
     have A4 := A1.below hbl A1.lt
     clear htk
     go_wp2_with (first
       | (go_at_call 146; go_must (refine (hdep _).mono ?_; rintro e w5 ⟨rfl, h⟩; replace h := h.symm; subst h))
       | (go_at_call 251; go_must (refine (hrt _ _ _ hH).mono ?_; rintro e w6 ⟨rfl, hb6⟩; have A6 := A4.below hb6 A4.lt))
       | (refine st24 (by rfl) _ _ (by rfl) w.heap.size R Z32 (by rfl) (by rfl) hRl Z32_len A6 ?_))
     exact bodyPost_ret (v := .tuple #[.agg (h8 R), .int .i64 0]) (resP Tryz.results247 rfl rfl hRl (A6.setRow _)) rfl ⟨rfl, below_setRow (hbw.trans (hb6.mono (by omega))) (Nat.le_refl _) _⟩
theorem refDepth_any (d n : Nat) (hd : d ≤ 12) (hn : Hid (n = 2 ^ d)) (w : World) : Calls Tryz.prog 35 #[.int .i64 (n : Int)] w fun e w' => e = .returned (.int .i64 d) ∧ w' = w := by
 go_enter Tryz.func35, Tryz.ntmps35
 go_wp2_with fail
 go_loopw [3] (fun q wr => ∃ (k : Nat), q = .int .i64 (k : Int) ∧ k ≤ d ∧ wr = w) (fun q _ => d - (intOf q).toNat)
 case atStart => exact ⟨0, rfl, by omega, rfl⟩
 case round =>
   obtain ⟨k, rfl, hk, hw⟩ := hrel
   subst hw
   have hk16 : k ≤ 16 := by omega
   have hwp := wrap_pow hk16
   have hku : (k : Int) % 18446744073709551616 = k := by omega
   have hcmp : Hid (k < d → 2 ^ k < n) := Hid.mk' (fun h => by rw [hn.out]; exact Nat.pow_lt_pow_right (by omega) h)
   have hcmp2 : Hid (¬ k < d → ¬ 2 ^ k < n) := Hid.mk' (fun h => by rw [hn.out, show k = d by omega]; omega)
   obtain ⟨p, hp⟩ : ∃ p : Nat, p = 2 ^ k := ⟨_, rfl⟩
   rw [← hp] at hwp hcmp hcmp2
   replace hp := Hid.mk' hp
   by_cases hlt : k < d
   · have h1 : (p : Int) < n := by have := hcmp.out hlt; omega
     go_wp2_with fail
     go_roundw
     case rel => exact ⟨k + 1, by go_num, by omega, by first | trivial | rfl⟩
     case measure => simp [intOf]; omega
   · have h1 : ¬ (p : Int) < n := by have := hcmp2.out hlt; omega
     obtain rfl : k = d := by omega
     go_wp2_with fail
     go_ret
     exact ⟨rfl, rfl⟩
theorem refLeaves_anyM (sp : Option Addr) (n cap : Nat) (L : List Int) (N : Nat) (w : World) (hM : MS N w sp n cap L) (hn4 : n ≤ 4096) :
   Calls Tryz.prog 84 #[.slice sp n cap] w fun e w' => ∃ s c, e = .returned (.slice s n c) ∧ HS w'.heap.size w' s n c (lvs L) ∧ Below w.heap.size w w' := by
 have hMh := hM.here
 have hL : Hid (L.length = n) := Hid.mk' hM.len.out.symm
 have hle := hM.le
 clear hM
 go_enter Tryz.func84, Tryz.ntmps84
 go_wp2_with fail
 go_loopw [3, 4] (fun v q wr => ∃ (j : Nat), q = .int .i64 (j : Int) ∧ j ≤ n ∧ Below w.heap.size w wr ∧ wr.ownsRow w.heap.size 30 32 v j (flat32 ((lvs L).take j))) (fun _ q _ => n - (intOf q).toNat)
 case atStart => exact ⟨0, rfl, by omega, Below.refl _ _, by simpa [flat32] using World.ownsRow_nil w w.heap.size 30 32⟩
 case round =>
   obtain ⟨j, rfl, hj, hbl, hown⟩ := hrel
   have hbs := hbl.size
   by_cases hlt : j < n
   · have hI : (j : Int) < n := by omega
     obtain ⟨g', off', rfl, -, hC⟩ := (hMh.below hbl).at0 (by omega)
     have hc := hC j hlt
     clear hC
     have hjc : j < cap := by omega
     have htk : Hid ((lvs L).take (j + 1) = (lvs L).take j ++ [lw (L.getD j 0)]) := Hid.mk' (lvs_take hL.out hlt)
     generalize L.getD j 0 = x at *
     have hx32 := lw_len x
     have hlf := fun w => refLeafW_any x w
     generalize lw x = X at *
     generalize (lvs L).take j = T at *
     go_wp2_with (first
       | (go_at_call 66; go_must (refine (hlf _).mono ?_; rintro e w3 ⟨rfl, hb3⟩; have hs3 := hb3.size; have own3 := own_same hown (fun k hk => hb3.block k (hown.lt k hk).2)))
       | (refine b43 (by rfl) (.tmp 16) (by rfl) X (by rfl) hx32 ?_)
       | (refine atA (.tmp 11) (.tmp 17) ?_; go_must (refine ag43 (by rfl) (.tmp 11) (.tmp 17) (by rfl) w.heap.size j _ T X (by rfl) (own3.alloc _) w3.heap.size 1 (by rfl) (Arr.new w3 30 (h8 X)) hx32 (by omega) (by simp; omega) ?_; intro v' w4 hown4 hg4)))
     go_roundw
     case rel => exact ⟨j + 1, by go_num, by omega, grown_below ((hbl.trans (hb3.mono hbs)).alloc (by omega) _) hg4 (fun k hk => (hown.lt k hk).1) (by simp; omega), by rw [htk.out]; exact hown4⟩
     case measure => simp [intOf]; omega
   · obtain rfl : j = n := by omega
     have hI : ¬ (j : Int) < j := by omega
     rw [List.take_of_length_le (by rw [lvs_len, hL.out]; exact Nat.le_refl _)] at hown
     obtain ⟨s, c, rfl, hH, -⟩ := own_hs hown (lvs_l32 L) (by rw [lvs_len, hL.out]) (by omega)
     go_wp2_with fail
     go_ret
     exact ⟨s, c, rfl, hH, hbl⟩
theorem ld24g {ops : Array Oper} {rest : List Oper} {o : Oper} {a : Act} {w : World} {Q : Exit → Act → World → Prop} (hgd : Region.wanted o (yielded ops a.tmps) = true) (x : Operand) (ho : o.op = .load 30 x)
   (b off : Nat) (hx : a.eval x = .pointer (some ⟨b, off, none⟩)) (X : List Int) (hX : X.length = 32) (hc : w.rangeAt b off (by8 X))
   (h : wpList Tryz.prog ops Q rest (a.put o.dst (.agg (h8 X))) w) : wpList Tryz.prog ops Q (o :: rest) a w :=
 wpList_want hgd fun _ hK => wp_load_mid 30 x ho b off hx (by8 X) _ hc Tryz.underlying30 rfl (by rw [by8_len, hX]; exact size24) (hK _ _ h)
def ckB (R : List Int) (i : Int) (X : List Int) (ls : List (List Int)) : Bool := decide (FoOK i ls.length ∧ fo i.toNat X ls = R)
set_option maxRecDepth 100000 in
theorem check_any (R : List Int) (i : Int) (X : List Int) (N : Nat) (sp : Option Addr) (n cap : Nat) (ls : List (List Int)) (w : World) (hR : R.length = 32) (hX : X.length = 32) (hS : HS N w sp n cap ls) :
   Calls Tryz.prog 245 #[.agg (h8 R), .int .i64 i, .agg (h8 X), .slice sp n cap] w fun e w' => e = .returned (.bool (ckB R i X ls)) ∧ Below w.heap.size w w' := by
 have hb2 : Below w.heap.size w ((w.alloc (.cells (h8 R) 30)).alloc (.cells (h8 X) 30)) := (alloc_bel' w _).alloc (by simp) _
 have A0 := (Arr.new w 30 (h8 R)).alloc (.cells (h8 X) 30)
 have A1 := Arr.new (w.alloc (.cells (h8 R) 30)) 30 (h8 X)
 rw [World.size_alloc] at A1
 have hS2 := hS.here.below hb2
 have hF := fun w hS => fold_any i X w.heap.size sp n cap ls w hX hS
 unfold foR foE at hF
 unfold ckB
 by_cases h : FoOK i ls.length
 · rw [if_pos h, if_pos h] at hF
   have hfl := fo_len (i := i.toNat) (ps := ls) hX
   have E := run_eq24 hfl hR
   rw [show decide (FoOK i ls.length ∧ fo i.toNat X ls = R) = decide (fo i.toNat X ls = R) from decide_eq_decide.2 ⟨fun q => q.2, fun q => ⟨h, q⟩⟩]
   generalize fo i.toNat X ls = Y at *
   clear h
   generalize decide (Y = R) = b at *
   go_enter Tryz.func245, Tryz.ntmps245
   go_wp2_with (first
     | (refine ld24g (by rfl) _ (by rfl) (w.heap.size + 1) 0 (by rfl) X hX A1.range ?_)
     | (go_at_call 246; go_must (refine (hF _ (hS2.mono (by simp <;> omega))).mono ?_; rintro e w2 ⟨rfl, hb3⟩; have hs3 := hb3.size; simp at hs3; have B0 := (A0.below hb3 (by simp <;> omega)).alloc (.cells (h8 Y) 30); have B1 := Arr.new w2 30 (h8 Y)))
     | (refine st24n (by rfl) _ _ (by rfl) w2 w2.heap.size rfl (by rfl) Y (by rfl) (by rfl) hfl ?_)
     | (refine ld24g (by rfl) _ (by rfl) w2.heap.size 0 (by rfl) Y hfl B1.range ?_)
     | (refine ld24g (by rfl) _ (by rfl) w.heap.size 0 (by rfl) R hR B0.range ?_))
   go_ret
   exact ⟨rfl, (hb2.trans (hb3.mono (by simp <;> omega))).alloc (by omega) _⟩
 · rw [if_neg h, if_neg h] at hF
   rw [decide_eq_false (fun hh => h hh.1)]
   clear h
   go_enter Tryz.func245, Tryz.ntmps245
   go_wp2_with (first
     | (refine ld24g (by rfl) _ (by rfl) (w.heap.size + 1) 0 (by rfl) X hX A1.range ?_)
     | (go_at_call 246; go_must (refine (hF _ (hS2.mono (by simp <;> omega))).mono ?_; rintro e w2 ⟨rfl, hb3⟩; have hs3 := hb3.size; simp at hs3; have B1 := Arr.new w2 30 (h8 Z32)))
     | (refine st24n (by rfl) _ _ (by rfl) w2 w2.heap.size rfl (by rfl) Z32 (by rfl) (by rfl) Z32_len ?_))
   go_ret
   exact ⟨rfl, (hb2.trans (hb3.mono (by simp <;> omega))).alloc (by omega) _⟩
theorem refRootM_any (sp : Option Addr) (n cap : Nat) (L : List Int) (N : Nat) (w : World) (hM : MS N w sp n cap L) :
   Calls Tryz.prog 34 #[.slice sp n cap] w fun e w' => e = .returned (.tuple #[.agg (h8 (rW L)), .int .i64 (eW L)]) ∧ Below w.heap.size w w' := by
 have hsm := hM.small
 have hsz := fun w => refSize_any (n : Int) w (by omega)
 rw [szI_nat, hM.len.out] at hsz
 have A0 := Arr.new w 30 (h8 Z32)
 have hb0 := alloc_bel' w (.cells (h8 Z32) 30)
 rw [← hM.len.out] at hsz
 have hM0 := hM.here.below hb0
 rw [h8_Z] at A0 hb0 hM0
 have hl := hM.len.out
 cases h : szB L.length with
 | true =>
   rw [← hl] at h
   rw [h] at hsz
   obtain ⟨d, hd, e⟩ := szB_pow h
   have hn4 : n ≤ 4096 := by rw [e]; exact pow12 hd
   have hR := rW_pow (L := L) hd (by rw [← hl, e])
   have hrr := rR_okM hd (show (lvs L).length = 2 ^ d by rw [lvs_len, ← hl, e])
   have hrt := fun (s : Option Addr) (c : Nat) (U : World) (h : HS U.heap.size U s n c (lvs L)) => refRoot_any (d : Int) U.heap.size s n c (lvs L) U h
   rw [hrr.1, hrr.2, ← hR.1] at hrt
   rw [hR.2]
   have hRl := rW_len L
   have hdep := fun w => refDepth_any d n hd (Hid.mk' e) w
   have hlv := refLeaves_anyM sp n cap L w.heap.size _ hM0 hn4
   clear hrr hR h e hl hM
   generalize rW L = R at *
   go_enter Tryz.func34, Tryz.ntmps34
   go_wp2_with (first
     | (go_at_call 82; go_must (refine (hsz _).mono ?_; rintro e w1 ⟨rfl, h⟩; replace h := h.symm; subst h))
     | (go_at_call 35; go_must (refine (hdep _).mono ?_; rintro e w1 ⟨rfl, h⟩; replace h := h.symm; subst h))
     | (go_at_call 84; go_must (refine hlv.mono ?_; rintro e w2 ⟨s2, c2, rfl, hH2, hb2⟩; have A2 := A0.below hb2 (by simp); have hB2 := hb0.trans (hb2.mono (by simp))))
     | (go_at_call 83; go_must (refine (hrt _ _ _ hH2).mono ?_; rintro e w3 ⟨rfl, hb3⟩; have A3 := A2.below hb3 A2.lt; have hB3 := hB2.trans (hb3.mono (by have := A2.lt; omega)); have A4 := A3.alloc (.cells (h8 R) 30); have A5 := Arr.new w3 30 (h8 R)))
     | (refine st24n (by rfl) _ _ (by rfl) w3 w3.heap.size rfl (by rfl) R (by rfl) (by rfl) hRl ?_)
     | (refine ld24 (by rfl) _ (by rfl) w3.heap.size 0 (by rfl) R hRl A5.range ?_)
     | (refine st24 (by rfl) _ _ (by rfl) w.heap.size R Z32 (by rfl) (by rfl) hRl Z32_len A4 ?_))
   exact bodyPost_ret (v := .tuple #[.agg (h8 R), .int .i64 0]) (resP Tryz.results34 rfl rfl hRl (A4.setRow _)) rfl ⟨rfl, below_setRow (hB3.alloc (by have := A3.lt; omega) _) (Nat.le_refl _) _⟩
 | false =>
   rw [(rW_no h).1, (rW_no h).2]
   rw [← hl] at h
   rw [h] at hsz
   clear h hl hM hM0
   go_enter Tryz.func34, Tryz.ntmps34
   go_wp2_with (first
     | (go_at_call 82; go_must (refine (hsz _).mono ?_; rintro e w1 ⟨rfl, h⟩; replace h := h.symm; subst h))
     | (refine st24 (by rfl) _ _ (by rfl) w.heap.size Z32 Z32 (by rfl) (by rfl) Z32_len Z32_len A0 ?_))
   exact bodyPost_ret (v := .tuple #[.agg (h8 Z32), .int .i64 2]) (resP Tryz.results34 rfl rfl Z32_len (A0.setRow _)) rfl ⟨rfl, below_setRow hb0 (Nat.le_refl _) _⟩
def ckW (R : List Int) (x y : Int) (ls : List (List Int)) : Bool := decide (ls.length ≤ 12 ∧ x < (2 ^ ls.length : Nat) ∧ fo x.toNat (lw y) ls = R)
theorem ckW_ck {R : List Int} {x y : Int} {ls : List (List Int)} {n : Nat} (hn : n = ls.length) (h0 : 0 ≤ x) (h1 : n ≤ 12) (h2 : x < (2 ^ n : Nat)) : ckB R x (lw y) ls = ckW R x y ls := by
 subst hn
 unfold ckB ckW FoOK
 rw [decide_eq_decide]
 exact ⟨fun ⟨_, h⟩ => ⟨h1, h2, h⟩, fun ⟨_, _, h⟩ => ⟨⟨by omega, h0, h2⟩, h⟩⟩
theorem ckW_no {R : List Int} {x y : Int} {ls : List (List Int)} {n : Nat} (hn : n = ls.length) (h : ¬ (n ≤ 12 ∧ x < (2 ^ n : Nat))) : ckW R x y ls = false := by
 subst hn
 unfold ckW
 exact decide_eq_false (fun hh => h ⟨hh.1, hh.2.1⟩)
theorem pow12I {n : Nat} (h : n ≤ 12) : ((2 : Int) ^ n) % 18446744073709551616 = ((2 ^ n : Nat) : Int) := by
 have := pow12 h
 rw [powc]
 generalize 2 ^ n = p at *
 omega
def cmB (pc : Int) (rg : List Int) (s d : Int) (R : List Int) : List Int := (([2] ++ e8 pc) ++ rg.flatMap e8) ++ [s, d] ++ R
def cmt (pc : Int) (rg : List Int) (s d : Int) (R : List Int) : List Int := shl (cmB pc rg s d R)
abbrev cOK (s d : Int) : Prop := 0 ≤ d ∧ d ≤ 12 ∧ s ≤ 2
def cmR (pc : Int) (rg : List Int) (s d : Int) (R : List Int) : List Int := if cOK s d then cmt pc rg s d R else Z32
def cmE (s d : Int) : Int := if cOK s d then 0 else 2
theorem flatMap_len (rg : List Int) : (rg.flatMap e8).length = 8 * rg.length := by
 induction rg with
 | nil => rfl
 | cons a r ih => simp only [List.flatMap_cons, List.length_append, e8_len, ih, List.length_cons]; omega
theorem cmB_len {pc : Int} {rg : List Int} {s d : Int} {R : List Int} (h : rg.length = 16) (hR : R.length = 32) : (cmB pc rg s d R).length = 171 := by
 unfold cmB
 rw [List.length_append, List.length_append, List.length_append, List.length_append, flatMap_len, e8_len, h, hR]
 rfl
def rgA (rg : List Int) : Array Value := (by64 rg).toArray
theorem rgA_size {rg : List Int} (h : rg.length = 16) : (rgA rg).size = 16 := by simp [rgA, by64_len, h]
theorem rgA_at {rg : List Int} {k : Nat} (h : k < rg.length) : (rgA rg)[k]? = some (.int .u64 (rg.getD k 0)) := by simpa [rgA] using by64_get h
theorem size58 : (Tryz.prog.info? 23).map (·.size) = some 16 := by kernel_rfl
theorem index58 (rg : List Int) (h : rg.length = 16) (k : Nat) (hk : k < 16) (w : World) : (Instr.index 23 (.agg (rgA rg)) (.int .i64 k)).run Tryz.prog w = .ok (.int .u64 (rg.getD k 0)) w := by
 match rg, h with
 | [r0, r1, r2, r3, r4, r5, r6, r7, r8, r9, r10, r11, r12, r13, r14, r15], _ =>
 match k, hk with
 | 0, _ => rfl
 | 1, _ => rfl
 | 2, _ => rfl
 | 3, _ => rfl
 | 4, _ => rfl
 | 5, _ => rfl
 | 6, _ => rfl
 | 7, _ => rfl
 | 8, _ => rfl
 | 9, _ => rfl
 | 10, _ => rfl
 | 11, _ => rfl
 | 12, _ => rfl
 | 13, _ => rfl
 | 14, _ => rfl
 | 15, _ => rfl
 | (k + 16), hk => exact absurd hk (by omega)
theorem ld58 {ops : Array Oper} {rest : List Oper} {o : Oper} {a : Act} {w : World} {Q : Exit → Act → World → Prop} (hgd : o.guard = none) (x : Operand) (ho : o.op = .load 23 x)
   (g : Nat) (hx : a.eval x = .pointer (some ⟨g, 0, none⟩)) (C : Array Value) (hC : C.size = 16) (hA : Arr w g 23 C)
   (h : wpList Tryz.prog ops Q rest (a.put o.dst (.agg C)) w) : wpList Tryz.prog ops Q (o :: rest) a w :=
 wpList_load_row hgd 23 x ho g hx 23 C (0, 0) _ hA Tryz.underlying23 rfl (by rw [hC]; exact size58) h
theorem flatMap_take {rg : List Int} {j : Nat} (h : j < rg.length) : (rg.take (j + 1)).flatMap e8 = (rg.take j).flatMap e8 ++ e8 (rg.getD j 0) := by
 rw [List.take_add_one, List.getElem?_eq_getElem h, List.flatMap_append]
 simp [List.getD_eq_getElem?_getD, List.getElem?_eq_getElem h]
theorem sl_of_own {w : World} {base n : Nat} {v : Value} {L : List Int} (h : w.ownsRow base 5 1 v n (by8 L)) (h0 : 0 < n) : ∃ g cap, v = .slice (some ⟨g, 0, none⟩) n cap ∧ n = L.length ∧ n ≤ cap ∧ base ≤ g ∧ SlL w (some ⟨g, 0, none⟩) L := by
 obtain ⟨g, cap, e, hn, hc, hb, hB, -⟩ := own_slice h h0
 exact ⟨g, cap, e, hn.out, hc, hb, fun _ => ⟨g, 0, rfl, hB⟩⟩
theorem h8_sl {w : World} {g ty : Nat} {R : List Int} (h : Arr w g ty (h8 R)) : SlL w (some ⟨g, 0, none⟩) R := Arr.sl (L := R) h
theorem parts_no1 (pc : Int) (rg : List Int) (s d : Int) (R : List Int) (w : World) (hrg : rg.length = 16) (hR : R.length = 32) (hs : 0 ≤ s ∧ s < 256) (h : ¬ (0 ≤ d ∧ d ≤ 12)) : Calls Tryz.prog 43 #[.int .u64 pc, .agg (rgA rg), .int .u8 s, .int .i64 d, .agg (h8 R)] w fun e w' => e = .returned (.tuple #[.agg (h8 Z32), .int .i64 2]) ∧ Below w.heap.size w w' := by
 have hdd : Hid (decide (0 ≤ d ∧ d ≤ 12) = false) := Hid.mk' (decide_eq_false h)
 clear h
 have A0 := ((Arr.new w 23 (rgA rg)).alloc (.cells (h8 R) 30)).alloc (.cells (h8 Z32) 30)
 have A1 := (Arr.new (w.alloc (.cells (rgA rg) 23)) 30 (h8 R)).alloc (.cells (h8 Z32) 30)
 have A2 := Arr.new ((w.alloc (.cells (rgA rg) 23)).alloc (.cells (h8 R) 30)) 30 (h8 Z32)
 simp only [World.size_alloc] at A1 A2
 have hb0 : Below w.heap.size w (((w.alloc (.cells (rgA rg) 23)).alloc (.cells (h8 R) 30)).alloc (.cells (h8 Z32) 30)) := ((alloc_bel' w _).alloc (by simp) _).alloc (by simp; omega) _
 rw [h8_Z] at A0 A1 A2 hb0
 go_enter Tryz.func43, Tryz.ntmps43
 go_wp2_with (first
   | (go_at_call 88; go_must (refine (mayDepthM_any _ _).mono ?_; rintro e w1 ⟨rfl, h⟩; replace h := h.symm; subst h; rw [hdd.out]))
   | (refine st24 (by rfl) _ _ (by rfl) (w.heap.size + 1 + 1) Z32 Z32 (by rfl) (by rfl) Z32_len Z32_len A2 ?_))
 exact bodyPost_ret (v := .tuple #[.agg (h8 Z32), .int .i64 2]) (resP Tryz.results43 rfl rfl Z32_len (A2.setRow _)) rfl ⟨rfl, below_setRow hb0 (by omega) _⟩
theorem parts_no2 (pc : Int) (rg : List Int) (s d : Int) (R : List Int) (w : World) (hrg : rg.length = 16) (hR : R.length = 32) (hs : 0 ≤ s ∧ s < 256) (h : 0 ≤ d ∧ d ≤ 12) (hs2 : ¬ s ≤ 2) : Calls Tryz.prog 43 #[.int .u64 pc, .agg (rgA rg), .int .u8 s, .int .i64 d, .agg (h8 R)] w fun e w' => e = .returned (.tuple #[.agg (h8 Z32), .int .i64 2]) ∧ Below w.heap.size w w' := by
 have hdd : Hid (decide (0 ≤ d ∧ d ≤ 12) = true) := Hid.mk' (decide_eq_true h)
 have hs3 : 2 < s := by omega
 have A0 := ((Arr.new w 23 (rgA rg)).alloc (.cells (h8 R) 30)).alloc (.cells (h8 Z32) 30)
 have A1 := (Arr.new (w.alloc (.cells (rgA rg) 23)) 30 (h8 R)).alloc (.cells (h8 Z32) 30)
 have A2 := Arr.new ((w.alloc (.cells (rgA rg) 23)).alloc (.cells (h8 R) 30)) 30 (h8 Z32)
 simp only [World.size_alloc] at A1 A2
 have hb0 : Below w.heap.size w (((w.alloc (.cells (rgA rg) 23)).alloc (.cells (h8 R) 30)).alloc (.cells (h8 Z32) 30)) := ((alloc_bel' w _).alloc (by simp) _).alloc (by simp; omega) _
 rw [h8_Z] at A0 A1 A2 hb0
 go_enter Tryz.func43, Tryz.ntmps43
 go_wp2_with (first
   | (go_at_call 88; go_must (refine (mayDepthM_any _ _).mono ?_; rintro e w1 ⟨rfl, h⟩; replace h := h.symm; subst h; rw [hdd.out]))
   | (refine st24 (by rfl) _ _ (by rfl) (w.heap.size + 1 + 1) Z32 Z32 (by rfl) (by rfl) Z32_len Z32_len A2 ?_))
 exact bodyPost_ret (v := .tuple #[.agg (h8 Z32), .int .i64 2]) (resP Tryz.results43 rfl rfl Z32_len (A2.setRow _)) rfl ⟨rfl, below_setRow hb0 (by omega) _⟩
theorem refParts_no1 (pc : Int) (rg : List Int) (s d : Int) (R : List Int) (w : World) (hrg : rg.length = 16) (hR : R.length = 32) (hs : 0 ≤ s ∧ s < 256) (h : d < 0) : Calls Tryz.prog 48 #[.int .u64 pc, .agg (rgA rg), .int .u8 s, .int .i64 d, .agg (h8 R)] w fun e w' => e = .returned (.tuple #[.agg (h8 Z32), .int .i64 2]) ∧ Below w.heap.size w w' := by
 have A0 := ((Arr.new w 23 (rgA rg)).alloc (.cells (h8 R) 30)).alloc (.cells (h8 Z32) 30)
 have A1 := (Arr.new (w.alloc (.cells (rgA rg) 23)) 30 (h8 R)).alloc (.cells (h8 Z32) 30)
 have A2 := Arr.new ((w.alloc (.cells (rgA rg) 23)).alloc (.cells (h8 R) 30)) 30 (h8 Z32)
 simp only [World.size_alloc] at A1 A2
 have hb0 : Below w.heap.size w (((w.alloc (.cells (rgA rg) 23)).alloc (.cells (h8 R) 30)).alloc (.cells (h8 Z32) 30)) := ((alloc_bel' w _).alloc (by simp) _).alloc (by simp; omega) _
 rw [h8_Z] at A0 A1 A2 hb0
 go_enter Tryz.func48, Tryz.ntmps48
 go_wp2_with (first
   | (go_at_call 88; go_must (refine (mayDepthM_any _ _).mono ?_; rintro e w1 ⟨rfl, h⟩; replace h := h.symm; subst h; rw [hdd.out]))
   | (refine st24 (by rfl) _ _ (by rfl) (w.heap.size + 1 + 1) Z32 Z32 (by rfl) (by rfl) Z32_len Z32_len A2 ?_))
 exact bodyPost_ret (v := .tuple #[.agg (h8 Z32), .int .i64 2]) (resP Tryz.results48 rfl rfl Z32_len (A2.setRow _)) rfl ⟨rfl, below_setRow hb0 (by omega) _⟩
theorem refParts_no2 (pc : Int) (rg : List Int) (s d : Int) (R : List Int) (w : World) (hrg : rg.length = 16) (hR : R.length = 32) (hs : 0 ≤ s ∧ s < 256) (h : ¬ d < 0) (h2 : 12 < d) : Calls Tryz.prog 48 #[.int .u64 pc, .agg (rgA rg), .int .u8 s, .int .i64 d, .agg (h8 R)] w fun e w' => e = .returned (.tuple #[.agg (h8 Z32), .int .i64 2]) ∧ Below w.heap.size w w' := by
 have A0 := ((Arr.new w 23 (rgA rg)).alloc (.cells (h8 R) 30)).alloc (.cells (h8 Z32) 30)
 have A1 := (Arr.new (w.alloc (.cells (rgA rg) 23)) 30 (h8 R)).alloc (.cells (h8 Z32) 30)
 have A2 := Arr.new ((w.alloc (.cells (rgA rg) 23)).alloc (.cells (h8 R) 30)) 30 (h8 Z32)
 simp only [World.size_alloc] at A1 A2
 have hb0 : Below w.heap.size w (((w.alloc (.cells (rgA rg) 23)).alloc (.cells (h8 R) 30)).alloc (.cells (h8 Z32) 30)) := ((alloc_bel' w _).alloc (by simp) _).alloc (by simp; omega) _
 rw [h8_Z] at A0 A1 A2 hb0
 go_enter Tryz.func48, Tryz.ntmps48
 go_wp2_with (first
   | (go_at_call 88; go_must (refine (mayDepthM_any _ _).mono ?_; rintro e w1 ⟨rfl, h⟩; replace h := h.symm; subst h; rw [hdd.out]))
   | (refine st24 (by rfl) _ _ (by rfl) (w.heap.size + 1 + 1) Z32 Z32 (by rfl) (by rfl) Z32_len Z32_len A2 ?_))
 exact bodyPost_ret (v := .tuple #[.agg (h8 Z32), .int .i64 2]) (resP Tryz.results48 rfl rfl Z32_len (A2.setRow _)) rfl ⟨rfl, below_setRow hb0 (by omega) _⟩
theorem refParts_no3 (pc : Int) (rg : List Int) (s d : Int) (R : List Int) (w : World) (hrg : rg.length = 16) (hR : R.length = 32) (hs : 0 ≤ s ∧ s < 256) (h : ¬ d < 0) (h2 : ¬ 12 < d) (h3 : 2 < s) : Calls Tryz.prog 48 #[.int .u64 pc, .agg (rgA rg), .int .u8 s, .int .i64 d, .agg (h8 R)] w fun e w' => e = .returned (.tuple #[.agg (h8 Z32), .int .i64 2]) ∧ Below w.heap.size w w' := by
 have A0 := ((Arr.new w 23 (rgA rg)).alloc (.cells (h8 R) 30)).alloc (.cells (h8 Z32) 30)
 have A1 := (Arr.new (w.alloc (.cells (rgA rg) 23)) 30 (h8 R)).alloc (.cells (h8 Z32) 30)
 have A2 := Arr.new ((w.alloc (.cells (rgA rg) 23)).alloc (.cells (h8 R) 30)) 30 (h8 Z32)
 simp only [World.size_alloc] at A1 A2
 have hb0 : Below w.heap.size w (((w.alloc (.cells (rgA rg) 23)).alloc (.cells (h8 R) 30)).alloc (.cells (h8 Z32) 30)) := ((alloc_bel' w _).alloc (by simp) _).alloc (by simp; omega) _
 rw [h8_Z] at A0 A1 A2 hb0
 go_enter Tryz.func48, Tryz.ntmps48
 go_wp2_with (first
   | (go_at_call 88; go_must (refine (mayDepthM_any _ _).mono ?_; rintro e w1 ⟨rfl, h⟩; replace h := h.symm; subst h; rw [hdd.out]))
   | (refine st24 (by rfl) _ _ (by rfl) (w.heap.size + 1 + 1) Z32 Z32 (by rfl) (by rfl) Z32_len Z32_len A2 ?_))
 exact bodyPost_ret (v := .tuple #[.agg (h8 Z32), .int .i64 2]) (resP Tryz.results48 rfl rfl Z32_len (A2.setRow _)) rfl ⟨rfl, below_setRow hb0 (by omega) _⟩
structure Acc where
 ad : Int
 va : Int
 pa : List (List Int)
structure Hd (S : Type) where
 gt : Int → S → Option (Int × S)
 st : Int → Int → S → Option S
 pm : List Int → S → Option (List Int × S)
 rk : S → Nat
def getN {S : Type} (H : Hd S) (x : Int) : Nat → S → Option (List Int × S)
 | 0, s => some ([], s)
 | k + 1, s => (getN H x k s).bind fun p => (H.gt (x + k) p.2).bind fun q => some (p.1 ++ [q.1], q.2)
def setN {S : Type} (H : Hd S) (x : Int) (W : Nat → Int) : Nat → S → Option S
 | 0, s => some s
 | k + 1, s => (setN H x W k s).bind fun p => H.st (x + k) (W k) p
def Mc.trap (m : Mc) : Mc := { m with st := 2 }
def addr (m : Mc) (b : Nat) (i : Int) : Int := IntKind.u64.wrap (m.get b + i)
def hOk (m : Mc) (n : Nat) (i ra rb rc : Int) : Bool := decide (rc ≤ 128 ∧ ra + 4 ≤ n ∧ (rc = 0 ∨ rb + (rc + 7) / 8 ≤ n) ∧ (mkL i).isSome)
def doG {S : Type} (H : Hd S) (n : Nat) (m : Mc) (o : Int) (a b c : Nat) (i : Int) (s : S) : Option (Mc × S) :=
 if o = 17 then (if addr m b i < n then (H.gt (addr m b i) s).bind fun q => some (m.put a q.1, q.2) else some (m.trap, s))
 else if o = 18 then (if addr m b i < n then (H.st (addr m b i) (m.get a) s).bind fun q => some (m.nxt, q) else some (m.trap, s))
 else if o = 23 then (if hOk m n i (m.get a) (m.get b) (m.get c) = true then
     (getN H (m.get b) ((m.get c + 7) / 8).toNat s).bind fun p => (setN H (m.get a) (wsu ((mkL i).getD [] ++ fbL (fun t => p.1.getD t 0) (m.get c).toNat)) 4 p.2).bind fun q => some (m.nxt, q)
   else some (m.trap, s))
 else if o = 24 ∨ o = 25 then (if m.get b + 4 ≤ n then
     (getN H (m.get b) 4 s).bind fun p => (H.pm (fmL (fun t => p.1.getD t 0)) p.2).bind fun q => some (m.put a (if o = 24 then pcN q.1 (m.get c).toNat 8 else q.1.length), q.2)
   else some (m.trap, s))
 else some ((ex [] m o a b c i).getD m.trap, s)
def stG {S : Type} (H : Hd S) (n : Nat) (m : Mc) (s : S) : Option (Mc × S) :=
 if m.st = 0 then (if m.pc < n then (H.gt m.pc s).bind fun q => (if dOk q.1 = true then doG H n m (dOp q.1) (dA q.1).toNat (dB q.1).toNat (dC q.1).toNat (dI q.1) q.2 else some (m.trap, q.2)) else some (m.trap, s)) else some (m, s)
structure Tk where
 l : List Acc
 rt : List Int
 q : Bool
def okA (d : Nat) (R : List Int) (x : Int) (a : Acc) : Bool := decide (a.ad = x ∧ a.pa.length = d) && ckW R x a.va a.pa
def hT (d : Nat) (pre : List Int) : Hd Tk where
 gt x t := match t.l with
   | [] => none
   | a :: r => if okA d t.rt x a = true then some (a.va, { t with l := r }) else none
 st x v t := match t.l with
   | [] => none
   | a :: r => if okA d t.rt x a = true then some { t with l := r, rt := fo x.toNat (lw v) a.pa } else none
 pm X t := if shl pre = X then some (pre, { t with q := true }) else none
 rk _ := 0
structure Wd where
 L : List Int
 T : List Acc
 p : List Int
def hW (d : Nat) (es : List En) : Hd Wd where
 gt x s := some (s.L.getD x.toNat 0, { s with T := s.T ++ [⟨x, s.L.getD x.toNat 0, pv d s.L x⟩] })
 st x v s := some { s with T := s.T ++ [⟨x, s.L.getD x.toNat 0, pv d s.L x⟩], L := s.L.set x.toNat v }
 pm X s := (pre es X).map fun e => (e.bs, { s with p := e.bs })
 rk s := s.T.length
structure Pf where
 pc : Int
 rg : List Int
 st : Int
 de : Int
 rt : List Int
 tc : List Acc
 pr : List Int
structure Acc.ok (a : Acc) : Prop where
 ad : U64 a.ad
 va : U64 a.va
 pa : ∀ x ∈ a.pa, x.length = 32
structure Pf.ok (p : Pf) : Prop where
 pc : U64 p.pc
 r16 : p.rg.length = 16
 rg : ∀ k, U64 (p.rg.getD k 0)
 st : 0 ≤ p.st ∧ p.st < 256
 de : -9223372036854775808 ≤ p.de ∧ p.de ≤ 9223372036854775807
 rt : p.rt.length = 32
 tc : ∀ a ∈ p.tc, a.ok
 pr : Bts p.pr
def cfg (p : Pf) : Mc := ⟨p.pc, p.rg, p.st, []⟩
def fin (d : Int) (pre : List Int) (r : Mc × Tk) : Option (List Int) := if r.2.l = [] ∧ (pre = [] ∨ r.2.q = true) then some (cmt r.1.pc r.1.rg r.1.st d r.2.rt) else none
def Mc.bare (m : Mc) : Mc := { m with me := [] }
def mk0 (es : List En) (m : Mc) : Option (Mc × Wd) := stG (hW (Nat.log2 m.me.length) es) m.me.length m.bare ⟨m.me, [], []⟩
def mkP (m : Mc) (r : Wd) : Pf := ⟨m.pc, m.rg, m.st, (Nat.log2 m.me.length : Nat), rW m.me, r.T, r.p⟩
theorem Below.drewN {B : Nat} {a w : World} (h : Below B a w) (n : Nat) : Below B a (w.drewN n) := ⟨h.os, h.tape, h.output, h.size, h.block⟩
theorem Chg.kDrew {S : Nat → Prop} {a b : World} (h : Chg S a b) : Chg S a b.drew := ⟨h.os, h.tape, h.output, h.size, h.block⟩
theorem Chg.kDrewN {S : Nat → Prop} {a b : World} (h : Chg S a b) (n : Nat) : Chg S a (b.drewN n) := ⟨h.os, h.tape, h.output, h.size, h.block⟩
theorem Chg.kSet {S : Nat → Prop} {a b : World} (h : Chg S a b) {g j : Nat} (v : Value) (hg : g < a.heap.size → S g) : Chg S a (b.setCell ⟨g, j, none⟩ v) :=
 ⟨h.os, h.tape, h.output, by simpa using h.size, fun i hi hn => (Below.heap_setCell _ _ _ _ (fun e => hn (by have e' : i = g := e; rw [e'] at hi ⊢; exact hg hi))).trans (h.block i hi hn)⟩
theorem Chg.kB {S : Nat → Prop} {a b c : World} (h : Chg S a b) (hb : Below b.heap.size b c) : Chg S a c := h.trans (Chg.of_below hb)
structure Am where
 ad : Int
 va : Int
 sp : Option Addr
 n : Nat
 cap : Nat
 pa : List (List Int)
def Am.cells (e : Am) : List Value := [.int .u64 e.ad, .int .u64 e.va, .slice e.sp e.n e.cap]
def Am.arr (e : Am) : Array Value := #[.int .u64 e.ad, .int .u64 e.va, .slice e.sp e.n e.cap]
structure AmOK (N : Nat) (w : World) (e : Am) : Prop where
 path : HS N w e.sp e.n e.cap e.pa
 ad : U64 e.ad
 va : U64 e.va
theorem AmOK.below {N : Nat} {w w' : World} {e : Am} (h : AmOK N w e) (hb : Below N w w') : AmOK N w' e := ⟨h.path.below hb, h.ad, h.va⟩
theorem AmOK.mono {N N' : Nat} {w : World} {e : Am} (h : AmOK N w e) (hN : N ≤ N') : AmOK N' w e := ⟨h.path.mono hN, h.ad, h.va⟩
structure AS (N : Nat) (w : World) (sp : Option Addr) (n cap : Nat) (es : List Am) : Prop where
 len : Hid (n = es.length)
 nil : sp = none → n = 0 ∧ cap = 0
 le : n ≤ cap
 big : cap ≤ 9223372036854775807
 small : n ≤ 140737488355328
 at0 : 0 < n → ∃ g off, sp = some ⟨g, off, none⟩ ∧ g < N ∧ ∀ i e, es[i]? = some e → w.rangeAt g (off + i * 3) e.cells
 ok : ∀ e ∈ es, AmOK N w e
theorem AS.below {N : Nat} {w w' : World} {sp : Option Addr} {n cap : Nat} {es : List Am} (h : AS N w sp n cap es) (hb : Below N w w') : AS N w' sp n cap es :=
 ⟨h.len, h.nil, h.le, h.big, h.small, fun h0 => let ⟨b, off, e, hbN, hB⟩ := h.at0 h0; ⟨b, off, e, hbN, fun i X hX => range_below (hB i X hX) hb hbN⟩, fun e he => (h.ok e he).below hb⟩
theorem AS.mono {N N' : Nat} {w : World} {sp : Option Addr} {n cap : Nat} {es : List Am} (h : AS N w sp n cap es) (hN : N ≤ N') : AS N' w sp n cap es :=
 ⟨h.len, h.nil, h.le, h.big, h.small, fun h0 => let ⟨b, off, e, hb, hB⟩ := h.at0 h0; ⟨b, off, e, by omega, hB⟩, fun e he => (h.ok e he).mono hN⟩
theorem AS.nil0 (N : Nat) (w : World) : AS N w none 0 0 [] := ⟨rfl, fun _ => ⟨rfl, rfl⟩, Nat.le_refl _, by omega, by omega, fun h => absurd h (by omega), fun e h => by cases h⟩
theorem AS.tail {N : Nat} {w : World} {g off n cap : Nat} {a : Am} {es : List Am} (h : AS N w (some ⟨g, off, none⟩) (n + 1) (cap + 1) (a :: es)) {ad : Addr} (had : 0 < n → ad = ⟨g, off + 3, none⟩) : AS N w (some ad) n cap es := by
 obtain ⟨g', off', e, hg, hR⟩ := h.at0 (by omega)
 cases e
 refine ⟨Hid.mk' (by have := h.len.out; simp at this; exact this), fun h => (by cases h), by have := h.le; omega, by have := h.big; omega, by have := h.small; omega, fun h0 => ⟨g, off + 3, by rw [had h0], hg, fun i e he => ?_⟩, fun e he => h.ok e (List.mem_cons_of_mem _ he)⟩
 have := hR (i + 1) e (by simpa using he)
 rw [show off + 3 + i * 3 = off + (i + 1) * 3 by omega]
 exact this
theorem Am.oneA (e : Am) : e.arr.all (·.oneCell') = true := by simp [Am.arr, Value.oneCell']
theorem size83 : (Tryz.prog.info? 83).map (·.size) = some 3 := by kernel_rfl
def zAm : Array Value := #[.int .u64 0, .int .u64 0, .slice none 0 0]
theorem next_nil {N gC cap : Nat} {sp : Option Addr} (w : World) (hC : Arr w gC 31 #[.slice sp 0 cap]) :
   Calls Tryz.prog 152 #[.pointer (some ⟨gC, 0, none⟩)] w fun e w' => e = .returned (.tuple #[.agg zAm, .bool false]) ∧ Below w.heap.size w w' := by
 have c0 := fun o => (hC.alloc o).cell 0
 unfold zAm
 go_enter Tryz.func152, Tryz.ntmps152
 go_wp2_with fail
 go_returns
 refine ⟨rfl, ?_⟩
 repeat (first | exact Below.refl _ _ | refine Below.drew ?_ | refine Below.drewN ?_ _ | refine Below.setCell ?_ (by simp) _ | refine Below.alloc ?_ (by simp) _)
theorem next_cons {N gC g off n cap : Nat} {a : Am} {es : List Am} (w : World) (hC : Arr w gC 31 #[.slice (some ⟨g, off, none⟩) (n + 1) (cap + 1)]) (hA : AS N w (some ⟨g, off, none⟩) (n + 1) (cap + 1) (a :: es)) :
   Calls Tryz.prog 152 #[.pointer (some ⟨gC, 0, none⟩)] w fun e w' => e = .returned (.tuple #[.agg a.arr, .bool true]) ∧ ∃ ad, Arr w' gC 31 #[.slice (some ad) n cap] ∧ (0 < n → ad = ⟨g, off + 3, none⟩) ∧ Chg (fun k => k = gC) w w' := by
 have c0 := fun o => (hC.alloc o).cell 0
 obtain ⟨g', off', e, hg, hR⟩ := hA.at0 (by omega)
 cases e
 have hr := hR 0 a rfl
 simp only [Nat.zero_mul, Nat.add_zero] at hr
 have hlt := hC.lt
 have hbig := hA.big
 have h1 : ¬ ((n : Int) + 1 = 0) := by omega
 have hlg : g < w.heap.size := block_lt_of_cell (hr 0 _ rfl)
 have hR1 : (w.alloc (.cells zAm 83)).rangeAt g off a.cells := fun j v hv => (World.cell?_alloc_lt _ _ _ hlg).trans (hr j v hv)
 have h2 : ((n : Int) + 1 == 0) = false := by simpa using h1
 have h3 : (1 : Int) ≤ n + 1 := by omega
 obtain ⟨ad, had⟩ : ∃ ad, (if cap = 0 then (some ⟨g, off, none⟩ : Option Addr) else some ⟨g, off + 3, none⟩) = some ad := by split <;> exact ⟨_, rfl⟩
 have hadn : 0 < n → ad = ⟨g, off + 3, none⟩ := fun h0 => by
   have := hA.le
   rw [if_neg (by omega)] at had
   exact (Option.some.inj had).symm
 have n1 : ¬ gC = w.heap.size := by omega
 have n2 : ¬ g = w.heap.size := by omega
 have n3 : ¬ w.heap.size = gC := by omega
 have k0 : ∀ o, (w.alloc o).cell? ⟨g, off, none⟩ = some (.int .u64 a.ad) := fun o => (World.cell?_alloc_lt _ _ _ hlg).trans (hr 0 _ rfl)
 have k1 : ∀ o, (w.alloc o).cell? ⟨g, off + 1, none⟩ = some (.int .u64 a.va) := fun o => (World.cell?_alloc_lt _ _ _ hlg).trans (hr 1 _ rfl)
 have k2 : ∀ o, (w.alloc o).cell? ⟨g, off + 2, none⟩ = some (.slice a.sp a.n a.cap) := fun o => (World.cell?_alloc_lt _ _ _ hlg).trans (hr 2 _ rfl)
 have f0 := fun o => (hC.alloc o).frozen 0
 clear hr hR hR1
 go_enter Tryz.func152, Tryz.ntmps152
 go_upto_region 3 with fail
 go_region
 go_wp2_with fail
 go_returns
 refine ⟨rfl, ad, ?_, hadn, ?_⟩
 · have h := ((hC.set 0 (.slice (some ad) n cap)).alloc (Obj.cells a.arr 83)).drew
   exact h
 · exact (((Chg.refl (fun k => k = gC) w).kSet (g := gC) (.slice (some ad) n cap) (fun _ => rfl)).alloc _).kDrew
theorem dec12 {n : Nat} (h : n ≤ 12) : decide (0 ≤ (n : Int) ∧ (n : Int) ≤ 12) = true := decide_eq_true ⟨by omega, by omega⟩
theorem dec12n {n : Nat} (h : ¬ n ≤ 12) : decide (0 ≤ (n : Int) ∧ (n : Int) ≤ 12) = false := decide_eq_false (fun hh => h (by omega))
theorem checkM_any (R : List Int) (x y : Int) (N : Nat) (sp : Option Addr) (n cap : Nat) (ls : List (List Int)) (w : World) (hR : R.length = 32) (hx : U64 x) (hS : HS N w sp n cap ls) :
   Calls Tryz.prog 244 #[.agg (h8 R), .int .u64 x, .int .u64 y, .slice sp n cap] w fun e w' => e = .returned (.bool (ckW R x y ls)) ∧ Below w.heap.size w w' := by
 have A0 := Arr.new w 30 (h8 R)
 have hb0 := alloc_bel' w (.cells (h8 R) 30)
 have hS0 := hS.here.below hb0
 have hsm := hS.small
 have hln := hS.len.out
 have hx0 := hx.1
 have hmd := fun w => mayDepthM_any (n : Int) w
 by_cases h1 : n ≤ 12
 · rw [dec12 h1] at hmd
   have hpw := pow12I h1
   have hmin : min n 64 = n := by omega
   have hnu2 : IntKind.u64.wrap (n : Int) = n := by simp [IntKind.wrap, IntKind.bits, IntKind.signed]; omega
   have hpw2 : IntKind.u64.wrap ((2 : Int) ^ n) = ((2 ^ n : Nat) : Int) := by rw [← hpw]; simp [IntKind.wrap, IntKind.bits, IntKind.signed]
   have hp4 := pow12 h1
   by_cases h2 : x < (2 ^ n : Nat)
   · have hck := fun U hS => check_any R x (lw y) w.heap.size sp n cap ls U hR (lw_len y) hS
     rw [ckW_ck hln hx0 h1 h2] at hck
     have hlf := fun w => leafOf_any y w
     have hy32 := lw_len y
     generalize lw y = Y at *
     generalize ckW R x y ls = b at *
     obtain ⟨p, hp⟩ : ∃ p : Nat, p = 2 ^ n := ⟨_, rfl⟩
     rw [← hp] at hpw hpw2 h2 hp4
     replace hp := Hid.mk' hp
     have h3 : ¬ (p : Int) ≤ x := by omega
     have hxI : IntKind.i64.wrap x = x := by rw [IntKind.wrap_i64]; omega
     clear hln
     go_enter Tryz.func244, Tryz.ntmps244
     go_upto_region 3 with (go_at_call 88; go_must (refine (hmd _).mono ?_; rintro e w1 ⟨rfl, h⟩; replace h := h.symm; subst h))
     generalize hV : w.alloc (.cells _ 30) = V at *
     clear hV
     refine rgn (fun u => Arr u w.heap.size 30 (h8 R) ∧ Below w.heap.size V u) ⟨A0.drew, (Below.refl _ _).drew⟩ (fun hHeld => ?_)
     refine tl 0 rfl (y24 (by rfl) (.tmp 4) rfl (w.heap.size) (0) rfl R hR (fun u hu => hu.1.range)) ?_
     refine tk 1 rfl ?_
     refine tk 2 rfl ?_
     refine tk 3 rfl ?_
     refine tk 5 rfl ?_
     refine rd 4 rfl (fun K hK => ?_)
     go_simp
     refine (hlf _).mono ?_; rintro e u1 ⟨rfl, hb1⟩; have A1 := A0.drew.below hb1 A0.drew.lt; have hB1 : Below w.heap.size V u1 := ((Below.refl _ _).drew).trans (hb1.mono (by have := A0.drew.lt; omega))
     go_wp2_with fail
     refine ko hK ⟨A1, hB1⟩ (fun hHeld => ?_)
     clear hK K
     refine rd 6 rfl (fun K hK => ?_)
     go_simp
     refine (hck _ (hS0.below hB1)).mono ?_; rintro e u2 ⟨rfl, hb2⟩; have A2 := A1.below hb2 A1.lt; have hB2 := hB1.trans (hb2.mono (by have := A1.lt; omega))
     go_wp2_with fail
     refine ko hK ⟨A2, hB2⟩ (fun hHeld => ?_)
     clear hK K
     refine tk 7 rfl ?_
     refine dn ?_
     go_wp2_with fail
     go_ret
     exact ⟨rfl, hb0.trans hB2⟩
   · rw [ckW_no hln (fun h => h2 h.2)]
     obtain ⟨p, hp⟩ : ∃ p : Nat, p = 2 ^ n := ⟨_, rfl⟩
     rw [← hp] at hpw hpw2 h2
     replace hp := Hid.mk' hp
     have h3 : (p : Int) ≤ x := by omega
     clear hln hS0
     go_enter Tryz.func244, Tryz.ntmps244
     go_wp2_with (go_at_call 88; go_must (refine (hmd _).mono ?_; rintro e w1 ⟨rfl, h⟩; replace h := h.symm; subst h))
     go_ret
     exact ⟨rfl, hb0⟩
 · rw [dec12n h1] at hmd
   rw [ckW_no hln (fun h => h1 h.1)]
   clear hln hS0
   go_enter Tryz.func244, Tryz.ntmps244
   go_wp2_with (go_at_call 88; go_must (refine (hmd _).mono ?_; rintro e w1 ⟨rfl, h⟩; replace h := h.symm; subst h))
   go_ret
   exact ⟨rfl, hb0⟩
end Go.Proofs.YtagebcbnenehfaaGreat
