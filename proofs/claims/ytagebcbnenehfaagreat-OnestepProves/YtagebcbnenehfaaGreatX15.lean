/- Ah. -/
import Derived.Test.YtagebcbnenehfaaGreatX14
namespace Go.Proofs.YtagebcbnenehfaaGreat
open Go.RowKit
set_option maxRecDepth 100000
set_option linter.unusedVariables false
set_option linter.unusedSimpArgs false
set_option maxHeartbeats 40000000
def GrPost (gt ct n m : Nat) (L : List Int) (w : World) (e : Ending) (w' : World) : Prop := ∃ (gl cl : Nat) (T : List (List Int)), e = .returned (.agg (tA (.slice (some ⟨gt, 0, none⟩) n ct) (.slice (some ⟨gl, 0, none⟩) m cl))) ∧ w.heap.size ≤ gl ∧ m ≤ cl ∧ cl ≤ 9223372036854775807 ∧ HB w' gl T ∧ T.length = m ∧ TI n (lvs L) T (fun _ => True) ∧ Below w.heap.size w w'
theorem grow_any (gt ct n m p : Nat) (L : List Int) (w : World) (hW : MW w gt L) (hL : Hid (L.length = n)) (hp : Hid (n = p + 1)) (hmp : Hid (m = n + p)) (hn4 : n ≤ 4096) (hct : n ≤ ct) :
   Calls Tryz.prog 69 #[.slice (some ⟨gt, 0, none⟩) n ct, fL] w (GrPost gt ct n m L w) := by
 obtain ⟨i0, hi0, hz0, hz1, hz2⟩ := info_parts info24
 have hgt := hW.lt
 have hn0 : 0 < n := by have := hp.out; omega
 have h1 : (n : Int) - 1 = p := by have := hp.out; omega
 have h2 : (n : Int) + p = m := by have := hmp.out; omega
 have hm8 : m ≤ 8192 := by have := hp.out; have := hmp.out; omega
 have hp4 : p ≤ 4096 := by have := hp.out; omega
 have A0 := Arr.new w 142 #[.nilFunc, .slice none 0 0, .slice none 0 0]
 have hb0 := alloc_bel' w (.cells #[.nilFunc, .slice none 0 0, .slice none 0 0] 142)
 have hleaf := fun x w => leafOf_any x w
 unfold fL
 go_enter Tryz.func69, Tryz.ntmps69
 go_upto_region 3 with (first
   | (at_make; go_must (refine wpList_make_own _ (by rfl) (.const (.int .i64 0)) (.tmp 18) 81 (by rfl) (w.heap.size + 1) 30 i0 (.agg (h8 Z32)) 32 Tryz.underlying81 hi0 hz0 hz1 .i64 .i64 _ m (by rfl) (by first | rfl | (simp only [h2]; rfl)) (by omega) (by rw [hz2]; omega) (by unfold maxLen; omega) (by simp) ?_; intro w1 hown1 hg1))
   | (refine atS 142 (.tmp 6) (.tmp 20) ?_; go_must (refine st72n (by rfl) (.tmp 6) (.tmp 20) (by rfl) w1 w1.heap.size rfl (by rfl) (.slice (some ⟨gt, 0, none⟩) n ct) (.slice (some ⟨w.heap.size + 1, 0, none⟩) 0 m) (by rfl) (by rfl) (tA_one rfl rfl) ?_)))
 have hown1' : w1.ownsRow (w.heap.size + 1) 30 32 (.slice (some ⟨w.heap.size + 1, 0, none⟩) 0 m) 0 (flat32 []) := by simpa [flat32] using hown1
 have hB1 : Below w.heap.size w w1 := hb0.grown hg1 (by simp) (by simp)
 have hs1 : w.heap.size + 1 ≤ w1.heap.size := by have := hg1.size; simpa using this
 have A01 : Arr w1 w.heap.size 142 _ := (hg1.block w.heap.size (by simp) (by simp)).trans A0
 have hG0 : GI w w.heap.size w1.heap.size (.slice (some ⟨gt, 0, none⟩) n ct) (.slice (some ⟨w.heap.size + 1, 0, none⟩) 0 m) 0 [] (w1.alloc (.cells (tA (.slice (some ⟨gt, 0, none⟩) n ct) (.slice (some ⟨w.heap.size + 1, 0, none⟩) 0 m)) 142)) :=
   ⟨A01.alloc _, Arr.new _ _ _, hown1'.alloc _, hB1.alloc (by omega) _⟩
 have hgT : w.heap.size + 1 ≤ w1.heap.size := hs1
 clear hown1 hown1' hg1 A0 hb0 A01 hB1 hs1
 generalize hV : w1.alloc _ = V at *
 clear hV
 generalize w1.heap.size = gT at *
 go_wp2_with fail
 go_loopw [23] (fun q wr => ∃ (j : Nat) (u : Value), q = .int .i64 (j : Int) ∧ j ≤ n ∧ GI w w.heap.size gT (.slice (some ⟨gt, 0, none⟩) n ct) u j ((lvs L).take j) wr) (fun q _ => n - (intOf q).toNat)
 case atStart => exact ⟨0, _, rfl, by omega, by simpa using hG0⟩
 case round =>
   clear hG0
   obtain ⟨j, u, rfl, hj, hG⟩ := hrel
   have hGs := hG.bel.size
   by_cases hlt : j < n
   · have hI : (j : Int) < n := by omega
     have hWr := hW.below hG.bel hgt
     have hc := hWr.cell (t := j) (by rw [hL.out]; exact hlt)
     have hjct : j < ct := by omega
     have htk : Hid ((lvs L).take (j + 1) = (lvs L).take j ++ [lw (L.getD j 0)]) := Hid.mk' (by rw [take_snoc (by rw [lvs_len, hL.out]; exact hlt), tat_lvs (by rw [hL.out]; exact hlt)])
     generalize L.getD j 0 = x at *
     have hx32 := lw_len x
     have hlf := fun w => hleaf x w
     generalize lw x = X at *
     generalize (lvs L).take j = T at *
     clear hleaf
     go_upto_region 6 with fail
     have hG1 := hG.below ((Below.refl _ _).drew)
     have c2 := hG1.c2
     refine rgn (fun _ => True) trivial (fun hHeld => ?_)
     refine tk 0 rfl ?_
     refine tk 2 rfl ?_
     refine tk 3 rfl ?_
     refine rd2 1 4 rfl rfl (fun K hK => ?_) (fun K hK => ?_)
     · go_simp
       go_wp2_with fail
       refine ko hK trivial (fun hHeld => ?_)
       clear hK K
       refine rd 4 rfl (fun K hK => ?_)
       go_simp
       refine (hlf _).mono ?_; rintro e u1 ⟨rfl, hb1⟩; have hG2 := hG1.below hb1
       go_wp2_with fail
       refine ko hK trivial (fun hHeld => ?_)
       clear hK K
       refine rd 5 rfl (fun K hK => ?_)
       refine step_want rfl (wp_bld1 (.tmp 31) rfl X rfl hx32 ?_)
       refine ko hK trivial (fun hHeld => ?_)
       clear hK K
       refine rd 6 rfl (fun K hK => ?_)
       refine step_want rfl (wp_ag43 (.tmp 28) (.tmp 32) rfl (w.heap.size + 1) j _ T X rfl (hG2.own.alloc _) u1.heap.size 1 rfl (Arr.new u1 30 (h8 X)) hx32 (by omega) (by have := hG2.bel.size; have := hG2.a0.lt; simp; omega) ?_)
       intro v' w4 hown4 hg4
       obtain ⟨gv, cv, rfl⟩ := own_sl43 hown4 (by omega)
       obtain ⟨c4, f4, hG4⟩ := hG2.app rfl (by omega) hown4 hg4
       refine ko hK trivial (fun hHeld => ?_)
       clear hK K
       refine tk 7 rfl ?_
       refine rd 8 rfl (fun K hK => ?_)
       go_simp
       go_wp2_with fail
       refine ko hK trivial (fun hHeld => ?_)
       clear hK K
       refine dn ?_
       clear c2 c4 f4 hG hG1 hG2
       go_wp2_with fail
       go_roundw
       case rel => exact ⟨j + 1, _, by go_num, by omega, by rw [htk.out]; exact hG4⟩
       case measure => simp [intOf]; omega
     · go_simp
       refine (hlf _).mono ?_; rintro e u1 ⟨rfl, hb1⟩; have hG2 := hG1.below hb1
       go_wp2_with fail
       refine ko hK trivial (fun hHeld => ?_)
       clear hK K
       have c2 := hG2.c2
       refine rd2 1 5 rfl rfl (fun K hK => ?_) (fun K hK => ?_)
       · go_simp
         go_wp2_with fail
         refine ko hK trivial (fun hHeld => ?_)
         clear hK K
         refine rd 5 rfl (fun K hK => ?_)
         refine step_want rfl (wp_bld1 (.tmp 31) rfl X rfl hx32 ?_)
         refine ko hK trivial (fun hHeld => ?_)
         clear hK K
         refine rd 6 rfl (fun K hK => ?_)
         refine step_want rfl (wp_ag43 (.tmp 28) (.tmp 32) rfl (w.heap.size + 1) j _ T X rfl (hG2.own.alloc _) u1.heap.size 1 rfl (Arr.new u1 30 (h8 X)) hx32 (by omega) (by have := hG2.bel.size; have := hG2.a0.lt; simp; omega) ?_)
         intro v' w4 hown4 hg4
         obtain ⟨gv, cv, rfl⟩ := own_sl43 hown4 (by omega)
         obtain ⟨c4, f4, hG4⟩ := hG2.app rfl (by omega) hown4 hg4
         refine ko hK trivial (fun hHeld => ?_)
         clear hK K
         refine tk 7 rfl ?_
         refine rd 8 rfl (fun K hK => ?_)
         go_simp
         go_wp2_with fail
         refine ko hK trivial (fun hHeld => ?_)
         clear hK K
         refine dn ?_
         clear c2 c4 f4 hG hG1 hG2
         go_wp2_with fail
         go_roundw
         case rel => exact ⟨j + 1, _, by go_num, by omega, by rw [htk.out]; exact hG4⟩
         case measure => simp [intOf]; omega
       · refine step_want rfl (wp_bld1 (.tmp 31) rfl X rfl hx32 ?_)
         refine ko hK trivial (fun hHeld => ?_)
         clear hK K
         have c2 := (hG2.aT.alloc (.cells (h8 X) 30)).cell 2
         change _ = some u at c2
         refine rd 1 rfl (fun K hK => ?_)
         go_simp
         go_wp2_with fail
         refine ko hK trivial (fun hHeld => ?_)
         clear hK K
         refine rd 6 rfl (fun K hK => ?_)
         refine step_want rfl (wp_ag43 (.tmp 28) (.tmp 32) rfl (w.heap.size + 1) j _ T X rfl (hG2.own.alloc _) u1.heap.size 1 rfl (Arr.new u1 30 (h8 X)) hx32 (by omega) (by have := hG2.bel.size; have := hG2.a0.lt; simp; omega) ?_)
         intro v' w4 hown4 hg4
         obtain ⟨gv, cv, rfl⟩ := own_sl43 hown4 (by omega)
         obtain ⟨c4, f4, hG4⟩ := hG2.app rfl (by omega) hown4 hg4
         refine ko hK trivial (fun hHeld => ?_)
         clear hK K
         refine tk 7 rfl ?_
         refine rd 8 rfl (fun K hK => ?_)
         go_simp
         go_wp2_with fail
         refine ko hK trivial (fun hHeld => ?_)
         clear hK K
         refine dn ?_
         clear c2 c4 f4 hG hG1 hG2
         go_wp2_with fail
         go_roundw
         case rel => exact ⟨j + 1, _, by go_num, by omega, by rw [htk.out]; exact hG4⟩
         case measure => simp [intOf]; omega
   · obtain rfl : j = n := by omega
     have hI : ¬ (j : Int) < j := by omega
     have hT0 : TI j (lvs L) ((lvs L).take j) (fun _ => True) ∧ ((lvs L).take j).length = j := by
       have hlen : (lvs L).length = j := by rw [lvs_len, hL.out]
       rw [List.take_of_length_le (by omega)]
       exact ⟨⟨fun i _ _ => rfl, fun k hk => by omega, lvs_l32 L⟩, hlen⟩
     generalize (lvs L).take j = T0 at *
     replace hT0 := Hid.mk' hT0
     go_wp2_with fail
     go_loopw [37] (fun q wr => ∃ (k : Nat) (T : List (List Int)) (u : Value), q = .int .i64 (k : Int) ∧ k ≤ p ∧ GI w w.heap.size gT (.slice (some ⟨gt, 0, none⟩) j ct) u (j + k) T wr ∧ Hid (TI j (lvs L) T (fun _ => True) ∧ T.length = j + k)) (fun q _ => p - (intOf q).toNat)
     case atStart => exact ⟨0, T0, u, rfl, by omega, hG, hT0⟩
     case round =>
       clear hG hT0 hGs
       obtain ⟨k, T, u, rfl, hk, hG, hTI⟩ := hrel
       have hGs := hG.bel.size
       by_cases hlt : k < p
       · have hI2 : (k : Int) < p := by omega
         have hG1 := hG.below ((Below.refl _ _).drew)
         have c2 := hG1.c2
         have hkk : Hid (k + 1 < j) := Hid.mk' (by have := hp.out; omega)
         have hTn : Hid (TI j (lvs L) (T ++ [pr (tat T (2 * k)) (tat T (2 * k + 1))]) (fun _ => True) ∧ (T ++ [pr (tat T (2 * k)) (tat T (2 * k + 1))]).length = j + (k + 1)) := Hid.mk' ⟨hTI.out.1.appNode hTI.out.2 hkk.out rfl, by have := hTI.out.2; simp; omega⟩
         have hpr : ∀ y : Int, y = 2 * (k : Int) → Calls Tryz.prog 132 #[.pointer (some ⟨gT, 0, none⟩), .int .i64 y] wr.drew fun e w' => e = .returned (.agg (h8 (pr (tat T (2 * k)) (tat T (2 * k + 1))))) ∧ Below wr.drew.heap.size wr.drew w' := by
           rintro y rfl
           obtain ⟨gl, cl, rfl, hgl, hc1, hc2, hB⟩ := own_hb hG1.own hTI.out.1.l32 hTI.out.2 (by omega)
           have := pair_anyM gT (j + k) cl gl (2 * k) k T wr.drew c2 hB (Hid.mk' hTI.out.2) (by omega) hc1 (Hid.mk' (by omega)) (by have := hkk.out; omega) (by omega)
           simpa using this
         have hx32 := pr_len (tat T (2 * k)) (tat T (2 * k + 1))
         generalize pr (tat T (2 * k)) (tat T (2 * k + 1)) = X at *
         go_upto_region 11 with fail
         refine rgn (fun _ => True) trivial (fun hHeld => ?_)
         refine tk 0 rfl ?_
         refine tk 2 rfl ?_
         refine tk 3 rfl ?_
         refine rd2 1 4 rfl rfl (fun K hK => ?_) (fun K hK => ?_)
         · go_simp
           go_wp2_with fail
           refine ko hK trivial (fun hHeld => ?_)
           clear hK K
           refine rd 4 rfl (fun K hK => ?_)
           go_simp
           refine (hpr _ (by first | rfl | omega | (rw [IntKind.wrap_i64]; omega))).mono ?_; rintro e u1 ⟨rfl, hb1⟩; have hG2 := hG1.below hb1
           go_wp2_with fail
           refine ko hK trivial (fun hHeld => ?_)
           clear hK K
           refine rd 5 rfl (fun K hK => ?_)
           refine step_want rfl (wp_bld1 (.tmp 44) rfl X rfl hx32 ?_)
           refine ko hK trivial (fun hHeld => ?_)
           clear hK K
           refine rd 6 rfl (fun K hK => ?_)
           refine step_want rfl (wp_ag43 (.tmp 41) (.tmp 45) rfl (w.heap.size + 1) (j + k) _ T X rfl (hG2.own.alloc _) u1.heap.size 1 rfl (Arr.new u1 30 (h8 X)) hx32 (by omega) (by have := hG2.bel.size; have := hG2.a0.lt; simp; omega) ?_)
           intro v' w4 hown4 hg4
           obtain ⟨gv, cv, rfl⟩ := own_sl43 hown4 (by omega)
           obtain ⟨c4, f4, hG4⟩ := hG2.app rfl (by omega) hown4 hg4
           refine ko hK trivial (fun hHeld => ?_)
           clear hK K
           refine tk 7 rfl ?_
           refine rd 8 rfl (fun K hK => ?_)
           go_simp
           go_wp2_with fail
           refine ko hK trivial (fun hHeld => ?_)
           clear hK K
           refine dn ?_
           clear c2 c4 f4 hG hG1 hG2
           go_wp2_with fail
           go_roundw
           case rel => exact ⟨k + 1, _, _, by go_num, by omega, hG4, hTn⟩
           case measure => simp [intOf]; omega
         · go_simp
           refine (hpr _ (by first | rfl | omega | (rw [IntKind.wrap_i64]; omega))).mono ?_; rintro e u1 ⟨rfl, hb1⟩; have hG2 := hG1.below hb1
           go_wp2_with fail
           refine ko hK trivial (fun hHeld => ?_)
           clear hK K
           have c2 := hG2.c2
           refine rd2 1 5 rfl rfl (fun K hK => ?_) (fun K hK => ?_)
           · go_simp
             go_wp2_with fail
             refine ko hK trivial (fun hHeld => ?_)
             clear hK K
             refine rd 5 rfl (fun K hK => ?_)
             refine step_want rfl (wp_bld1 (.tmp 44) rfl X rfl hx32 ?_)
             refine ko hK trivial (fun hHeld => ?_)
             clear hK K
             refine rd 6 rfl (fun K hK => ?_)
             refine step_want rfl (wp_ag43 (.tmp 41) (.tmp 45) rfl (w.heap.size + 1) (j + k) _ T X rfl (hG2.own.alloc _) u1.heap.size 1 rfl (Arr.new u1 30 (h8 X)) hx32 (by omega) (by have := hG2.bel.size; have := hG2.a0.lt; simp; omega) ?_)
             intro v' w4 hown4 hg4
             obtain ⟨gv, cv, rfl⟩ := own_sl43 hown4 (by omega)
             obtain ⟨c4, f4, hG4⟩ := hG2.app rfl (by omega) hown4 hg4
             refine ko hK trivial (fun hHeld => ?_)
             clear hK K
             refine tk 7 rfl ?_
             refine rd 8 rfl (fun K hK => ?_)
             go_simp
             go_wp2_with fail
             refine ko hK trivial (fun hHeld => ?_)
             clear hK K
             refine dn ?_
             clear c2 c4 f4 hG hG1 hG2
             go_wp2_with fail
             go_roundw
             case rel => exact ⟨k + 1, _, _, by go_num, by omega, hG4, hTn⟩
             case measure => simp [intOf]; omega
           · refine step_want rfl (wp_bld1 (.tmp 44) rfl X rfl hx32 ?_)
             refine ko hK trivial (fun hHeld => ?_)
             clear hK K
             have c2 := (hG2.aT.alloc (.cells (h8 X) 30)).cell 2
             change _ = some u at c2
             refine rd 1 rfl (fun K hK => ?_)
             go_simp
             go_wp2_with fail
             refine ko hK trivial (fun hHeld => ?_)
             clear hK K
             refine rd 6 rfl (fun K hK => ?_)
             refine step_want rfl (wp_ag43 (.tmp 41) (.tmp 45) rfl (w.heap.size + 1) (j + k) _ T X rfl (hG2.own.alloc _) u1.heap.size 1 rfl (Arr.new u1 30 (h8 X)) hx32 (by omega) (by have := hG2.bel.size; have := hG2.a0.lt; simp; omega) ?_)
             intro v' w4 hown4 hg4
             obtain ⟨gv, cv, rfl⟩ := own_sl43 hown4 (by omega)
             obtain ⟨c4, f4, hG4⟩ := hG2.app rfl (by omega) hown4 hg4
             refine ko hK trivial (fun hHeld => ?_)
             clear hK K
             refine tk 7 rfl ?_
             refine rd 8 rfl (fun K hK => ?_)
             go_simp
             go_wp2_with fail
             refine ko hK trivial (fun hHeld => ?_)
             clear hK K
             refine dn ?_
             clear c2 c4 f4 hG hG1 hG2
             go_wp2_with fail
             go_roundw
             case rel => exact ⟨k + 1, _, _, by go_num, by omega, hG4, hTn⟩
             case measure => simp [intOf]; omega
       · obtain rfl : k = p := by omega
         have hI2 : ¬ (k : Int) < k := by omega
         obtain ⟨gl, cl, rfl, hgl, hc1, hc2, hB⟩ := own_hb hG.own hTI.out.1.l32 hTI.out.2 (by omega)
         have hmm := hmp.out
         rw [← hmm] at hc1 hG hTI
         have hTA := hG.aT
         have h0A := hG.a0
         have hbl := hG.bel
         have hone : (tA (.slice (some ⟨gt, 0, none⟩) j ct) (.slice (some ⟨gl, 0, none⟩) m cl)).all (·.oneCell') = true := tA_one rfl rfl
         clear hmm hG
         go_wp2_with (first
           | (refine ld72 (by rfl) (.tmp 6) (by rfl) gT (by rfl) _ _ hTA ?_)
           | (refine st72 (by rfl) (.tmp 4) (.tmp 49) (by rfl) w.heap.size _ _ (by rfl) (by rfl) hone _ (by rfl) h0A ?_))
         exact bodyPost_ret (v := .agg (tA (.slice (some ⟨gt, 0, none⟩) j ct) (.slice (some ⟨gl, 0, none⟩) m cl))) (res72 Tryz.results69 rfl (h0A.setRow _)) rfl ⟨gl, cl, T, rfl, by omega, hc1, hc2, hB.block (setRow_other _ _ _ _ (by omega)), by rw [← hTI.out.2], hTI.out.1, below_setRow hbl (Nat.le_refl _) _⟩
end Go.Proofs.YtagebcbnenehfaaGreat
