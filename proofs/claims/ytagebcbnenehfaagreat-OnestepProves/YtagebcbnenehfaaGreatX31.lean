/- QXb, Kk, Kl, QYb, QYa, QZTv, QXc. -/
import Derived.Test.YtagebcbnenehfaaGreatX30
namespace Go.Proofs.YtagebcbnenehfaaGreat
open Go.RowKit
set_option maxRecDepth 100000
set_option linter.unusedVariables false
set_option linter.unusedSimpArgs false
set_option maxHeartbeats 40000000
theorem y25 {ops : Array Oper} {S : World → Prop} {op : Oper} {a : Act} (hw : Region.wanted op (yielded ops a.tmps) = true) (x : Operand) (ho : op.op = .load 88 x)
   (b o : Nat) (hx : a.eval x = .pointer (some ⟨b, o, none⟩)) (e : Cd) (hS : ∀ w, S w → w.rangeAt b o e.arr.toList) : YieldsIf Tryz.prog ops S op (.agg e.arr) a := by
 have := yieldsIf_load_mid (P := Tryz.prog) (S := S) hw 88 x ho b o hx e.arr.toList _ hS Tryz.underlying88 rfl size25
 simpa using this
theorem refLoad_no (x : Int) (sp : Option Addr) (n cap : Nat) (cs : List Cd) (sq : Option Addr) (nd cd : Nat) (ds : List Int) (N : Nat) (w : World) (hx : -9223372036854775808 ≤ x ∧ x ≤ 9223372036854775807) (hS : CS N w sp n cap cs) (hD : MS N w sq nd cd ds) (hU : ∀ k, U64 (ds.getD k 0)) (hbad : szI x = false ∨ x < cs.length + ds.length) :
   Calls Tryz.prog 42 #[.int .i64 x, .slice sp n cap, .slice sq nd cd] w (LdPost x cs ds w) := by
 have A0 := Arr.new w 27 (mcA zM none 0 0)
 have hsz := mcA_size zM_ok.r16 none 0 0
 have hoz := mcA_one zM none 0 0
 have hb0 := alloc_bel' w (.cells (mcA zM none 0 0) 27)
 have hn := hS.small
 have hn2 := hD.small
 cases hq : szI x with
 | false =>
   have hr : lO x cs ds = (zM, 2) := by simp [lO, hq]
   replace hr := Hid.mk' hr
   replace hq := Hid.mk' hq
   clear hbad
   go_enter Tryz.func42, Tryz.ntmps42
   go_wp2_with (first
     | (go_at_call 82; go_must (refine (refSize_any _ _ hx).mono ?_; rintro e w1 ⟨rfl, h⟩; subst h; rw [hq.out]))
     | (refine st45 (by rfl) (.tmp 6) (.tmp 13) (by rfl) w.heap.size (mcA zM none 0 0) (by rfl) (by rfl) hsz hoz _ hsz A0 ?_))
   exact bodyPost_ret (v := .tuple #[.agg (mcA zM none 0 0), .int .i64 2]) (res45b Tryz.results42 rfl rfl hsz (A0.setRow _)) rfl (ldNo hr.out (below_setRow hb0 (Nat.le_refl _) _))
 | true =>
   have hlt : x < cs.length + ds.length := by rcases hbad with h | h; rw [hq] at h; cases h; exact h
   have hr : lO x cs ds = (zM, 4) := by simp [lO, hq, hlt]
   have hlt2 : x < (n : Int) + nd := by rw [hS.len.out, hD.len.out]; omega
   replace hr := Hid.mk' hr
   replace hq := Hid.mk' hq
   clear hbad hlt
   go_enter Tryz.func42, Tryz.ntmps42
   go_wp2_with (first
     | (go_at_call 82; go_must (refine (refSize_any _ _ hx).mono ?_; rintro e w1 ⟨rfl, h⟩; subst h; rw [hq.out]))
     | (refine st45 (by rfl) (.tmp 6) (.tmp 21) (by rfl) w.heap.size (mcA zM none 0 0) (by rfl) (by rfl) hsz hoz _ hsz A0 ?_))
   exact bodyPost_ret (v := .tuple #[.agg (mcA zM none 0 0), .int .i64 4]) (res45b Tryz.results42 rfl rfl hsz (A0.setRow _)) rfl (ldNo hr.out (below_setRow hb0 (Nat.le_refl _) _))
theorem ldYes' {x : Int} {X : Nat} {cs : List Cd} {ds : List Int} {w w' : World} {g : Nat} {MM : Array Value} (hr : lO x cs ds = ({ zM with me := ldW X cs ds }, 0)) (hok : Mc.ok { zM with me := ldW X cs ds }) (hM : MW w' g (ldW X cs ds)) (hl : X = (ldW X cs ds).length) (hX : X ≤ 4096) (hb : Below w.heap.size w w') (hMM : mcA { zM with me := ldW X cs ds } (some ⟨g, 0, none⟩) X X = MM) : LdPost x cs ds w (.returned (.tuple #[.agg MM, .int .i64 0])) w' := by
 subst hMM
 exact ldYes hr hok hM hl hX hb
theorem refLoad_ok (x : Int) (sp : Option Addr) (n cap : Nat) (cs : List Cd) (sq : Option Addr) (nd cd : Nat) (ds : List Int) (N : Nat) (w : World) (hx : -9223372036854775808 ≤ x ∧ x ≤ 9223372036854775807) (hS : CS N w sp n cap cs) (hD : MS N w sq nd cd ds) (hU : ∀ k, U64 (ds.getD k 0)) (hq : szI x = true) {X : Nat} (hX : x = (X : Int)) (hle : cs.length + ds.length ≤ X) :
   Calls Tryz.prog 42 #[.int .i64 x, .slice sp n cap, .slice sq nd cd] w (LdPost x cs ds w) := by
 subst hX
 obtain ⟨i0, hi, hz0, hz1, hz2⟩ := info_parts info26
 have A0 := Arr.new w 27 (mcA zM none 0 0)
 have hsz := mcA_size zM_ok.r16 none 0 0
 have hb0 := alloc_bel' w (.cells (mcA zM none 0 0) 27)
 have hn := hS.small
 have hn2 := hD.small
 have hl := hS.len
 have hl2 := hD.len
 have hX4 := szB_le (by rw [szI_nat] at hq; exact hq)
 have hnX : n ≤ X := by rw [hl.out]; omega
 have hndX : nd ≤ X - n := by rw [hl.out, hl2.out]; omega
 have hcmp : ¬ ((X : Int) < (n : Int) + nd) := by omega
 have hr : lO (X : Int) cs ds = ({ zM with me := ldW X cs ds }, 0) := by
   unfold lO
   rw [if_neg (by rw [hq]; simp), if_neg (by omega), Int.toNat_natCast]
 have hokR : Mc.ok { zM with me := ldW X cs ds } := ⟨zM_ok.pc, zM_ok.r16, zM_ok.rg, zM_ok.st, ldW_u hle hS.ok hU⟩
 have hmm := mcA_size (m := { zM with me := ldW X cs ds }) zM_ok.r16 (some ⟨w.heap.size + 1, 0, none⟩) X X
 have hmo := mcA_one { zM with me := ldW X cs ds } (some ⟨w.heap.size + 1, 0, none⟩) X X
 have c18 := mcA_18 (m := { zM with me := ldW X cs ds }) zM_ok.r16 (some ⟨w.heap.size + 1, 0, none⟩) X X
 have hbd := built45 (some ⟨w.heap.size + 1, 0, none⟩) X X (ldW X cs ds)
 have hMM : mcA { zM with me := ldW X cs ds } (some ⟨w.heap.size + 1, 0, none⟩) X X = mcA { zM with me := ldW X cs ds } (some ⟨w.heap.size + 1, 0, none⟩) X X := rfl
 replace hMM := Hid.mk' hMM
 replace hr := Hid.mk' hr
 replace hq := Hid.mk' hq
 replace hbd := Hid.mk' hbd
 go_enter Tryz.func42, Tryz.ntmps42
 go_wp2_with (first
   | (go_at_call 82; go_must (refine (refSize_any _ _ hx).mono ?_; rintro e w1 ⟨rfl, h⟩; subst h; rw [hq.out]))
   | (at_make; go_must (refine wpList_make_row _ (by rfl) (.tmp 22) (.tmp 22) 25 (by rfl) 22 i0 (.int .u64 0) Tryz.underlying25 hi hz0 hz1 rfl .i64 .i64 X (by rfl) (by rfl) (by rw [hz2]; omega) (by omega) ?_))
   | (refine wpList_plain (by rfl) fun K hK => wp_bdT 27 #[(3, .tmp 23)] (by rfl) (by rfl) hbd.out (hK _ _ ?_))
   | (refine st45n (by rfl) (.tmp 8) (.tmp 24) (by rfl) ((w.alloc (.cells (mcA zM none 0 0) 27)).alloc (.cells (madeCells #[.int .u64 0] X) 22)) (w.heap.size + 2) (by simp) (by rfl) (mcA { zM with me := ldW X cs ds } (some ⟨w.heap.size + 1, 0, none⟩) X X) (by rfl) (by rfl) hmm hmo ?_))
 go_loopw [9] (fun q wr => ∃ (k : Nat), q = .int .i64 (k : Int) ∧ k ≤ n ∧ Below w.heap.size w wr ∧ Arr wr w.heap.size 27 (mcA zM none 0 0) ∧ Arr wr (w.heap.size + 2) 27 (mcA { zM with me := ldW X cs ds } (some ⟨w.heap.size + 1, 0, none⟩) X X) ∧ MW wr (w.heap.size + 1) (lay X cs k))
   (fun q _ => n - (intOf q).toNat)
 case atStart => exact ⟨0, rfl, by omega, (hb0.alloc (by simp) _).alloc (by simp; omega) _, (A0.alloc _).alloc _, by have h := Arr.new ((w.alloc (.cells (mcA zM none 0 0) 27)).alloc (.cells (madeCells #[.int .u64 0] X) 22)) 27 (mcA { zM with me := ldW X cs ds } (some ⟨w.heap.size + 1, 0, none⟩) X X); simp only [World.size_alloc, Nat.add_assoc, Nat.reduceAdd] at h; exact h, by rw [lay_zero]; have h := made_mw (w.alloc (.cells (mcA zM none 0 0) 27)) X; simp only [World.size_alloc] at h; exact h.below (alloc_bel' _ _) h.lt⟩
 case round =>
   obtain ⟨k, rfl, hk, hbl, hA, hA2, hMW⟩ := hrel
   have d18 := (hA2.cell 18).trans c18
   by_cases hlt : k < n
   · have hI : (k : Int) < n := by omega
     have hIX : (k : Int) < X := by omega
     have hSr := hS.here.below hbl
     obtain ⟨g, off, rfl, hgN, hR⟩ := hSr.at0 (by omega)
     have hgl : g < wr.heap.size := by have := hbl.size; omega
     obtain ⟨e, he⟩ : ∃ e, cs[k]? = some e := ⟨cs[k]'(by rw [← hl.out]; exact hlt), List.getElem?_eq_getElem _⟩
     have hok := hS.ok e (List.mem_of_getElem? he)
     have hRe := hR k e he
     have hset := lay_set he (show cs.length ≤ X by omega)
     have hlay : (lay X cs k).length = X := lay_len (by rw [← hl.out]; omega) (by omega)
     replace he := Hid.mk' he
     replace hset := Hid.mk' hset
     replace hlay := Hid.mk' hlay
     go_upto_region 9 with fail
     refine rgn (fun u => u.cell? ⟨w.heap.size + 2, 18, none⟩ = some (.slice (some ⟨w.heap.size + 1, 0, none⟩) X X) ∧ u.rangeAt g (off + k * 5) e.arr.toList) (⟨by exact d18, by exact (fun j v hv => hRe j v hv)⟩) (fun hHeld => ?_)
     refine tk 0 rfl ?_
     refine tk2 1 rfl ?_
     refine tk 2 rfl ?_
     refine tk 3 rfl ?_
     refine tk 4 rfl ?_
     refine tk 5 rfl ?_
     refine tl 6 rfl (y25 (by rfl) (.tmp 36) rfl g (off + k * 5) rfl e (fun u hu => hu.2)) ?_
     refine rd 7 rfl (fun K hK => ?_)
     go_simp
     refine (refwdc_any e hok _).mono ?_
     rintro r w2 ⟨rfl, hb2⟩
     have hb2' : Below wr.heap.size wr w2 := ((Below.refl _ wr).drew).trans (hb2.mono (by simp))
     have hM2 := hMW.below hb2' hMW.lt
     have f2 := hM2.frozen k
     have c2 := hM2.cell (t := k) (by rw [hlay.out]; omega)
     have A2 := hA.below hb2' hA.lt
     have AA2 := hA2.below hb2' hA2.lt
     have B2 := hbl.trans (hb2'.mono hbl.size)
     have d18' := (AA2.cell 18).trans c18
     have hRe2 := range_below hRe hb2' hgl
     go_wp2_with fail
     refine ko hK ⟨d18', hRe2⟩ (fun hHeld => ?_)
     clear hK K
     refine tk 8 rfl ?_
     refine rd 9 rfl (fun K hK => ?_)
     go_simp
     go_wp2_with fail
     refine ko hK ⟨(cell_set_ne _ (fun e => by injection e with e1; omega)).trans d18', fun j v hv => (cell_set_ne _ (fun e => by injection e with e1; omega)).trans (hRe2 j v hv)⟩ (fun hHeld => ?_)
     clear hK K
     refine dn ?_
     go_wp2_with fail
     go_roundw
     case rel => exact ⟨k + 1, by go_num, by omega, B2.setCell (by simp) _, A2.setOther _ (by simp), AA2.setOther _ (by simp), by rw [← hset.out]; exact hM2.set (by rw [hlay.out]; omega) _⟩
     case measure => simp [intOf]; omega
   · obtain rfl : k = n := by omega
     have hnlt : ¬ (k : Int) < k := by omega
     have hkX : (k : Int) ≤ X := by omega
     have hkl : k = cs.length := hl.out
     by_cases hd0 : nd = 0
     · have hds : ds = [] := List.eq_nil_of_length_eq_zero (by rw [← hl2.out]; exact hd0)
       have hM2 : MW wr (w.heap.size + 1) (ldW X cs ds) := by rw [hds, ← lay_all (by omega), ← hkl]; exact hMW
       subst hd0
       replace hkl := Hid.mk' hkl
       replace hds := Hid.mk' hds
       by_cases hXk : X = k
       · subst hXk
         go_wp2_with (first | (refine wpList_copy_nothing (by rfl) (.tmp 44) (.tmp 45) 25 25 (by rfl) 22 Tryz.underlying25 size26 _ _ _ _ 0 cd (by rfl) (by rfl) (by simp) ?_) | (refine ld45 (by rfl) (.tmp 8) (by rfl) (w.heap.size + 2) (by rfl) (mcA { zM with me := ldW X cs ds } (some ⟨w.heap.size + 1, 0, none⟩) X X) hmm hA2 ?_) | (refine st45 (by rfl) (.tmp 6) (.tmp 47) (by rfl) w.heap.size (mcA { zM with me := ldW X cs ds } (some ⟨w.heap.size + 1, 0, none⟩) X X) (by rfl) (by rfl) hmm hmo _ hsz hA ?_))
         exact bodyPost_ret (v := .tuple #[.agg (mcA { zM with me := ldW X cs ds } (some ⟨w.heap.size + 1, 0, none⟩) X X), .int .i64 0]) (res45b Tryz.results42 rfl rfl hmm (hA.setRow _)) rfl (ldYes' hr.out hokR (hM2.block (setRow_other _ _ _ _ (by omega))) (by rw [ldW_len hle]) (by omega) (below_setRow hbl (Nat.le_refl _) _) rfl)
       · go_wp2_with (first | (refine wpList_copy_nothing (by rfl) (.tmp 44) (.tmp 45) 25 25 (by rfl) 22 Tryz.underlying25 size26 _ _ _ _ 0 cd (by rfl) (by rfl) (by simp) ?_) | (refine ld45 (by rfl) (.tmp 8) (by rfl) (w.heap.size + 2) (by rfl) (mcA { zM with me := ldW X cs ds } (some ⟨w.heap.size + 1, 0, none⟩) X X) hmm hA2 ?_) | (refine st45 (by rfl) (.tmp 6) (.tmp 47) (by rfl) w.heap.size (mcA { zM with me := ldW X cs ds } (some ⟨w.heap.size + 1, 0, none⟩) X X) (by rfl) (by rfl) hmm hmo _ hsz hA ?_))
         exact bodyPost_ret (v := .tuple #[.agg (mcA { zM with me := ldW X cs ds } (some ⟨w.heap.size + 1, 0, none⟩) X X), .int .i64 0]) (res45b Tryz.results42 rfl rfl hmm (hA.setRow _)) rfl (ldYes' hr.out hokR (hM2.block (setRow_other _ _ _ _ (by omega))) (by rw [ldW_len hle]) (by omega) (below_setRow hbl (Nat.le_refl _) _) rfl)
     · have hXk : ¬ X = k := by omega
       obtain ⟨gd, od, rfl, hgd, hcd⟩ := (hD.here.below hbl).at0 (by omega)
       obtain ⟨C, hCA, hC⟩ := hMW
       have hC' := hC
       rw [hkl] at hC'
       have hCs : X ≤ C.size := by
         have h1 : (lay X cs k).length = X := lay_len (by omega) (by omega)
         have := (Array.getElem?_eq_some_iff.1 (hC (X - 1) (by omega))).1
         omega
       have hsrc : ∀ j v, (by64 ds)[j]? = some v → wr.cell? ((⟨gd, od, none⟩ : Addr).add j) = some v := fun j v hv => by
         have hj : j < ds.length := by have := (List.getElem?_eq_some_iff.1 hv).1; rwa [by64_len] at this
         rw [by64_get hj] at hv
         rw [Addr.add_mid, hcd j (by rw [hl2.out]; exact hj)]; exact hv
       have hM2 : MW (wr.setRow (w.heap.size + 1) (C.toList.take k ++ (by64 ds ++ C.toList.drop (k + (by64 ds).length))).toArray) (w.heap.size + 1) (ldW X cs ds) := ⟨_, hCA.setRow _, by have := ldW_splice hle hC'; rw [← hkl] at this; exact this⟩
       have A2 : Arr (wr.setRow (w.heap.size + 1) (C.toList.take k ++ (by64 ds ++ C.toList.drop (k + (by64 ds).length))).toArray) w.heap.size 27 (mcA zM none 0 0) := hA.setRowOther _ (by omega)
       have B2 : Arr (wr.setRow (w.heap.size + 1) (C.toList.take k ++ (by64 ds ++ C.toList.drop (k + (by64 ds).length))).toArray) (w.heap.size + 2) 27 (mcA { zM with me := ldW X cs ds } (some ⟨w.heap.size + 1, 0, none⟩) X X) := hA2.setRowOther _ (by omega)
       replace hsrc := Hid.mk' hsrc
       replace hkl := Hid.mk' hkl
       clear hC hC' hcd
       go_wp2_with (first | (refine wpList_copy_own (by rfl) (.tmp 44) (.tmp 45) 25 25 (by rfl) 22 Tryz.underlying25 size26 (w.heap.size + 1) k (X - k) (X - k) ⟨gd, od, none⟩ nd cd (by rfl) (by rfl) C 22 hCA (by64 ds) (by rw [by64_len, ← hl2.out]; exact (Nat.min_eq_left (by omega)).symm) hsrc.out (by rw [by64_len, ← hl2.out]; omega) (by64_one _) ?_) | (refine ld45 (by rfl) (.tmp 8) (by rfl) (w.heap.size + 2) (by rfl) (mcA { zM with me := ldW X cs ds } (some ⟨w.heap.size + 1, 0, none⟩) X X) hmm B2 ?_) | (refine st45 (by rfl) (.tmp 6) (.tmp 47) (by rfl) w.heap.size (mcA { zM with me := ldW X cs ds } (some ⟨w.heap.size + 1, 0, none⟩) X X) (by rfl) (by rfl) hmm hmo _ hsz A2 ?_))
       exact bodyPost_ret (v := .tuple #[.agg (mcA { zM with me := ldW X cs ds } (some ⟨w.heap.size + 1, 0, none⟩) X X), .int .i64 0]) (res45b Tryz.results42 rfl rfl hmm (A2.setRow _)) rfl (ldYes' hr.out hokR (hM2.block (setRow_other _ _ _ _ (by omega))) (by rw [ldW_len hle]) (by omega) (below_setRow (below_setRow hbl (by omega) _) (Nat.le_refl _) _) rfl)
theorem refLoad_any (x : Int) (sp : Option Addr) (n cap : Nat) (cs : List Cd) (sq : Option Addr) (nd cd : Nat) (ds : List Int) (N : Nat) (w : World) (hx : -9223372036854775808 ≤ x ∧ x ≤ 9223372036854775807) (hS : CS N w sp n cap cs) (hD : MS N w sq nd cd ds) (hU : ∀ k, U64 (ds.getD k 0)) :
   Calls Tryz.prog 42 #[.int .i64 x, .slice sp n cap, .slice sq nd cd] w (LdPost x cs ds w) := by
 by_cases h : szI x = false ∨ x < cs.length + ds.length
 · exact refLoad_no x sp n cap cs sq nd cd ds N w hx hS hD hU h
 · have hq : szI x = true := by cases hm : szI x with | true => rfl | false => exact absurd (.inl hm) h
   exact refLoad_ok x sp n cap cs sq nd cd ds N w hx hS hD hU hq (X := x.toNat) (by omega) (by omega)
section
section
variable {FG FrS FP : Nat} {S : Type} {H : Hd S} {I : (Nat → Prop) → S → World → Prop} {B0 : Nat} {ptr : Value} {PV : List PanicEntry} {F : Nat → Prop} {s s' : S} {u : World} {x y v : Int} {X bs : List Int}
theorem Met.get_s (M : Met FG FrS FP H I B0 ptr PV) (h : I F s u) (hx : U64 x) (hr : H.rk s < 1000) (hg : H.gt x s = some (v, s')) : Calls Tryz.prog FG #[ptr, .int .u64 x] u fun e w' => e = .returned (.int .u64 v) ∧ U64 v ∧ Below B0 u w' ∧ Kp F u w' ∧ I F s' w' :=
 (M.get F s u x h hx hr).mono fun e w' ⟨h1, h2, h3⟩ => by
   rcases h3 with ⟨v', s'', h4, h5, h6, h7⟩ | ⟨h4, h5⟩
   · rw [hg] at h4; cases h4; exact ⟨h6, h5, h1, h2, h7⟩
   · rw [hg] at h4; cases h4
theorem Met.get_n (M : Met FG FrS FP H I B0 ptr PV) (h : I F s u) (hx : U64 x) (hr : H.rk s < 1000) (hg : H.gt x s = none) : Calls Tryz.prog FG #[ptr, .int .u64 x] u fun e w' => e = .panicked PV ∧ Below B0 u w' ∧ Kp F u w' :=
 (M.get F s u x h hx hr).mono fun e w' ⟨h1, h2, h3⟩ => by
   rcases h3 with ⟨v', s'', h4, h5, h6, h7⟩ | ⟨h4, h5⟩
   · rw [hg] at h4; cases h4
   · exact ⟨h5, h1, h2⟩
theorem Met.set_s (M : Met FG FrS FP H I B0 ptr PV) (h : I F s u) (hx : U64 x) (hy : U64 y) (hr : H.rk s < 1000) (hg : H.st x y s = some s') : Calls Tryz.prog FrS #[ptr, .int .u64 x, .int .u64 y] u fun e w' => e = .returned (.tuple #[]) ∧ Below B0 u w' ∧ Kp F u w' ∧ I F s' w' :=
 (M.set F s u x y h hx hy hr).mono fun e w' ⟨h1, h2, h3⟩ => by
   rcases h3 with ⟨s'', h4, h6, h7⟩ | ⟨h4, h5⟩
   · rw [hg] at h4; cases h4; exact ⟨h6, h1, h2, h7⟩
   · rw [hg] at h4; cases h4
theorem Met.set_n (M : Met FG FrS FP H I B0 ptr PV) (h : I F s u) (hx : U64 x) (hy : U64 y) (hr : H.rk s < 1000) (hg : H.st x y s = none) : Calls Tryz.prog FrS #[ptr, .int .u64 x, .int .u64 y] u fun e w' => e = .panicked PV ∧ Below B0 u w' ∧ Kp F u w' :=
 (M.set F s u x y h hx hy hr).mono fun e w' ⟨h1, h2, h3⟩ => by
   rcases h3 with ⟨s'', h4, h6, h7⟩ | ⟨h4, h5⟩
   · rw [hg] at h4; cases h4
   · exact ⟨h5, h1, h2⟩
theorem Met.pre_s (M : Met FG FrS FP H I B0 ptr PV) (h : I F s u) (hX : X.length = 32) (hg : H.pm X s = some (bs, s')) : Calls Tryz.prog FP #[ptr, .agg (h8 X)] u fun e w' => ∃ sp n cap, e = .returned (.slice sp n cap) ∧ BS w'.heap.size w' sp n cap bs ∧ Below B0 u w' ∧ Kp F u w' ∧ I F s' w' :=
 (M.pre F s u X h hX).mono fun e w' ⟨h1, h2, h3⟩ => by
   rcases h3 with ⟨bs', s'', sp, n, cap, h4, h5, h6, h7⟩ | ⟨h4, h5⟩
   · rw [hg] at h4; cases h4; exact ⟨sp, n, cap, h5, h6, h1, h2, h7⟩
   · rw [hg] at h4; cases h4
theorem Met.pre_n (M : Met FG FrS FP H I B0 ptr PV) (h : I F s u) (hX : X.length = 32) (hg : H.pm X s = none) : Calls Tryz.prog FP #[ptr, .agg (h8 X)] u fun e w' => e = .panicked PV ∧ Below B0 u w' ∧ Kp F u w' :=
 (M.pre F s u X h hX).mono fun e w' ⟨h1, h2, h3⟩ => by
   rcases h3 with ⟨bs', s'', sp, n, cap, h4, h5, h6, h7⟩ | ⟨h4, h5⟩
   · rw [hg] at h4; cases h4
   · exact ⟨h5, h1, h2⟩
theorem Met.more (M : Met FG FrS FP H I B0 ptr PV) {G : Nat → Prop} {u' : World} (h : I F s u) (hb : Below u.heap.size u u') (hG : ∀ b, G b → F b ∨ u.heap.size ≤ b) (hG2 : ∀ b, G b → b < u'.heap.size) : I G s u' :=
 M.keep F G s u u' h (hb.mono (M.base F s u h)) (fun b h1 _ => hb.block b h1) hG hG2
theorem Kp.trans {F : Nat → Prop} {a b c : World} (h : Kp F a b) (k : Kp F b c) : Kp F a c := fun i hi => (k i hi).trans (h i hi)
theorem Kp.mono {F G : Nat → Prop} {a b : World} (h : Kp F a b) (hG : ∀ i, G i → F i) : Kp G a b := fun i hi => h i (hG i hi)
theorem Kp.of_below {F : Nat → Prop} {a b : World} (h : Below a.heap.size a b) (hF : ∀ i, F i → i < a.heap.size) : Kp F a b := fun i hi => h.block i (hF i hi)
theorem getN_rk (M : Met FG FrS FP H I B0 ptr PV) : ∀ {k : Nat} {vs : List Int} {s' : S}, getN H x k s = some (vs, s') → H.rk s' ≤ H.rk s + k
 | 0, vs, s', h => by cases h; omega
 | k + 1, vs, s', h => by
   unfold getN at h
   cases h1 : getN H x k s with
   | none => rw [h1] at h; cases h
   | some p =>
     rw [h1] at h
     cases h2 : H.gt (x + k) p.2 with
     | none => simp [h2] at h
     | some q =>
       simp [h2] at h
       have a1 := getN_rk M (vs := p.1) (s' := p.2) h1
       have a2 := M.rkg _ _ q.1 q.2 h2
       rw [← h.2]
       omega
theorem setN_rk (M : Met FG FrS FP H I B0 ptr PV) {W : Nat → Int} : ∀ {k : Nat} {s' : S}, setN H x W k s = some s' → H.rk s' ≤ H.rk s + k
 | 0, s', h => by cases h; omega
 | k + 1, s', h => by
   unfold setN at h
   cases h1 : setN H x W k s with
   | none => rw [h1] at h; cases h
   | some p =>
     rw [h1] at h
     have a1 := setN_rk M h1
     have a2 := M.rks _ _ p s' h
     omega
theorem getN_none {k : Nat} (h : getN H x k s = none) : ∀ j, getN H x (k + j) s = none
 | 0 => h
 | j + 1 => by rw [← Nat.add_assoc, getN, getN_none h j]; rfl
theorem getN_len : ∀ {k : Nat} {vs : List Int} {s' : S}, getN H x k s = some (vs, s') → vs.length = k
 | 0, vs, s', h => by cases h; rfl
 | k + 1, vs, s', h => by
   unfold getN at h
   cases h1 : getN H x k s with
   | none => rw [h1] at h; cases h
   | some p =>
     rw [h1] at h
     cases h2 : H.gt (x + k) p.2 with
     | none => simp [h2] at h
     | some q =>
       simp [h2] at h
       rw [← h.1, List.length_append, getN_len h1]
       rfl
end
theorem Arr.kp {F : Nat → Prop} {u u' : World} {g ty : Nat} {C : Array Value} (h : Arr u g ty C) (hk : Kp F u u') (hg : F g) : Arr u' g ty C := (hk g hg).trans h
theorem MW.kp {F : Nat → Prop} {u u' : World} {g : Nat} {L : List Int} (h : MW u g L) (hk : Kp F u u') (hg : F g) : MW u' g L := let ⟨C, h1, h2⟩ := h; ⟨C, h1.kp hk hg, h2⟩
end
theorem bring (K : Bool) {S : Type} {H : Hd S} {I : (Nat → Prop) → S → World → Prop} {B0 : Nat} {ad : Addr} {PV : List PanicEntry} {F : Nat → Prop} {s : S} {x : Int} {k : Nat} (w : World)
   (M : Met (kfg K) (kfs K) (kfp K) H I B0 (.pointer (some ad)) PV) (hI : I F s w) (hx : 0 ≤ x) (hxk : 0 < k → x + k ≤ 4096) (hk : k ≤ 4096) (hr : Hid (H.rk s + k ≤ 1000)) :
   Calls Tryz.prog 81 #[.agg #[.int .u64 x, .int .u64 k], .iface (kty K) (.pointer (some ad))] w fun e w' => Below B0 w w' ∧ Kp F w w' ∧ ((∃ vs s' gB, getN H x k s = some (vs, s') ∧ e = .returned (.slice (some ⟨gB, 0, none⟩) k k) ∧ MW w' gB vs ∧ (∀ t, U64 (vs.getD t 0)) ∧ w.heap.size ≤ gB ∧ I (fun b => F b ∨ b = gB) s' w') ∨ (getN H x k s = none ∧ e = .panicked PV)) := by
 cases K
 all_goals
   dsimp only [kty, kfg, kfs, kfp] at *
   obtain ⟨i0, hi, hz0, hz1, hz2⟩ := info_parts info26
   have hB0 := M.base F s w hI
   have hFw := M.own F s w hI
   have A0 := (Arr.new w 156 #[.int .u64 x, .int .u64 (k : Int)]).alloc (.cells (madeCells #[.int .u64 0] k) 22)
   have b0 : Below w.heap.size w ((w.alloc (.cells #[.int .u64 x, .int .u64 (k : Int)] 156)).alloc (.cells (madeCells #[.int .u64 0] k) 22)) := (alloc_bel' w _).alloc (by simp) _
   have hI0 : I (fun b => F b ∨ b = w.heap.size ∨ b = w.heap.size + 1) s ((w.alloc (.cells #[.int .u64 x, .int .u64 (k : Int)] 156)).alloc (.cells (madeCells #[.int .u64 0] k) 22)) := M.more hI b0 (by rintro b (h | h | h); exact .inl h; exact .inr (by omega); exact .inr (by omega)) (by rintro b (h | h | h); have := hFw b h; simp; omega; simp; omega; simp; omega)
   have hM0 : MW ((w.alloc (.cells #[.int .u64 x, .int .u64 (k : Int)] 156)).alloc (.cells (madeCells #[.int .u64 0] k) 22)) (w.heap.size + 1) (List.replicate k 0) := by
     have h := made_mw (w.alloc (.cells #[.int .u64 x, .int .u64 (k : Int)] 156)) k
     simpa using h
   go_enter Tryz.func81, Tryz.ntmps81
   go_wp2_with (at_make; go_must (refine wpList_make_row _ (by rfl) (.tmp 8) (.tmp 8) 25 (by rfl) 22 i0 (.int .u64 0) Tryz.underlying25 hi hz0 hz1 rfl .u64 .u64 k (by rfl) (by rfl) (by rw [hz2]; omega) (by omega) ?_))
   go_loopw [12] (fun q wr => ∃ (j : Nat) (vs : List Int) (s1 : S), q = .int .i64 (j : Int) ∧ j ≤ k ∧ getN H x j s = some (vs, s1) ∧ (∀ t, U64 (vs.getD t 0)) ∧ MW wr (w.heap.size + 1) (vs ++ List.replicate (k - j) 0) ∧ Arr wr w.heap.size 156 #[.int .u64 x, .int .u64 (k : Int)] ∧ I (fun b => F b ∨ b = w.heap.size ∨ b = w.heap.size + 1) s1 wr ∧ Below B0 w wr ∧ Kp F w wr)
     (fun q _ => k - (intOf q).toNat)
   case atStart => exact ⟨0, [], s, rfl, by omega, rfl, fun t => ⟨by simp, by simp⟩, hM0, A0, hI0, b0.mono hB0, Kp.of_below b0 hFw⟩
   case round =>
     obtain ⟨j, vs, s1, rfl, hj, hg, hU, hMW, hA, hI1, hbl, hkp⟩ := hrel
     have hvl := getN_len hg
     by_cases hlt : j < k
     · have hjI : (j : Int) < k := by omega
       have hxk := hxk (by omega)
       have c0 := hA.cell 0
       have hw1 : IntKind.u64.wrap (j : Int) = j := wrap64_of (by omega) (by omega)
       have hw2 : IntKind.u64.wrap (x + (j : Int)) = x + j := wrap64_of (by omega) (by omega)
       have hUx : U64 (x + j) := ⟨by omega, by omega⟩
       have hsl : (vs ++ List.replicate (k - j) (0 : Int)).length = k := by rw [List.length_append, hvl, List.length_replicate]; omega
       cases hgt : H.gt (x + j) s1 with
       | none =>
         have hnn : getN H x k s = none := by
           have h1 : getN H x (j + 1) s = none := by unfold getN; rw [hg]; simp [hgt]
           have h2 := getN_none h1 (k - (j + 1))
           rw [show j + 1 + (k - (j + 1)) = k by omega] at h2
           exact h2
         have hct := M.get_n hI1 hUx (by have := getN_rk M hg; have := hr.out; omega) hgt
         clear hsl hvl hM0 hI0 A0
         go_wp2_with ((first | go_at_call 238 | go_at_call 227); go_must (refine hct.mono ?_; rintro e w1 ⟨rfl, h1, h2⟩))
         exact ⟨rfl, hbl.trans h1, hkp.trans (h2.mono (fun i h => .inl h)), .inr ⟨hnn, rfl⟩⟩
       | some r =>
         obtain ⟨v, s2⟩ := r
         have hg2 : getN H x (j + 1) s = some (vs ++ [v], s2) := by rw [getN, hg]; simp [hgt]
         have hct := M.get_s hI1 hUx (by have := getN_rk M hg; have := hr.out; omega) hgt
         have hfz := fun (u : World) (h : MW u (w.heap.size + 1) (vs ++ List.replicate (k - j) 0)) => h.frozen j
         have hcl := fun (u : World) (h : MW u (w.heap.size + 1) (vs ++ List.replicate (k - j) 0)) => h.cell (t := j) (by rw [hsl]; exact hlt)
         have hst := fun (u : World) (h : MW u (w.heap.size + 1) (vs ++ List.replicate (k - j) 0)) => h.set (i := j) (by rw [hsl]; exact hlt) v
         have hls : (vs ++ List.replicate (k - j) (0 : Int)).set j v = (vs ++ [v]) ++ List.replicate (k - (j + 1)) 0 := by
           rw [List.set_append_right _ _ (by omega), hvl, Nat.sub_self, show k - j = (k - (j + 1)) + 1 by omega, List.replicate_succ, List.set_cons_zero]
           simp
         rw [hls] at hst
         replace hls := Hid.mk' hls
         clear hsl hM0 hI0 A0
         replace hvl := Hid.mk' hvl
         go_wp2_with ((first | go_at_call 238 | go_at_call 227); go_must (refine hct.mono ?_; rintro e w1 ⟨rfl, hUv, h1, h2, h3⟩; have hMW1 := hMW.kp h2 (.inr (.inr rfl)); have hA1 := hA.kp h2 (.inr (.inl rfl)); have hcl1 := hcl _ hMW1; have hfz1 := hfz _ hMW1; have hst1 := hst _ hMW1; clear hcl hfz hst))
         go_roundw
         case rel =>
           refine ⟨j + 1, vs ++ [v], s2, by go_num, by omega, hg2, ?_, hst1, hA1.setOther _ (by simp), ?_, ?_, ?_⟩
           · intro t
             by_cases ht : t < vs.length
             · rw [List.getD_eq_getElem?_getD, List.getElem?_append_left ht, ← List.getD_eq_getElem?_getD]; exact hU t
             · rw [List.getD_eq_getElem?_getD, List.getElem?_append_right (by omega)]
               by_cases h0 : t - vs.length = 0
               · rw [h0]; exact hUv
               · rw [List.getElem?_eq_none (by simp; omega)]; exact ⟨by simp, by simp⟩
           · exact M.keep _ _ s2 _ _ h3 ((Below.refl _ _).setCell (by simp; omega) _) (fun b h4 h5 => Below.heap_setCell _ _ _ _ (fun e => h5 (.inr (.inr (by simpa using e))))) (fun b h => .inl h) (fun b h => by simpa using M.own _ _ _ h3 b h)
           · exact hbl.trans (h1.trans ((Below.refl _ _).setCell (by simp; omega) _))
           · exact hkp.trans (fun b hb => (Below.heap_setCell _ _ _ _ (fun e => by have := hFw b hb; have e' : b = w.heap.size + 1 := e; omega)).trans (h2 b (.inl hb)))
         case measure => simp [intOf]; omega
     · obtain rfl : j = k := by omega
       rw [Nat.sub_self, List.replicate_zero, List.append_nil] at hMW
       go_wp2_with fail
       go_ret
       exact ⟨hbl, hkp, .inl ⟨vs, s1, w.heap.size + 1, hg, rfl, hMW, hU, by omega, M.keep _ _ s1 _ _ hI1 (Below.refl _ _) (fun b _ _ => rfl) (by rintro b (h | h); exact .inl (.inl h); exact .inl (.inr (.inr h))) (by rintro b (h | h); exact M.own _ _ _ hI1 b (.inl h); exact M.own _ _ _ hI1 b (.inr (.inr h)))⟩⟩
section
structure DM (N : Nat) (es : List En) (w : World) (g gm n cap : Nat) (sp : Option Addr) (nk ck : Nat) (m : Mc) : Prop where
 en : EN w g 27 [] gm n cap m
 known : ES N w sp nk ck es
 le : N ≤ g ∧ N ≤ gm
section
variable {N : Nat} {es : List En} {w w' : World} {g gm n cap : Nat} {sp : Option Addr} {nk ck : Nat} {m m' : Mc}
theorem DM.bel (h : DM N es w g gm n cap sp nk ck m) (hb : Below w.heap.size w w') : DM N es w' g gm n cap sp nk ck m := by
 have h1 := h.en.lt
 have h2 := h.le
 exact ⟨h.en.bel hb, h.known.below (hb.mono (by omega)), h.le⟩
theorem DM.setCell (h : DM N es w g gm n cap sp nk ck m) {a : Addr} {v : Value} (ha : a.block = g ∨ a.block = gm) (he : EN (w.setCell a v) g 27 [] gm n cap m') : DM N es (w.setCell a v) g gm n cap sp nk ck m' := by
 have h2 := h.le
 exact ⟨he, h.known.below ((Below.refl N w).setCell (by rcases ha with e | e <;> rw [e] <;> omega) v), h.le⟩
def C2 (g gm k : Nat) : Prop := k = g ∨ k = gm
theorem Chg.g2 {a b : World} (h : Chg (C2 g gm) a b) (j : Nat) (v : Value) : Chg (C2 g gm) a (b.setCell ⟨g, j, none⟩ v) := h.setCell v (fun _ => .inl rfl)
theorem Chg.m2 {a b : World} (h : Chg (C2 g gm) a b) (j : Nat) (v : Value) : Chg (C2 g gm) a (b.setCell ⟨gm, j, none⟩ v) := h.setCell v (fun _ => .inr rfl)
def DoPost (N : Nat) (es : List En) (g gm n cap : Nat) (sp : Option Addr) (nk ck : Nat) (m : Mc) (o : Option Mc) (w : World) (e : Ending) (w' : World) : Prop :=
 Chg (C2 g gm) w w' ∧ w.heap.size ≤ w'.heap.size ∧ ((∃ m', o = some m' ∧ e = .returned (.bool true) ∧ DM N es w' g gm n cap sp nk ck m') ∨ (o = none ∧ e = .returned (.bool false) ∧ DM N es w' g gm n cap sp nk ck m))
theorem doYes {o : Option Mc} {W : World} (hW : Below w.heap.size w W) {m' : Mc} (ho : o = some m') (hb : Chg (C2 g gm) W w') (hs : W.heap.size ≤ w'.heap.size) (hV' : DM N es w' g gm n cap sp nk ck m') : DoPost N es g gm n cap sp nk ck m o w (.returned (.bool true)) w' :=
 ⟨(Chg.of_below hW).trans hb, Nat.le_trans hW.size hs, .inl ⟨m', ho, rfl, hV'⟩⟩
theorem doNo {o : Option Mc} (hV : DM N es w g gm n cap sp nk ck m) (ho : o = none) (hW : Below w.heap.size w w') : DoPost N es g gm n cap sp nk ck m o w (.returned (.bool false)) w' :=
 ⟨Chg.of_below hW, hW.size, .inr ⟨ho, rfl, hV.bel hW⟩⟩
theorem DM.setReg (h : DM N es w g gm n cap sp nk ck m) {a : Nat} (ha : a < 16) {x : Int} (hx : U64 x) : DM N es (w.setCell ⟨g, 1 + a, none⟩ (.int .u64 x)) g gm n cap sp nk ck { m with rg := m.rg.set a x } := h.setCell (.inl rfl) (h.en.setReg ha hx)
theorem DM.setPc (h : DM N es w g gm n cap sp nk ck m) {x : Int} (hx : U64 x) : DM N es (w.setCell ⟨g, 0, none⟩ (.int .u64 x)) g gm n cap sp nk ck { m with pc := x } := h.setCell (.inl rfl) (h.en.setPc hx)
theorem DM.setSt (h : DM N es w g gm n cap sp nk ck m) {x : Int} (hx : 0 ≤ x ∧ x < 256) : DM N es (w.setCell ⟨g, 17, none⟩ (.int .u8 x)) g gm n cap sp nk ck { m with st := x } := h.setCell (.inl rfl) (h.en.setSt hx)
theorem DM.setMem (h : DM N es w g gm n cap sp nk ck m) {k : Nat} (hk : k < n) {x : Int} (hx : U64 x) : DM N es (w.setCell ⟨gm, k, none⟩ (.int .u64 x)) g gm n cap sp nk ck { m with me := m.me.set k x } := h.setCell (.inr rfl) (h.en.setMem hk hx)
theorem DM.put (h : DM N es w g gm n cap sp nk ck m) {a : Nat} (ha : a < 16) {x : Int} (hx : U64 x) : DM N es ((w.setCell ⟨g, 1 + a, none⟩ (.int .u64 x)).setCell ⟨g, 0, none⟩ (.int .u64 (IntKind.u64.wrap (m.pc + 1)))) g gm n cap sp nk ck (m.put a x) := (h.setReg ha hx).setPc (U64.wrap _)
end
end
def inB (x k : Int) (n : Nat) : Bool := decide (k = 0 ∨ x + k ≤ n)
theorem inside_any (x k : Int) (n : Nat) (w : World) (hx : U64 x) (hk : 0 ≤ k ∧ k ≤ 4096) (hn : n ≤ 4096) :
   Calls Tryz.prog 186 #[.int .u64 x, .int .i64 k, .int .i64 (n : Int)] w fun e w' => e = .returned (.bool (inB x k n)) ∧ w' = w := by
 have h1 := hx.1
 have h2 := hx.2
 have wn : IntKind.u64.wrap (n : Int) = n := wrap64_of (by omega) (by omega)
 have wk : IntKind.u64.wrap k = k := wrap64_of (by omega) (by omega)
 by_cases h0 : k = 0
 · have hf : Hid (inB x k n = true) := Hid.mk' (by simp [inB, h0])
   have h0' : (k == 0) = true := by simpa using h0
   replace h0 := Hid.mk' h0
   go_enter Tryz.func186, Tryz.ntmps186
   go_wp2
   go_ret
   exact ⟨by rw [hf.out]; rfl, rfl⟩
 · have h0' : (k == 0) = false := by simpa using h0
   by_cases hlt : x < n
   · have ws : IntKind.u64.wrap ((n : Int) - x) = (n : Int) - x := wrap64_of (by omega) (by omega)
     by_cases hle : k ≤ (n : Int) - x
     · have hf : Hid (inB x k n = true) := Hid.mk' (by simp [inB]; omega)
       go_enter Tryz.func186, Tryz.ntmps186
       go_wp2
       go_ret
       exact ⟨by rw [hf.out]; simp, rfl⟩
     · have hf : Hid (inB x k n = false) := Hid.mk' (by simp [inB]; omega)
       go_enter Tryz.func186, Tryz.ntmps186
       go_wp2
       go_ret
       exact ⟨by rw [hf.out]; simp, rfl⟩
   · have hf : Hid (inB x k n = false) := Hid.mk' (by simp [inB]; omega)
     go_enter Tryz.func186, Tryz.ntmps186
     go_wp2
     go_ret
     exact ⟨by rw [hf.out]; simp, rfl⟩
theorem summed_no {i y : Int} {v : Value} (w : World) (hi : 0 ≤ i ∧ i < 4294967296) (hy : ¬ 128 < y) (hL : mkL i = none) (hv : ∃ sp c cap, v = .slice sp c cap) :
   Calls Tryz.prog 95 #[.int .u32 i, .int .u64 y, v] w fun e w' => e = .returned (.tuple #[.slice none 0 0, .bool false]) ∧ w' = w := by
 obtain ⟨sp, c, cap, rfl⟩ := hv
 unfold mkL at hL
 by_cases h0 : i = 0
 · rw [if_pos h0] at hL
   cases hL
 · rw [if_neg h0] at hL
   by_cases h1 : 256 ≤ i ∧ i ≤ 511
   · rw [if_pos h1] at hL
     cases hL
   · have hp : 0 < i := by omega
     by_cases h2 : 511 < i
     · go_enter Tryz.func95, Tryz.ntmps95
       go_wp2
       go_ret2
       exact ⟨rfl, rfl⟩
     · have h3 : i < 256 := by omega
       go_enter Tryz.func95, Tryz.ntmps95
       go_wp2
       go_ret2
       exact ⟨rfl, rfl⟩
theorem summed_ok {i : Int} {P : List Int} {sp : Option Addr} {c cap s : Nat} {y : Int} {W : Nat → Int} (w : World) (hi : 0 ≤ i ∧ i < 4294967296) (hL : mkL i = some P) (hy : y = (s : Int)) (hs : s ≤ 128) (hW : ∀ t, U64 (W t)) (hc : s ≤ 8 * c) (hcc : c ≤ cap) (hb : c ≤ 4096)
   (hw : 0 < c → ∃ gm k, sp = some ⟨gm, k, none⟩ ∧ gm < w.heap.size ∧ ∀ t, t < c → w.cell? ⟨gm, k + t, none⟩ = some (.int .u64 (W t))) :
   Calls Tryz.prog 95 #[.int .u32 i, .int .u64 y, .slice sp c cap] w fun e w' => ∃ v, e = .returned (.tuple #[v, .bool true]) ∧ w'.ownsRow w.heap.size 5 1 v (P.length + s) (by8 (P ++ fbL W s)) ∧ Below w.heap.size w w' := by
 subst hy
 have hy1 : ¬ (128 : Int) < s := by omega
 have hPl : P.length ≤ 1 := by
   unfold mkL at hL
   split at hL
   · cases hL; simp
   · split at hL
     · cases hL; simp
     · cases hL
 unfold mkL at hL
 by_cases h0 : i = 0
 · rw [if_pos h0] at hL
   have hP : P = [] := (Option.some.inj hL).symm
   subst h0
   have hown1 : w.ownsRow w.heap.size 5 1 (.slice none 0 0) P.length (by8 P) := by rw [hP]; exact World.ownsRow_nil _ _ _ _
   have hB1 : Below w.heap.size w w := Below.refl _ _
   clear hi hL hP
   go_enter Tryz.func95, Tryz.ntmps95
   go_wp2_with fail
   go_loopw [8, 9] (fun v q wr => ∃ (k : Nat), q = .int .u64 (k : Int) ∧ k ≤ s ∧ wr.ownsRow w.heap.size 5 1 v (P.length + k) (by8 (P ++ fbL W k)) ∧ Below w.heap.size w wr)
     (fun _ q _ => s - (intOf q).toNat)
   case atStart => exact ⟨0, rfl, by omega, by simpa [fbL] using hown1, hB1⟩
   case round =>
     clear hown1 hB1
     obtain ⟨k, rfl, hk, hown, hbl⟩ := hrel
     by_cases hlt : k < s
     · have hI : (k : Int) < s := by omega
       obtain ⟨gm, o, rfl, hgl, hcell⟩ := hw (by omega)
       have hcl : wr.cell? ⟨gm, o + k / 8, none⟩ = some (.int .u64 (W (k / 8))) := (hbl.cell (p := ⟨gm, o + k / 8, none⟩) hgl).trans (hcell (k / 8) (by omega))
       have hki : ((k : Int) / 8) < c := by omega
       have hkn : ((k : Int) / 8).toNat = k / 8 := by omega
       have hU := hW (k / 8)
       have hU1 := hU.1
       have hU2 := hU.2
       have m8 : (k : Int) % 8 < 8 := by omega
       have m0 : 0 ≤ (k : Int) % 8 := by omega
       have e2 : (56 - 8 * ((k : Int) % 8)).toNat = 56 - 8 * (k % 8) := by omega
       go_wp2_with (at_builtin; go_must (refine append_bytes (by rfl) (.tmp 37) (.tmp 49) (by rfl) w.heap.size _ (P.length + k) (P ++ fbL W k) (by rfl) (hown.alloc _) (some ⟨wr.heap.size, 0, none⟩) 1 1 [fromB W k] (by rfl) (by rfl) (fun h => by cases h) (Arr.sl (Arr.new wr 5 _)) (by omega) (by have := hbl.size; simp; omega) ?_; intro v3 w3 hown3 hg3))
       have hB3 : Below w.heap.size w w3 := (hbl.alloc hbl.size _).grown hg3 (by have := hbl.size; simp; omega) (fun k e => own_ge hown k e)
       go_roundw
       case rel => exact ⟨k + 1, by go_num, by omega, by rw [← fbL_succ, ← List.append_assoc, ← Nat.add_assoc]; exact hown3, hB3⟩
       case measure => simp [intOf]; omega
     · obtain rfl : k = s := by omega
       go_wp2_with fail
       go_ret2
       exact ⟨_, rfl, hown, hbl⟩
 · rw [if_neg h0] at hL
   by_cases h1 : 256 ≤ i ∧ i ≤ 511
   · rw [if_pos h1] at hL
     have hP : P = [i - 256] := (Option.some.inj hL).symm
     have a2 : ¬ i < 256 := by omega
     have a3 : ¬ 511 < i := by omega
     have a4 : IntKind.u8.wrap (i - 256) = i - 256 := wrap8_of (by omega) (by omega)
     have a5 : IntKind.u32.wrap (i - 256) = i - 256 := by rw [w32]; omega
     have a6 : 0 < i := by omega
     have a7 : 256 ≤ i := by omega
     have hnil : w.ownsRow w.heap.size 5 1 (.slice none 0 0) 0 (by8 []) := World.ownsRow_nil _ _ _ _
     replace hP := Hid.mk' hP
     clear hi hL h1 h0
     go_enter Tryz.func95, Tryz.ntmps95
     go_wp2_with (at_builtin; go_must (refine append_bytes (by rfl) (.tmp 26) (.tmp 30) (by rfl) w.heap.size _ 0 [] (by rfl) (hnil.alloc _) (some ⟨w.heap.size, 0, none⟩) 1 1 [i - 256] (by rfl) (by rfl) (fun h => by cases h) (Arr.sl (Arr.new w 5 _)) (by omega) (by simp) ?_; intro v1 w1 hown0 hg1))
     have hB1 : Below w.heap.size w w1 := ((Below.refl _ _).alloc (Nat.le_refl _) _).grown hg1 (by simp) (fun k e => by cases e)
     have hown1 : w1.ownsRow w.heap.size 5 1 v1 P.length (by8 P) := by rw [hP.out]; simpa using hown0
     clear hown0 hg1 hnil
     go_loopw [8, 9] (fun v q wr => ∃ (k : Nat), q = .int .u64 (k : Int) ∧ k ≤ s ∧ wr.ownsRow w.heap.size 5 1 v (P.length + k) (by8 (P ++ fbL W k)) ∧ Below w.heap.size w wr)
       (fun _ q _ => s - (intOf q).toNat)
     case atStart => exact ⟨0, rfl, by omega, by simpa [fbL] using hown1, hB1⟩
     case round =>
       clear hown1 hB1
       obtain ⟨k, rfl, hk, hown, hbl⟩ := hrel
       by_cases hlt : k < s
       · have hI : (k : Int) < s := by omega
         obtain ⟨gm, o, rfl, hgl, hcell⟩ := hw (by omega)
         have hcl : wr.cell? ⟨gm, o + k / 8, none⟩ = some (.int .u64 (W (k / 8))) := (hbl.cell (p := ⟨gm, o + k / 8, none⟩) hgl).trans (hcell (k / 8) (by omega))
         have hki : ((k : Int) / 8) < c := by omega
         have hkn : ((k : Int) / 8).toNat = k / 8 := by omega
         have hU := hW (k / 8)
         have hU1 := hU.1
         have hU2 := hU.2
         have m8 : (k : Int) % 8 < 8 := by omega
         have m0 : 0 ≤ (k : Int) % 8 := by omega
         have e2 : (56 - 8 * ((k : Int) % 8)).toNat = 56 - 8 * (k % 8) := by omega
         go_wp2_with (at_builtin; go_must (refine append_bytes (by rfl) (.tmp 37) (.tmp 49) (by rfl) w.heap.size _ (P.length + k) (P ++ fbL W k) (by rfl) (hown.alloc _) (some ⟨wr.heap.size, 0, none⟩) 1 1 [fromB W k] (by rfl) (by rfl) (fun h => by cases h) (Arr.sl (Arr.new wr 5 _)) (by omega) (by have := hbl.size; simp; omega) ?_; intro v3 w3 hown3 hg3))
         have hB3 : Below w.heap.size w w3 := (hbl.alloc hbl.size _).grown hg3 (by have := hbl.size; simp; omega) (fun k e => own_ge hown k e)
         go_roundw
         case rel => exact ⟨k + 1, by go_num, by omega, by rw [← fbL_succ, ← List.append_assoc, ← Nat.add_assoc]; exact hown3, hB3⟩
         case measure => simp [intOf]; omega
       · obtain rfl : k = s := by omega
         go_wp2_with fail
         go_ret2
         exact ⟨_, rfl, hown, hbl⟩
   · rw [if_neg h1] at hL
     cases hL
theorem refPiece_any {N n cap : Nat} {sp : Option Addr} {bs : List Int} {x : Int} (w : World) (hB : BS N w sp n cap bs) (hx : U64 x) :
   Calls Tryz.prog 97 #[.slice sp n cap, .int .u64 x] w fun e w' => e = .returned (.int .u64 (pcN bs x.toNat 8)) ∧ w' = w := by
 have hl := hB.len
 have hsm := hB.small
 have hbts := hB.bts
 have hx1 := hx.1
 have hx2 := hx.2
 have wn : IntKind.u64.wrap (n : Int) = n := wrap64_of (by omega) (by omega)
 obtain ⟨p, rfl⟩ : ∃ p : Nat, x = p := ⟨x.toNat, by omega⟩
 rw [Int.toNat_natCast]
 go_enter Tryz.func97, Tryz.ntmps97
 go_wp2_with fail
 go_loopw [5, 6] (fun v q wr => wr = w ∧ ∃ (k : Nat), q = .int .u64 (k : Int) ∧ k ≤ 8 ∧ v = .int .u64 (pcN bs p k))
   (fun _ q _ => 8 - (intOf q).toNat)
 case atStart => exact ⟨rfl, 0, rfl, by omega, rfl⟩
 case round =>
   obtain ⟨rfl, k, rfl, hk, rfl⟩ := hrel
   by_cases hlt : k < 8
   · have hI : (k : Int) < 8 := by omega
     have hst := pcN_step hbts p hlt
     have hrg := pcN_rg hbts p k
     have h256 := pow256 hlt
     have hbr := bat_rg hbts (p + k)
     have wpc : IntKind.u64.wrap (pcN bs p k * 256) = pcN bs p k * 256 := wrap64_of (by omega) (by omega)
     have wb : IntKind.u64.wrap (bat bs (p + k)) = bat bs (p + k) := wrap64_of (by omega) (by omega)
     rw [wpc, wb] at hst
     have hz : ¬ p + k < n → pcN bs p (k + 1) = pcN bs p k * 256 := fun h => by
       have : bat bs (p + k) = 0 := by
         simp only [bat, List.getD_eq_getElem?_getD]
         rw [List.getElem?_eq_none (by rw [← hl.out]; omega)]
         rfl
       simp only [pcN, this]
       omega
     obtain ⟨q, hq⟩ : ∃ q, q = p + k := ⟨_, rfl⟩
     have hpos : 0 ≤ pcN bs p k := hrg.1
     have hpos2 : pcN bs p k < 72057594037927936 := by omega
     rw [← hq] at hst hbr wb hz
     generalize hP0 : pcN bs p k = p0 at *
     generalize hP1 : pcN bs p (k + 1) = p1 at *
     replace hP0 := Hid.mk' hP0
     replace hP1 := Hid.mk' hP1
     replace hz := Hid.mk' hz
     clear hrg h256
     by_cases hin : q < n
     · have ws : IntKind.u64.wrap ((p : Int) + k) = (q : Int) := by rw [wrap64_of (by omega) (by omega)]; omega
       have i1 : (p : Int) ≤ (q : Int) := by omega
       have i2 : (q : Int) < n := by omega
       obtain ⟨b, o, rfl, -, hby⟩ := hB.at0 (by omega)
       have hcl := hby q hin
       generalize bat bs q = bb at *
       replace hq := Hid.mk' hq
       go_wp2_with fail
       go_roundw
       case rel => exact ⟨by trivial, k + 1, by go_num, by omega, by rw [hP1.out, ← hst]⟩
       case measure => simp [intOf]; omega
     · have hzz := hz.out hin
       by_cases hwr : (p : Int) + k < 18446744073709551616
       · have ws : IntKind.u64.wrap ((p : Int) + k) = (q : Int) := by rw [wrap64_of (by omega) (by omega)]; omega
         have i1 : (p : Int) ≤ (q : Int) := by omega
         have i2 : ¬ (q : Int) < n := by omega
         replace hq := Hid.mk' hq
         replace hzz := Hid.mk' hzz
         clear hst wb hwr
         go_wp2_with fail
         go_roundw
         case rel => exact ⟨by trivial, k + 1, by go_num, by omega, by rw [hP1.out, hzz.out]⟩
         case measure => simp [intOf]; omega
       · obtain ⟨r, hr⟩ : ∃ r : Nat, (r : Int) = (p : Int) + k - 18446744073709551616 := ⟨((p : Int) + k - 18446744073709551616).toNat, by omega⟩
         have ws : IntKind.u64.wrap ((p : Int) + k) = (r : Int) := by rw [wrap_mod]; omega
         have i1 : ¬ (p : Int) ≤ (r : Int) := by omega
         replace hr := Hid.mk' hr
         replace hq := Hid.mk' hq
         replace hzz := Hid.mk' hzz
         clear hst wb hwr
         go_wp2_with fail
         go_roundw
         case rel => exact ⟨by trivial, k + 1, by go_num, by omega, by rw [hP1.out, hzz.out]⟩
         case measure => simp [intOf]; omega
   · obtain rfl : k = 8 := by omega
     go_wp2_with fail
     go_ret
     exact ⟨rfl, rfl⟩
theorem words_step1 {C : Array Value} {H : Nat → Int} {k : Nat} (hH : ∀ t, t < 32 → 0 ≤ H t ∧ H t ≤ 255) (hk : k < 32) (hs : C.size = 4) (h : ∀ j, j < 4 → C[j]? = some (.int .u64 (wpart H k j))) :
   ∀ j, j < 4 → (C.setIfInBounds (k / 8) (.int .u64 (bits .or .u64 (IntKind.u64.wrap (wpart H k (k / 8) * 256)) (IntKind.u64.wrap (H k)))))[j]? = some (.int .u64 (wpart H (k + 1) j)) := by
 intro j hj
 rw [words_val hH hk, Array.getElem?_setIfInBounds]
 by_cases e : k / 8 = j
 · subst e; simp [hs, hj]
 · rw [if_neg e, h j hj, words_other (Ne.symm e)]
theorem refWords_any (C0 : Array Value) (H : Nat → Int) (w : World) (hC0 : ∀ t, t < 32 → C0[t]? = some (.int .u8 (H t))) (hH : ∀ t, t < 32 → 0 ≤ H t ∧ H t ≤ 255) :
   Calls Tryz.prog 96 #[.agg C0] w fun e w' => e = .returned (.agg (wordsOf H)) ∧ Below w.heap.size w w' := by
 go_enter Tryz.func96, Tryz.ntmps96
 go_wp2
 go_loopw [4] (fun i wr => ∃ (k : Nat) (C Z : Array Value), k ≤ 32 ∧ i = .int .i64 k ∧ Arr wr w.heap.size 30 C0 ∧ Arr wr (w.heap.size + 1) 96 Z ∧ Z.size = 4 ∧ Arr wr (w.heap.size + 1 + 1) 96 C ∧ C.size = 4 ∧ (∀ j, j < 4 → C[j]? = some (.int .u64 (wpart H k j))) ∧ Below w.heap.size w wr)
   (fun i _ => 32 - (intOf i).toNat)
 case atStart => exact ⟨0, _, _, by omega, rfl, ((Arr.new w 30 C0).alloc _).alloc _, by simpa using (Arr.new (w.alloc _) 96 _).alloc _, rfl, by simpa using Arr.new ((w.alloc _).alloc _) 96 _, rfl, fun j hj => by (match j, hj with | 0, _ => rfl | 1, _ => rfl | 2, _ => rfl | 3, _ => rfl), (((Below.refl _ _).alloc (by simp) _).alloc (by simp) _).alloc (by simp; omega) _⟩
 case round =>
   obtain ⟨k, C, Z, hk, rfl, hX, hZ, hZs, hC, hCs, hw, hbl⟩ := hrel
   have HW := Hid.mk' hw
   clear hw
   by_cases hlt : k < 32
   · have h3 : (k : Int) < 32 := by omega
     have h4 : (0 : Int) ≤ k := by omega
     have h5 : (k : Int) / 8 < 4 := by omega
     have h6 : (0 : Int) ≤ (k : Int) / 8 := by omega
     have c1 : wr.cell? ⟨w.heap.size, k, none⟩ = some (.int .u8 (H k)) := (hX.cell _).trans (hC0 _ hlt)
     have c0 : wr.cell? ⟨w.heap.size + 1 + 1, k / 8, none⟩ = some (.int .u64 (wpart H k (k / 8))) := (hC.cell _).trans (HW.out _ (by omega))
     have f0 := hC.frozen (k / 8)
     go_wp2
     go_region
     all_goals go_wp2
     all_goals
       go_roundw
       case rel =>
         exact ⟨k + 1, _, Z, by omega, by go_num, (hX.setOther _ (by simp; omega)).drew, (hZ.setOther _ (by simp)).drew, hZs, (hC.set _ _).drew, by simp [hCs], words_step1 hH hlt hCs HW.out, (hbl.setCell (by simp; omega) _).drew⟩
       case measure => simp [intOf]; omega
   · obtain rfl : k = 32 := by omega
     have hCe : C = wordsOf H := arr_eq hCs (fun j hj => by rw [HW.out j hj]; unfold wpart; rw [show min (32 - 8 * j) 8 = 8 by omega])
     subst hCe
     go_wp2_with (first
       | (refine wpList_load_row (by rfl) 96 (.tmp 3) (by rfl) (w.heap.size + 1 + 1) (by rfl) 96 (wordsOf H) (0, 0) _ hC Tryz.underlying96 rfl (s30u _) ?_)
       | (refine wpList_store_arr (by rfl) 96 (.tmp 2) (.tmp 22) (by rfl) (w.heap.size + 1) (wordsOf H) (by rfl) (by rfl) 96 _ hZ (s30u _) (by rw [hZs]; exact (u64s_size _ _).symm) (u64s_one _ _) ?_))
     exact bodyPost_ret (v := .agg (wordsOf H)) (results_cell_row Tryz.results96 _ _ (w.heap.size + 1) 96 _ (0, 0) _ rfl (hZ.setRow _) Tryz.underlying96 rfl (s30u _)) rfl ⟨rfl, below_setRow hbl (by omega) _⟩
theorem refFrom_any (C0 : Array Value) (W : Nat → Int) (w : World) (hC0 : ∀ t, t < 4 → C0[t]? = some (.int .u64 (W t))) :
   Calls Tryz.prog 40 #[.agg C0] w fun e w' => e = .returned (.agg (u8s 32 (fromB W))) ∧ Below w.heap.size w w' := by
 go_enter Tryz.func40, Tryz.ntmps40
 go_wp2
 go_loopw [4] (fun i wr => ∃ (k : Nat) (C Z : Array Value), k ≤ 32 ∧ i = .int .i64 k ∧ Arr wr w.heap.size 96 C0 ∧ Arr wr (w.heap.size + 1) 30 Z ∧ Z.size = 32 ∧ Arr wr (w.heap.size + 1 + 1) 30 C ∧ C.size = 32 ∧ (∀ t, t < k → C[t]? = some (.int .u8 (fromB W t))) ∧ Below w.heap.size w wr)
   (fun i _ => 32 - (intOf i).toNat)
 case atStart => exact ⟨0, _, _, by omega, rfl, ((Arr.new w 96 C0).alloc _).alloc _, by simpa using (Arr.new (w.alloc _) 30 _).alloc _, rfl, by simpa using Arr.new ((w.alloc _).alloc _) 30 _, rfl, fun j hj => by omega, (((Below.refl _ _).alloc (by simp) _).alloc (by simp) _).alloc (by simp; omega) _⟩
 case round =>
   obtain ⟨k, C, Z, hk, rfl, hX, hZ, hZs, hC, hCs, hw, hbl⟩ := hrel
   have HW := Hid.mk' hw
   clear hw
   by_cases hlt : k < 32
   · have h3 : (k : Int) < 32 := by omega
     have h4 : (0 : Int) ≤ k := by omega
     have c0 : wr.cell? ⟨w.heap.size, k / 8, none⟩ = some (.int .u64 (W (k / 8))) := (hX.cell _).trans (hC0 _ (by omega))
     obtain ⟨v1, c1⟩ := hC.got (j := k) (by omega)
     have f0 := hC.frozen k
     go_wp2
     go_roundw
     case rel =>
       have q := set_step (f := fun t => .int .u8 (fromB W t)) hCs (by omega) HW.out
       exact ⟨k + 1, _, Z, by omega, by go_num, hX.setOther _ (by simp; omega), hZ.setOther _ (by simp), hZs, hC.set _ _, by simp [hCs], q, hbl.setCell (by simp; omega) _⟩
     case measure => simp [intOf]; omega
   · obtain rfl : k = 32 := by omega
     have hCe : C = u8s 32 (fromB W) := arr_eq hCs HW.out
     subst hCe
     go_wp2_with (first
       | (refine wpList_load_row (by rfl) 30 (.tmp 3) (by rfl) (w.heap.size + 1 + 1) (by rfl) 30 (u8s 32 (fromB W)) (0, 0) _ hC Tryz.underlying30 rfl (s24u8 _) ?_)
       | (refine wpList_store_arr (by rfl) 30 (.tmp 2) (.tmp 22) (by rfl) (w.heap.size + 1) (u8s 32 (fromB W)) (by rfl) (by rfl) 30 _ hZ (s24u8 _) (by rw [hZs]; exact (u8s_size _ _).symm) (u8s_one _ _) ?_))
     exact bodyPost_ret (v := .agg (u8s 32 (fromB W))) (results_cell_row Tryz.results40 _ _ (w.heap.size + 1) 30 _ (0, 0) _ rfl (hZ.setRow _) Tryz.underlying30 rfl (s24u8 _)) rfl ⟨rfl, below_setRow hbl (by omega) _⟩
theorem neq_sum (L X : List Int) (hX : X.length = 32) (w : World) : (binOp .neq 30 (.agg (sha L)) (.agg (h8 X))).run Tryz.prog w = .ok (.bool (!decide (shl L = X))) w := by
 rw [sha_h8, run_neq_struct, run_eqIn24 (shl_len L) hX w]; rfl
def RpPost (es : List En) (X : List Int) (w : World) (r : Ending) (w' : World) : Prop := Below w.heap.size w w' ∧
 ((∃ e, pre es X = some e ∧ e ∈ es ∧ r = .returned (.tuple #[.slice e.sp e.n e.cap, .bool true])) ∨ (pre es X = none ∧ r = .returned (.tuple #[.slice none 0 0, .bool false])))
theorem refPre_any (sp : Option Addr) (n cap : Nat) (es : List En) (X : List Int) (N : Nat) (w : World) (hS : ES N w sp n cap es) (hX : X.length = 32) :
   Calls Tryz.prog 39 #[.slice sp n cap, .agg (h8 X)] w (RpPost es X w) := by
 have hl := hS.len
 have hsm := hS.small
 have hS := hS.here
 go_enter Tryz.func39, Tryz.ntmps39
 go_wp2_with fail
 go_loopw [6] (fun q wr => ∃ (k : Nat), q = .int .i64 (k : Int) ∧ k ≤ n ∧ Below w.heap.size w wr ∧ Arr wr w.heap.size 30 (h8 X) ∧ Hid (∀ (j : Nat) (f : En), j < k → es[j]? = some f → f.sm ≠ X))
   (fun q _ => n - (intOf q).toNat)
 case atStart => exact ⟨0, rfl, by omega, (Below.refl _ _).alloc (Nat.le_refl _) _, Arr.new w 30 _, Hid.mk' (fun j f hj => by omega)⟩
 case round =>
   obtain ⟨k, rfl, hk, hbl, hH, hno⟩ := hrel
   by_cases hlt : k < n
   · have hI : (k : Int) < n := by omega
     have hSr := hS.below hbl
     obtain ⟨g, off, rfl, hgN, hR⟩ := hSr.at0 (by omega)
     have hgl : g < wr.heap.size := by have := hbl.size; omega
     obtain ⟨e, he⟩ : ∃ e, es[k]? = some e := ⟨es[k]'(by rw [← hl.out]; exact hlt), List.getElem?_eq_getElem _⟩
     have hok := hSr.ok e (List.mem_of_getElem? he)
     have he32 := hok.s32
     have hRe := hR k e he
     have rE := range_sm hRe
     have cE := range_c0 hRe
     have hHr := hH.range
     have hHlt := hH.lt
     have q1 := run_eq24 he32 hX
     replace he := Hid.mk' he
     by_cases hq : e.sm = X
     · have hd : decide (e.sm = X) = true := by simpa using hq
       rw [hd] at q1
       have hF : Fst es X k e := Fst.mk he.out hq hno.out
       have hp := hF.pre
       have hme := List.mem_of_getElem? he.out
       have hbs := hok.body
       have hq2 := neq_sum e.bs X hX
       replace hq := Hid.mk' hq
       clear hd hF
       by_cases hsh : shl e.bs = X
       · rw [if_pos hsh] at hp
         rw [decide_eq_true hsh] at hq2
         replace hsh := Hid.mk' hsh
         replace hp := Hid.mk' hp
         simp only [Bool.not_true] at hq2
         go_upto_region 4 with fail
         refine rgn (fun u => Below wr.heap.size wr u) ((Below.refl _ _).drew) (fun hHeld => ?_)
         refine tk 0 rfl ?_
         refine tk 1 rfl ?_
         refine tk 2 rfl ?_
         refine tk 3 rfl ?_
         refine tl 4 rfl (y24 (by rfl) (.tmp 16) rfl (g) (off + k * 33 + 1) rfl e.sm he32 (fun u hu => range_below rE hu hgl)) ?_
         refine tl 5 rfl (y24 (by rfl) (.tmp 3) rfl (w.heap.size) (0) rfl X hX (fun u hu => range_below hHr hu hHlt)) ?_
         refine tk 6 rfl ?_
         refine dn ?_
         go_upto_region 5 with fail
         have hH4 := hHeld
         have rX4 := range_below hHr hH4 hHlt
         have cE4 := (hH4.cell (p := ⟨g, off + k * 33, none⟩) hgl).trans cE
         have hb4 := hbs.below (hH4.mono hbl.size)
         have hD4 := hH4.drew
         refine rgn (fun u => Below wr.heap.size wr u) (hD4) (fun hHeld => ?_)
         refine tk 0 rfl ?_
         refine tk 1 rfl ?_
         refine tk 2 rfl ?_
         refine tk 3 rfl ?_
         refine tk 4 rfl (hy := by (intro u hSw; have cu := (hSw.cell (p := ⟨g, off + k * 33, none⟩) hgl).trans cE; go_simp; try (with_reducible rfl))) ?_
         refine tl 6 rfl (y24 (by rfl) (.tmp 3) rfl (w.heap.size) (0) rfl X hX (fun u hu => range_below hHr hu hHlt)) ?_
         refine rd 5 rfl (fun K hK => ?_)
         go_simp
         refine (refSum_any e.sp e.n e.cap e.bs _ hb4.len.out hb4.nil (by exact hb4.sl) (by have := hb4.small; omega)).mono ?_
         rintro r u ⟨rfl, hu⟩
         have hHu := hD4.trans (hu.mono (by simp))
         go_wp2_with fail
         refine ko hK hHu (fun hHeld => ?_)
         clear hK K
         refine tk 7 rfl ?_
         refine dn ?_
         have cE5 := (hHeld.cell (p := ⟨g, off + k * 33, none⟩) hgl).trans cE
         go_wp2_with fail
         go_ret2
         exact ⟨hbl.trans (hHeld.mono hbl.size), .inl ⟨e, hp.out, hme, rfl⟩⟩
       · rw [if_neg hsh] at hp
         rw [decide_eq_false hsh] at hq2
         replace hsh := Hid.mk' hsh
         replace hp := Hid.mk' hp
         simp only [Bool.not_false] at hq2
         go_upto_region 4 with fail
         refine rgn (fun u => Below wr.heap.size wr u) ((Below.refl _ _).drew) (fun hHeld => ?_)
         refine tk 0 rfl ?_
         refine tk 1 rfl ?_
         refine tk 2 rfl ?_
         refine tk 3 rfl ?_
         refine tl 4 rfl (y24 (by rfl) (.tmp 16) rfl (g) (off + k * 33 + 1) rfl e.sm he32 (fun u hu => range_below rE hu hgl)) ?_
         refine tl 5 rfl (y24 (by rfl) (.tmp 3) rfl (w.heap.size) (0) rfl X hX (fun u hu => range_below hHr hu hHlt)) ?_
         refine tk 6 rfl ?_
         refine dn ?_
         go_upto_region 5 with fail
         have hH4 := hHeld
         have rX4 := range_below hHr hH4 hHlt
         have cE4 := (hH4.cell (p := ⟨g, off + k * 33, none⟩) hgl).trans cE
         have hb4 := hbs.below (hH4.mono hbl.size)
         have hD4 := hH4.drew
         refine rgn (fun u => Below wr.heap.size wr u) (hD4) (fun hHeld => ?_)
         refine tk 0 rfl ?_
         refine tk 1 rfl ?_
         refine tk 2 rfl ?_
         refine tk 3 rfl ?_
         refine tk 4 rfl (hy := by (intro u hSw; have cu := (hSw.cell (p := ⟨g, off + k * 33, none⟩) hgl).trans cE; go_simp; try (with_reducible rfl))) ?_
         refine tl 6 rfl (y24 (by rfl) (.tmp 3) rfl (w.heap.size) (0) rfl X hX (fun u hu => range_below hHr hu hHlt)) ?_
         refine rd 5 rfl (fun K hK => ?_)
         go_simp
         refine (refSum_any e.sp e.n e.cap e.bs _ hb4.len.out hb4.nil (by exact hb4.sl) (by have := hb4.small; omega)).mono ?_
         rintro r u ⟨rfl, hu⟩
         have hHu := hD4.trans (hu.mono (by simp))
         go_wp2_with fail
         refine ko hK hHu (fun hHeld => ?_)
         clear hK K
         refine tk 7 rfl ?_
         refine dn ?_
         go_wp2_with fail
         go_ret2
         exact ⟨hbl.trans (hHeld.mono hbl.size), .inr ⟨hp.out, rfl⟩⟩
     · have hd : decide (e.sm = X) = false := by simpa using hq
       rw [hd] at q1
       have hn2 : Hid (∀ (j : Nat) (f : En), j < k + 1 → es[j]? = some f → f.sm ≠ X) := Hid.mk' (fun j f hj hf => by
         by_cases hjk : j = k
         · subst hjk; rw [he.out] at hf; cases hf; exact hq
         · exact hno.out j f (by omega) hf)
       replace hq := Hid.mk' hq
       clear hd
       go_upto_region 4 with fail
       refine rgn (fun u => Below wr.heap.size wr u) ((Below.refl _ _).drew) (fun hHeld => ?_)
       refine tk 0 rfl ?_
       refine tk 1 rfl ?_
       refine tk 2 rfl ?_
       refine tk 3 rfl ?_
       refine tl 4 rfl (y24 (by rfl) (.tmp 16) rfl (g) (off + k * 33 + 1) rfl e.sm he32 (fun u hu => range_below rE hu hgl)) ?_
       refine tl 5 rfl (y24 (by rfl) (.tmp 3) rfl (w.heap.size) (0) rfl X hX (fun u hu => range_below hHr hu hHlt)) ?_
       refine tk 6 rfl ?_
       refine dn ?_
       go_wp2_with fail
       go_roundw
       case rel => exact ⟨k + 1, by go_num, by omega, hbl.trans (hHeld.mono hbl.size), hH.below hHeld hHlt, hn2⟩
       case measure => simp [intOf]; omega
   · have hI : ¬ (k : Int) < n := by omega
     obtain rfl : k = n := by omega
     have hn2 : Hid (∀ (j : Nat) (f : En), es[j]? = some f → f.sm ≠ X) := Hid.mk' (fun j f hf => hno.out j f (by rw [hl.out]; exact (List.getElem?_eq_some_iff.1 hf).1) hf)
     go_wp2_with fail
     go_ret2
     exact ⟨hbl, .inr ⟨pre_none hn2.out, rfl⟩⟩
end Go.Proofs.YtagebcbnenehfaaGreat
