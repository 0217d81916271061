/- Layer vm: a machine that is loaded, as the document says. -/
import Derived.Test.YtnjbmffgbgbjmaaX44
import Derived.Test.YtnjbmffgbgbjmaaX45
namespace Go.Proofs.Ytnjbmffgbgbjmaa
open Go.RowKit
set_option maxRecDepth 100000
set_option linter.unusedVariables false
set_option linter.unusedSimpArgs false


theorem y25 {ops : Array Oper} {S : World → Prop} {op : Oper} {a : Act} (hw : Region.wanted op (yielded ops a.tmps) = true) (x : Operand) (ho : op.op = .load 25 x)
    (b o : Nat) (hx : a.eval x = .pointer (some ⟨b, o, none⟩)) (e : Cd) (hS : ∀ w, S w → w.rangeAt b o e.arr.toList) : YieldsIf Try.prog ops S op (.agg e.arr) a := by
  have := yieldsIf_load_mid (P := Try.prog) (S := S) hw 25 x ho b o hx e.arr.toList _ hS Try.underlying25 rfl size25
  simpa using this

set_option maxHeartbeats 1000000 in
theorem refLoad_no (x : Int) (sp : Option Addr) (n cap : Nat) (cs : List Cd) (sq : Option Addr) (nd cd : Nat) (ds : List Int) (N : Nat) (w : World) (hx : -9223372036854775808 ≤ x ∧ x ≤ 9223372036854775807) (hS : CS N w sp n cap cs) (hD : MS N w sq nd cd ds) (hU : ∀ k, U64 (ds.getD k 0)) (hbad : szI x = false ∨ x < cs.length + ds.length) :
    Calls Try.prog 26 #[.int .i64 x, .slice sp n cap, .slice sq nd cd] w (LdPost x cs ds w) := by
  have A0 := Arr.new w 45 (mcA zM none 0 0)
  have hsz := mcA_size zM_ok.r16 none 0 0
  have hoz := mcA_one zM none 0 0
  have hb0 := alloc_bel' w (.cells (mcA zM none 0 0) 45)
  have hn := hS.small
  have hn2 := hD.small
  cases hq : szI x with
  | false =>
    have hr : lO x cs ds = (zM, 2) := by simp [lO, hq]
    replace hr := Hid.mk' hr
    replace hq := Hid.mk' hq
    clear hbad
    go_enter Try.func26, Try.ntmps26
    go_wp2_with (first
      | (go_at_call 32; go_must (refine (refSize_any _ _ hx).mono ?_; rintro e w1 ⟨rfl, h⟩; subst h; rw [hq.out]))
      | (refine st45 (by rfl) (.tmp 6) (.tmp 13) (by rfl) w.heap.size (mcA zM none 0 0) (by rfl) (by rfl) hsz hoz _ hsz A0 ?_))
    exact bodyPost_ret (v := .tuple #[.agg (mcA zM none 0 0), .int .i64 2]) (res45b Try.results26 rfl rfl hsz (A0.setRow _)) rfl (ldNo hr.out (below_setRow hb0 (Nat.le_refl _) _))
  | true =>
    have hlt : x < cs.length + ds.length := by rcases hbad with h | h; rw [hq] at h; cases h; exact h
    have hr : lO x cs ds = (zM, 4) := by simp [lO, hq, hlt]
    have hlt2 : x < (n : Int) + nd := by rw [hS.len.out, hD.len.out]; omega
    replace hr := Hid.mk' hr
    replace hq := Hid.mk' hq
    clear hbad hlt
    go_enter Try.func26, Try.ntmps26
    go_wp2_with (first
      | (go_at_call 32; go_must (refine (refSize_any _ _ hx).mono ?_; rintro e w1 ⟨rfl, h⟩; subst h; rw [hq.out]))
      | (refine st45 (by rfl) (.tmp 6) (.tmp 21) (by rfl) w.heap.size (mcA zM none 0 0) (by rfl) (by rfl) hsz hoz _ hsz A0 ?_))
    exact bodyPost_ret (v := .tuple #[.agg (mcA zM none 0 0), .int .i64 4]) (res45b Try.results26 rfl rfl hsz (A0.setRow _)) rfl (ldNo hr.out (below_setRow hb0 (Nat.le_refl _) _))


theorem ldYes' {x : Int} {X : Nat} {cs : List Cd} {ds : List Int} {w w' : World} {g : Nat} {MM : Array Value} (hr : lO x cs ds = ({ zM with me := ldW X cs ds }, 0)) (hok : Mc.ok { zM with me := ldW X cs ds }) (hM : MW w' g (ldW X cs ds)) (hl : X = (ldW X cs ds).length) (hX : X ≤ 4096) (hb : Below w.heap.size w w') (hMM : mcA { zM with me := ldW X cs ds } (some ⟨g, 0, none⟩) X X = MM) : LdPost x cs ds w (.returned (.tuple #[.agg MM, .int .i64 0])) w' := by
  subst hMM
  exact ldYes hr hok hM hl hX hb

set_option maxHeartbeats 2000000 in
theorem refLoad_ok (x : Int) (sp : Option Addr) (n cap : Nat) (cs : List Cd) (sq : Option Addr) (nd cd : Nat) (ds : List Int) (N : Nat) (w : World) (hx : -9223372036854775808 ≤ x ∧ x ≤ 9223372036854775807) (hS : CS N w sp n cap cs) (hD : MS N w sq nd cd ds) (hU : ∀ k, U64 (ds.getD k 0)) (hq : szI x = true) {X : Nat} (hX : x = (X : Int)) (hle : cs.length + ds.length ≤ X) :
    Calls Try.prog 26 #[.int .i64 x, .slice sp n cap, .slice sq nd cd] w (LdPost x cs ds w) := by
  subst hX
  obtain ⟨i0, hi, hz0, hz1, hz2⟩ := info_parts info26
  have A0 := Arr.new w 45 (mcA zM none 0 0)
  have hsz := mcA_size zM_ok.r16 none 0 0
  have hb0 := alloc_bel' w (.cells (mcA zM none 0 0) 45)
  have hn := hS.small
  have hn2 := hD.small
  have hl := hS.len
  have hl2 := hD.len
  have hX4 := szB_le (by rw [szI_nat] at hq; exact hq)
  have hnX : n ≤ X := by rw [hl.out]; omega
  have hndX : nd ≤ X - n := by rw [hl.out, hl2.out]; omega
  have hcmp : ¬ ((X : Int) < (n : Int) + nd) := by omega
  have hr : lO (X : Int) cs ds = ({ zM with me := ldW X cs ds }, 0) := by
    unfold lO
    rw [if_neg (by rw [hq]; simp), if_neg (by omega), Int.toNat_natCast]
  have hokR : Mc.ok { zM with me := ldW X cs ds } := ⟨zM_ok.pc, zM_ok.r16, zM_ok.rg, zM_ok.st, ldW_u hle hS.ok hU⟩
  have hmm := mcA_size (m := { zM with me := ldW X cs ds }) zM_ok.r16 (some ⟨w.heap.size + 1, 0, none⟩) X X
  have hmo := mcA_one { zM with me := ldW X cs ds } (some ⟨w.heap.size + 1, 0, none⟩) X X
  have c18 := mcA_18 (m := { zM with me := ldW X cs ds }) zM_ok.r16 (some ⟨w.heap.size + 1, 0, none⟩) X X
  have hbd := built45 (some ⟨w.heap.size + 1, 0, none⟩) X X (ldW X cs ds)
  have hMM : mcA { zM with me := ldW X cs ds } (some ⟨w.heap.size + 1, 0, none⟩) X X = mcA { zM with me := ldW X cs ds } (some ⟨w.heap.size + 1, 0, none⟩) X X := rfl
  replace hMM := Hid.mk' hMM
  replace hr := Hid.mk' hr
  replace hq := Hid.mk' hq
  replace hbd := Hid.mk' hbd
  go_enter Try.func26, Try.ntmps26
  go_wp2_with (first
    | (go_at_call 32; go_must (refine (refSize_any _ _ hx).mono ?_; rintro e w1 ⟨rfl, h⟩; subst h; rw [hq.out]))
    | (at_make; go_must (refine wpList_make_row _ (by rfl) (.tmp 22) (.tmp 22) 43 (by rfl) 26 i0 (.int .u64 0) Try.underlying43 hi hz0 hz1 rfl .i64 .i64 X (by rfl) (by rfl) (by rw [hz2]; omega) (by omega) ?_))
    | (refine wpList_plain (by rfl) fun K hK => wp_bdT 45 #[(3, .tmp 23)] (by rfl) (by rfl) hbd.out (hK _ _ ?_))
    | (refine st45n (by rfl) (.tmp 8) (.tmp 24) (by rfl) ((w.alloc (.cells (mcA zM none 0 0) 45)).alloc (.cells (madeCells #[.int .u64 0] X) 26)) (w.heap.size + 2) (by simp) (by rfl) (mcA { zM with me := ldW X cs ds } (some ⟨w.heap.size + 1, 0, none⟩) X X) (by rfl) (by rfl) hmm hmo ?_))
  go_loopw [9] (fun q wr => ∃ (k : Nat), q = .int .i64 (k : Int) ∧ k ≤ n ∧ Below w.heap.size w wr ∧ Arr wr w.heap.size 45 (mcA zM none 0 0) ∧ Arr wr (w.heap.size + 2) 45 (mcA { zM with me := ldW X cs ds } (some ⟨w.heap.size + 1, 0, none⟩) X X) ∧ MW wr (w.heap.size + 1) (lay X cs k))
    (fun q _ => n - (intOf q).toNat)
  case atStart => exact ⟨0, rfl, by omega, (hb0.alloc (by simp) _).alloc (by simp; omega) _, (A0.alloc _).alloc _, by have h := Arr.new ((w.alloc (.cells (mcA zM none 0 0) 45)).alloc (.cells (madeCells #[.int .u64 0] X) 26)) 45 (mcA { zM with me := ldW X cs ds } (some ⟨w.heap.size + 1, 0, none⟩) X X); simp only [World.size_alloc, Nat.add_assoc, Nat.reduceAdd] at h; exact h, by rw [lay_zero]; have h := made_mw (w.alloc (.cells (mcA zM none 0 0) 45)) X; simp only [World.size_alloc] at h; exact h.below (alloc_bel' _ _) h.lt⟩
  case round =>
    obtain ⟨k, rfl, hk, hbl, hA, hA2, hMW⟩ := hrel
    have d18 := (hA2.cell 18).trans c18
    by_cases hlt : k < n
    · have hI : (k : Int) < n := by omega
      have hIX : (k : Int) < X := by omega
      have hSr := hS.here.below hbl
      obtain ⟨g, off, rfl, hgN, hR⟩ := hSr.at0 (by omega)
      have hgl : g < wr.heap.size := by have := hbl.size; omega
      obtain ⟨e, he⟩ : ∃ e, cs[k]? = some e := ⟨cs[k]'(by rw [← hl.out]; exact hlt), List.getElem?_eq_getElem _⟩
      have hok := hS.ok e (List.mem_of_getElem? he)
      have hRe := hR k e he
      have hset := lay_set he (show cs.length ≤ X by omega)
      have hlay : (lay X cs k).length = X := lay_len (by rw [← hl.out]; omega) (by omega)
      replace he := Hid.mk' he
      replace hset := Hid.mk' hset
      replace hlay := Hid.mk' hlay
      go_upto_region 9 with fail
      refine wp_region_held_drew (S := fun u => u.cell? ⟨w.heap.size + 2, 18, none⟩ = some (.slice (some ⟨w.heap.size + 1, 0, none⟩) X X) ∧ u.rangeAt g (off + k * 5) e.arr.toList) (by kernel_rfl) (⟨by exact d18, by exact (fun j v hv => hRe j v hv)⟩) (fun hHeld => ?_)
      refine wpAnyH_take (i := 0) (oi := ⟨_, _, _, _, _, _⟩) (v := ?_) rfl (by kernel_rfl) (by kernel_rfl) (by kernel_rfl) (fun _ _ _ h => h) (Or.inl ⟨by rfl, ?_⟩) (by assumption) ?_
      rotate_left
      · intro u hSw
        go_simp
        try (with_reducible rfl)
      try simp only [Act.put, List.setIfInBounds_toArray, List.set_cons_zero, List.set_cons_succ]
      refine wpAnyH_take (i := 1) (oi := ⟨_, _, _, _, _, _⟩) (v := ?_) rfl (by kernel_rfl) (by kernel_rfl) (by kernel_rfl) (fun _ _ _ h => h) (Or.inl ⟨by rfl, ?_⟩) (by assumption) ?_
      rotate_left
      · intro u hSw
        obtain ⟨s1, s2⟩ := hSw
        go_simp
        try (with_reducible rfl)
      try simp only [Act.put, List.setIfInBounds_toArray, List.set_cons_zero, List.set_cons_succ]
      refine wpAnyH_take (i := 2) (oi := ⟨_, _, _, _, _, _⟩) (v := ?_) rfl (by kernel_rfl) (by kernel_rfl) (by kernel_rfl) (fun _ _ _ h => h) (Or.inl ⟨by rfl, ?_⟩) (by assumption) ?_
      rotate_left
      · intro u hSw
        go_simp
        try (with_reducible rfl)
      try simp only [Act.put, List.setIfInBounds_toArray, List.set_cons_zero, List.set_cons_succ]
      refine wpAnyH_take (i := 3) (oi := ⟨_, _, _, _, _, _⟩) (v := ?_) rfl (by kernel_rfl) (by kernel_rfl) (by kernel_rfl) (fun _ _ _ h => h) (Or.inl ⟨by rfl, ?_⟩) (by assumption) ?_
      rotate_left
      · intro u hSw
        go_simp
        try (with_reducible rfl)
      try simp only [Act.put, List.setIfInBounds_toArray, List.set_cons_zero, List.set_cons_succ]
      refine wpAnyH_take (i := 4) (oi := ⟨_, _, _, _, _, _⟩) (v := ?_) rfl (by kernel_rfl) (by kernel_rfl) (by kernel_rfl) (fun _ _ _ h => h) (Or.inl ⟨by rfl, ?_⟩) (by assumption) ?_
      rotate_left
      · intro u hSw
        go_simp
        try (with_reducible rfl)
      try simp only [Act.put, List.setIfInBounds_toArray, List.set_cons_zero, List.set_cons_succ]
      refine wpAnyH_take (i := 5) (oi := ⟨_, _, _, _, _, _⟩) (v := ?_) rfl (by kernel_rfl) (by kernel_rfl) (by kernel_rfl) (fun _ _ _ h => h) (Or.inl ⟨by rfl, ?_⟩) (by assumption) ?_
      rotate_left
      · intro u hSw
        go_simp
        try (with_reducible rfl)
      try simp only [Act.put, List.setIfInBounds_toArray, List.set_cons_zero, List.set_cons_succ]
      refine wpAnyH_take (i := 6) (oi := ⟨_, _, _, _, _, _⟩) rfl (by kernel_rfl) (by kernel_rfl) (by kernel_rfl) (fun _ _ _ h => h) (y25 (by rfl) (.tmp 36) rfl g (off + k * 5) rfl e (fun u hu => hu.2)) (by assumption) ?_
      try simp only [Act.put, List.setIfInBounds_toArray, List.set_cons_zero, List.set_cons_succ]
      refine wpAnyH_ready (rs := [7]) (by kernel_rfl) (by simp) ?_
      refine AllReadyH.cons (o := ⟨_, _, _, _, _, _⟩) rfl (fun K hK => ?_) AllReadyH.nil
      go_simp
      refine (refwdc_any e hok _).mono ?_
      rintro r w2 ⟨rfl, hb2⟩
      have hb2' : Below wr.heap.size wr w2 := ((Below.refl _ wr).drew).trans (hb2.mono (by simp))
      have hM2 := hMW.below hb2' hMW.lt
      have f2 := hM2.frozen k
      have c2 := hM2.cell (t := k) (by rw [hlay.out]; omega)
      have A2 := hA.below hb2' hA.lt
      have AA2 := hA2.below hb2' hA2.lt
      have B2 := hbl.trans (hb2'.mono hbl.size)
      have d18' := (AA2.cell 18).trans c18
      have hRe2 := range_below hRe hb2' hgl
      go_wp2_with fail
      refine hK.out _ _ ⟨d18', hRe2⟩ (fun hHeld => ?_)
      clear hK K
      try simp only [Act.put, List.setIfInBounds_toArray, List.set_cons_zero, List.set_cons_succ]
      refine wpAnyH_take (i := 8) (oi := ⟨_, _, _, _, _, _⟩) (v := ?_) rfl (by kernel_rfl) (by kernel_rfl) (by kernel_rfl) (fun _ _ _ h => h) (Or.inl ⟨by rfl, ?_⟩) (by assumption) ?_
      rotate_left
      · intro u hSw
        go_simp
        try (with_reducible rfl)
      try simp only [Act.put, List.setIfInBounds_toArray, List.set_cons_zero, List.set_cons_succ]
      refine wpAnyH_ready (rs := [9]) (by kernel_rfl) (by simp) ?_
      refine AllReadyH.cons (o := ⟨_, _, _, _, _, _⟩) rfl (fun K hK => ?_) AllReadyH.nil
      go_simp
      go_wp2_with fail
      refine hK.out _ _ ⟨(cell_set_ne _ (fun e => by injection e with e1; omega)).trans d18', fun j v hv => (cell_set_ne _ (fun e => by injection e with e1; omega)).trans (hRe2 j v hv)⟩ (fun hHeld => ?_)
      clear hK K
      try simp only [Act.put, List.setIfInBounds_toArray, List.set_cons_zero, List.set_cons_succ]
      refine wpAnyH_done (by kernel_rfl) ?_ _
      go_wp2_with fail
      go_roundw
      case rel => exact ⟨k + 1, by go_num, by omega, B2.setCell (by simp) _, A2.setOther _ (by simp), AA2.setOther _ (by simp), by rw [← hset.out]; exact hM2.set (by rw [hlay.out]; omega) _⟩
      case measure => simp [intOf]; omega
    · obtain rfl : k = n := by omega
      have hnlt : ¬ (k : Int) < k := by omega
      have hkX : (k : Int) ≤ X := by omega
      have hkl : k = cs.length := hl.out
      by_cases hd0 : nd = 0
      · have hds : ds = [] := List.eq_nil_of_length_eq_zero (by rw [← hl2.out]; exact hd0)
        have hM2 : MW wr (w.heap.size + 1) (ldW X cs ds) := by rw [hds, ← lay_all (by omega), ← hkl]; exact hMW
        subst hd0
        replace hkl := Hid.mk' hkl
        replace hds := Hid.mk' hds
        by_cases hXk : X = k
        · subst hXk
          go_wp2_with (first | (refine wpList_copy_nothing (by rfl) (.tmp 44) (.tmp 45) 43 43 (by rfl) 26 Try.underlying43 size26 _ _ _ _ 0 cd (by rfl) (by rfl) (by simp) ?_) | (refine ld45 (by rfl) (.tmp 8) (by rfl) (w.heap.size + 2) (by rfl) (mcA { zM with me := ldW X cs ds } (some ⟨w.heap.size + 1, 0, none⟩) X X) hmm hA2 ?_) | (refine st45 (by rfl) (.tmp 6) (.tmp 47) (by rfl) w.heap.size (mcA { zM with me := ldW X cs ds } (some ⟨w.heap.size + 1, 0, none⟩) X X) (by rfl) (by rfl) hmm hmo _ hsz hA ?_))
          exact bodyPost_ret (v := .tuple #[.agg (mcA { zM with me := ldW X cs ds } (some ⟨w.heap.size + 1, 0, none⟩) X X), .int .i64 0]) (res45b Try.results26 rfl rfl hmm (hA.setRow _)) rfl (ldYes' hr.out hokR (hM2.block (setRow_other _ _ _ _ (by omega))) (by rw [ldW_len hle]) (by omega) (below_setRow hbl (Nat.le_refl _) _) rfl)
        · go_wp2_with (first | (refine wpList_copy_nothing (by rfl) (.tmp 44) (.tmp 45) 43 43 (by rfl) 26 Try.underlying43 size26 _ _ _ _ 0 cd (by rfl) (by rfl) (by simp) ?_) | (refine ld45 (by rfl) (.tmp 8) (by rfl) (w.heap.size + 2) (by rfl) (mcA { zM with me := ldW X cs ds } (some ⟨w.heap.size + 1, 0, none⟩) X X) hmm hA2 ?_) | (refine st45 (by rfl) (.tmp 6) (.tmp 47) (by rfl) w.heap.size (mcA { zM with me := ldW X cs ds } (some ⟨w.heap.size + 1, 0, none⟩) X X) (by rfl) (by rfl) hmm hmo _ hsz hA ?_))
          exact bodyPost_ret (v := .tuple #[.agg (mcA { zM with me := ldW X cs ds } (some ⟨w.heap.size + 1, 0, none⟩) X X), .int .i64 0]) (res45b Try.results26 rfl rfl hmm (hA.setRow _)) rfl (ldYes' hr.out hokR (hM2.block (setRow_other _ _ _ _ (by omega))) (by rw [ldW_len hle]) (by omega) (below_setRow hbl (Nat.le_refl _) _) rfl)
      · have hXk : ¬ X = k := by omega
        obtain ⟨gd, od, rfl, hgd, hcd⟩ := (hD.here.below hbl).at0 (by omega)
        obtain ⟨C, hCA, hC⟩ := hMW
        have hC' := hC
        rw [hkl] at hC'
        have hCs : X ≤ C.size := by
          have h1 : (lay X cs k).length = X := lay_len (by omega) (by omega)
          have := (Array.getElem?_eq_some_iff.1 (hC (X - 1) (by omega))).1
          omega
        have hsrc : ∀ j v, (by64 ds)[j]? = some v → wr.cell? ((⟨gd, od, none⟩ : Addr).add j) = some v := fun j v hv => by
          have hj : j < ds.length := by have := (List.getElem?_eq_some_iff.1 hv).1; rwa [by64_len] at this
          rw [by64_get hj] at hv
          rw [Addr.add_mid, hcd j (by rw [hl2.out]; exact hj)]; exact hv
        have hM2 : MW (wr.setRow (w.heap.size + 1) (C.toList.take k ++ (by64 ds ++ C.toList.drop (k + (by64 ds).length))).toArray) (w.heap.size + 1) (ldW X cs ds) := ⟨_, hCA.setRow _, by have := ldW_splice hle hC'; rw [← hkl] at this; exact this⟩
        have A2 : Arr (wr.setRow (w.heap.size + 1) (C.toList.take k ++ (by64 ds ++ C.toList.drop (k + (by64 ds).length))).toArray) w.heap.size 45 (mcA zM none 0 0) := hA.setRowOther _ (by omega)
        have B2 : Arr (wr.setRow (w.heap.size + 1) (C.toList.take k ++ (by64 ds ++ C.toList.drop (k + (by64 ds).length))).toArray) (w.heap.size + 2) 45 (mcA { zM with me := ldW X cs ds } (some ⟨w.heap.size + 1, 0, none⟩) X X) := hA2.setRowOther _ (by omega)
        replace hsrc := Hid.mk' hsrc
        replace hkl := Hid.mk' hkl
        clear hC hC' hcd
        go_wp2_with (first | (refine wpList_copy_own (by rfl) (.tmp 44) (.tmp 45) 43 43 (by rfl) 26 Try.underlying43 size26 (w.heap.size + 1) k (X - k) (X - k) ⟨gd, od, none⟩ nd cd (by rfl) (by rfl) C 26 hCA (by64 ds) (by rw [by64_len, ← hl2.out]; exact (Nat.min_eq_left (by omega)).symm) hsrc.out (by rw [by64_len, ← hl2.out]; omega) (by64_one _) ?_) | (refine ld45 (by rfl) (.tmp 8) (by rfl) (w.heap.size + 2) (by rfl) (mcA { zM with me := ldW X cs ds } (some ⟨w.heap.size + 1, 0, none⟩) X X) hmm B2 ?_) | (refine st45 (by rfl) (.tmp 6) (.tmp 47) (by rfl) w.heap.size (mcA { zM with me := ldW X cs ds } (some ⟨w.heap.size + 1, 0, none⟩) X X) (by rfl) (by rfl) hmm hmo _ hsz A2 ?_))
        exact bodyPost_ret (v := .tuple #[.agg (mcA { zM with me := ldW X cs ds } (some ⟨w.heap.size + 1, 0, none⟩) X X), .int .i64 0]) (res45b Try.results26 rfl rfl hmm (A2.setRow _)) rfl (ldYes' hr.out hokR (hM2.block (setRow_other _ _ _ _ (by omega))) (by rw [ldW_len hle]) (by omega) (below_setRow (below_setRow hbl (by omega) _) (Nat.le_refl _) _) rfl)

theorem refLoad_any (x : Int) (sp : Option Addr) (n cap : Nat) (cs : List Cd) (sq : Option Addr) (nd cd : Nat) (ds : List Int) (N : Nat) (w : World) (hx : -9223372036854775808 ≤ x ∧ x ≤ 9223372036854775807) (hS : CS N w sp n cap cs) (hD : MS N w sq nd cd ds) (hU : ∀ k, U64 (ds.getD k 0)) :
    Calls Try.prog 26 #[.int .i64 x, .slice sp n cap, .slice sq nd cd] w (LdPost x cs ds w) := by
  by_cases h : szI x = false ∨ x < cs.length + ds.length
  · exact refLoad_no x sp n cap cs sq nd cd ds N w hx hS hD hU h
  · have hq : szI x = true := by cases hm : szI x with | true => rfl | false => exact absurd (.inl hm) h
    exact refLoad_ok x sp n cap cs sq nd cd ds N w hx hS hD hU hq (X := x.toNat) (by omega) (by omega)
end Go.Proofs.Ytnjbmffgbgbjmaa
