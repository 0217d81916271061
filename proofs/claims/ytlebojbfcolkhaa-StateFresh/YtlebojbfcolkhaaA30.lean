/- Cj, Li, Cv. -/
import Derived.Test.YtlebojbfcolkhaaCi
/- Layer collide, the document's answer: Path. -/
namespace Go.Proofs.Ytlebojbfcolkhaa
open Go.RowKit
set_option maxRecDepth 100000
set_option linter.unusedVariables false
set_option linter.unusedSimpArgs false

set_option maxRecDepth 100000 in
set_option maxHeartbeats 4000000 in
theorem refPath_ok (m : Nat) (X : List Int) (N : Nat) (sp : Option Addr) (n cap : Nat) (ls : List (List Int)) (w : World) (hX : X.length = 32) (bX : Bts X) (hS : HS N w sp n cap ls) (bS : ∀ Y ∈ ls, Bts Y) (h1 : n ≤ 16) (h2 : m < 2 ^ n) :
    Calls Try.prog 35 #[.int .i64 m, .agg (h8 X), .slice sp n cap] w (PaPost m X ls w) := by
  have A0 := Arr.new w 24 (h8 X)
  have hb0 := alloc_bel' w (.cells (h8 X) 24)
  have hm : m ≤ 9223372036854775807 := by have := pow16 h1; omega
  have hl := hS.len
  have hS := hS.here
  have hfo := refFold_ok m X w.heap.size sp n cap ls _ hX (hS.below hb0) h1 h2
  have hfl := fo_len (i := m) (ps := ls) hX
  have hFo : FoOK (m : Int) ls.length := ⟨by rw [← hl.out]; exact h1, by omega, by rw [← hl.out]; omega⟩
  have hfe : Hid (foE (m : Int) ls = 0) := Hid.mk' (by unfold foE; rw [if_pos hFo])
  replace hFo := Hid.mk' hFo
  replace bS := Hid.mk' bS
  replace h2 := Hid.mk' h2
  replace hfo := Hid.mk' hfo
  go_enter Try.func35, Try.ntmps35
  go_upto_region 5 with (first
    | (refine ld24 (by rfl) _ (by rfl) w.heap.size 0 (by rfl) X hX A0.range ?_)
    | (go_at_call 37; go_must (refine hfo.out.mono ?_; rintro e w2 ⟨rfl, hb2⟩))
    | (refine st24n (by rfl) _ _ (by rfl) w2 w2.heap.size rfl (by rfl) _ (by rfl) (by rfl) hfl ?_))
  have A2 := ((A0.below hb2 (by simp)).alloc (.cells (h8 (fo m X ls)) 24))
  have hB2 := (hb0.trans (hb2.mono (by simp))).alloc (Nat.le_trans hb0.size hb2.size) (.cells (h8 (fo m X ls)) 24)
  generalize w2.alloc (.cells (h8 (fo m X ls)) 24) = W2 at *
  go_upto_region 6 with fail
  go_loopw [0, 10, 11] (fun q v d wr => ∃ (j : Nat) (es : List En), q = .int .i64 ((m / 2 ^ j : Nat) : Int) ∧ d = .int .i64 (j : Int) ∧ j ≤ n ∧ es.length = j ∧ Below w.heap.size w wr ∧ Arr wr w.heap.size 24 (h8 (nd m X ls j)) ∧ EO (w.heap.size + 1) w.heap.size wr v es ∧ Hid (es.map En.bs = (pth m X ls).take j) ∧ Hid (∀ e ∈ es, e.sm = shl e.bs))
    (fun _ _ d _ => n - (intOf d).toNat)
  case atStart => exact ⟨0, [], by simp, rfl, by omega, rfl, hB2, by simpa [nd] using A2, EO.nil _ _ _, Hid.mk' (by simp), Hid.mk' (fun e he => by cases he)⟩
  case round =>
    obtain ⟨j, es, rfl, rfl, hj, hel, hbl, AL, hE, hbs, hsm⟩ := hrel
    clear A2 hB2 A0 hb0 hb2
    by_cases hlt : j < n
    · have hI : (j : Int) < n := by omega
      have hSr := hS.below hbl
      obtain ⟨g, off, rfl, hgN, hR⟩ := hSr.at0 (by omega)
      obtain ⟨Y, hY⟩ : ∃ Y, ls[j]? = some Y := ⟨ls[j]'(by rw [← hl.out]; exact hlt), List.getElem?_eq_getElem _⟩
      have hY32 := hS.l32 Y (List.mem_of_getElem? hY)
      have bY := bS.out Y (List.mem_of_getElem? hY)
      have hRY := hR j Y hY
      have hN32 := nd_len (m := m) (ls := ls) hX j
      have bN := nd_bts (m := m) (ls := ls) bX j
      have hnx := Hid.mk' (nd_succ (m := m) (X := X) hY)
      have hpx := Hid.mk' (pth_get (m := m) (X := X) hY)
      have hdv := Hid.mk' (div_succ m j)
      have hq : m / 2 ^ j ≤ 9223372036854775807 := Nat.le_trans (Nat.div_le_self _ _) hm
      replace hY := Hid.mk' hY
      obtain ⟨Xj, hXj⟩ : ∃ Xj, Xj = nd m X ls j := ⟨_, rfl⟩
      obtain ⟨q, hqe⟩ : ∃ q, q = m / 2 ^ j := ⟨_, rfl⟩
      rw [← hXj, ← hqe] at hnx hpx
      rw [← hXj] at hN32 bN AL
      rw [← hqe] at hdv hq ⊢
      clear hXj hqe
      have hwl := AL.lt
      have hqd : Hid ((q : Int) / 2 = ((q / 2 : Nat) : Int)) := Hid.mk' (by omega)
      obtain ⟨L, hL0⟩ : ∃ L, L = pb q Xj Y := ⟨_, rfl⟩
      rw [← hL0] at hnx hpx
      have hLb : Bts L := by rw [hL0]; exact pb_bts bN bY
      obtain ⟨S, hS0⟩ : ∃ S, S = shl L := ⟨_, rfl⟩
      rw [← hS0] at hnx
      have hS32 : S.length = 32 := by rw [hS0]; exact shl_len _
      have hSL := Hid.mk' hS0
      clear hS0
      go_upto_region 8 with fail
      go_cut [12, 13] (fun s t wc => ∃ ga gb, s = .pointer (some ⟨ga, 0, none⟩) ∧ t = .pointer (some ⟨gb, 0, none⟩) ∧ ga ≠ gb ∧ wr.heap.size ≤ ga ∧ wr.heap.size ≤ gb ∧ Arr wc ga 24 (h8 Xj) ∧ Arr wc gb 24 (h8 Y) ∧ Below wr.heap.size wr wc)
      case first =>
        refine wp_region_held_drew (S := fun u => Below wr.heap.size wr u) (by kernel_rfl) ((Below.refl _ _).drew) (fun hHeld => ?_)
        refine wpAnyH_take (i := 0) (oi := ⟨_, _, _, _, _, _⟩) rfl (by kernel_rfl) (by kernel_rfl) (by kernel_rfl) (fun _ _ _ h => h) (y24 (by rfl) (.tmp 4) rfl (w.heap.size) (0) rfl Xj hN32 (fun u hu => (range_below AL.range hu hwl))) (by assumption) ?_
        try simp only [Act.put, List.setIfInBounds_toArray, List.set_cons_zero, List.set_cons_succ]
        refine wpAnyH_take (i := 1) (oi := ⟨_, _, _, _, _, _⟩) (v := ?_) rfl (by kernel_rfl) (by kernel_rfl) (by kernel_rfl) (fun _ _ _ h => h) (Or.inl ⟨by rfl, ?_⟩) (by assumption) ?_
        rotate_left
        · intro u hSw
          go_simp
          try (with_reducible rfl)
        try simp only [Act.put, List.setIfInBounds_toArray, List.set_cons_zero, List.set_cons_succ]
        refine wpAnyH_take (i := 2) (oi := ⟨_, _, _, _, _, _⟩) (v := ?_) rfl (by kernel_rfl) (by kernel_rfl) (by kernel_rfl) (fun _ _ _ h => h) (Or.inl ⟨by rfl, ?_⟩) (by assumption) ?_
        rotate_left
        · intro u hSw
          go_simp
          try (with_reducible rfl)
        try simp only [Act.put, List.setIfInBounds_toArray, List.set_cons_zero, List.set_cons_succ]
        refine wpAnyH_take (i := 3) (oi := ⟨_, _, _, _, _, _⟩) (v := ?_) rfl (by kernel_rfl) (by kernel_rfl) (by kernel_rfl) (fun _ _ _ h => h) (Or.inl ⟨by rfl, ?_⟩) (by assumption) ?_
        rotate_left
        · intro u hSw
          go_simp
          try (with_reducible rfl)
        try simp only [Act.put, List.setIfInBounds_toArray, List.set_cons_zero, List.set_cons_succ]
        refine wpAnyH_take (i := 4) (oi := ⟨_, _, _, _, _, _⟩) rfl (by kernel_rfl) (by kernel_rfl) (by kernel_rfl) (fun _ _ _ h => h) (y24 (by rfl) (.tmp 33) rfl (g) (off + j * 32) rfl Y hY32 (fun u hu => range_below hRY hu (by omega))) (by assumption) ?_
        try simp only [Act.put, List.setIfInBounds_toArray, List.set_cons_zero, List.set_cons_succ]
        refine wpAnyH_ready (rs := [5, 6]) (by kernel_rfl) (by simp) ?_
        refine AllReadyH.cons (o := ⟨_, _, _, _, _, _⟩) rfl (fun K hK => ?_) (AllReadyH.cons (o := ⟨_, _, _, _, _, _⟩) rfl (fun K hK => ?_) AllReadyH.nil)
        · have hb1 : Below wr.heap.size wr (wr.drew.alloc (.cells (h8 Z32) 24)) := (Below.refl wr.heap.size wr).drew.alloc (by simp) _
          have ha2 : Arr (wr.drew.alloc (.cells (h8 Z32) 24)) wr.heap.size 24 (h8 Z32) := Arr.new wr.drew 24 (h8 Z32)
          go_simp
          go_wp2_with fail
          refine hK.out _ _ hb1 (fun hHeld => ?_)
          clear hK K
          try simp only [Act.put, List.setIfInBounds_toArray, List.set_cons_zero, List.set_cons_succ]
          refine wpAnyH_ready (rs := [6]) (by kernel_rfl) (by simp) ?_
          refine AllReadyH.cons (o := ⟨_, _, _, _, _, _⟩) rfl (fun K hK => ?_) AllReadyH.nil
          have hb3 : Below wr.heap.size wr ((wr.drew.alloc (.cells (h8 Z32) 24)).alloc (.cells (h8 Z32) 24)) := hb1.alloc (by simp) _
          have ha4 : Arr ((wr.drew.alloc (.cells (h8 Z32) 24)).alloc (.cells (h8 Z32) 24)) (wr.heap.size + 1) 24 (h8 Z32) := by have h := Arr.new (wr.drew.alloc (.cells (h8 Z32) 24)) 24 (h8 Z32); rw [show (wr.drew.alloc (.cells (h8 Z32) 24)).heap.size = wr.heap.size + 1 by simp] at h; exact h
          have hc5 := Arr.alloc ha2 (.cells (h8 Z32) 24)
          go_simp
          go_wp2_with fail
          refine hK.out _ _ hb3 (fun hHeld => ?_)
          clear hK K
          try simp only [Act.put, List.setIfInBounds_toArray, List.set_cons_zero, List.set_cons_succ]
          refine wpAnyH_ready (rs := [7]) (by kernel_rfl) (by simp) ?_
          refine AllReadyH.cons (o := ⟨_, _, _, _, _, _⟩) rfl (fun K hK => ?_) AllReadyH.nil
          have hb6 : Below wr.heap.size wr (((wr.drew.alloc (.cells (h8 Z32) 24)).alloc (.cells (h8 Z32) 24)).setRow wr.heap.size (h8 Xj)) := below_setRow hb3 (by omega) _
          have ha7 := Arr.setRow hc5 (h8 Xj)
          have hc8 := Arr.setRowOther ha4 (k := wr.heap.size) (h8 Xj) (by omega)
          refine step_want rfl (wp_store_row 24 (.tmp 12) (.tmp 30) rfl wr.heap.size (h8 Xj) rfl rfl 24 _ hc5 (s24h8 hN32) (by rw [h8_size, h8_size, hN32, Z32_len]) (h8_one Xj) ?_)
          refine hK.out _ _ hb6 (fun hHeld => ?_)
          clear hK K
          try simp only [Act.put, List.setIfInBounds_toArray, List.set_cons_zero, List.set_cons_succ]
          refine wpAnyH_ready (rs := [8]) (by kernel_rfl) (by simp) ?_
          refine AllReadyH.cons (o := ⟨_, _, _, _, _, _⟩) rfl (fun K hK => ?_) AllReadyH.nil
          have hb9 : Below wr.heap.size wr ((((wr.drew.alloc (.cells (h8 Z32) 24)).alloc (.cells (h8 Z32) 24)).setRow wr.heap.size (h8 Xj)).setRow (wr.heap.size + 1) (h8 Y)) := below_setRow hb6 (by omega) _
          have ha10 := Arr.setRow hc8 (h8 Y)
          have hc11 := Arr.setRowOther ha7 (k := (wr.heap.size + 1)) (h8 Y) (by omega)
          refine step_want rfl (wp_store_row 24 (.tmp 13) (.tmp 34) rfl (wr.heap.size + 1) (h8 Y) rfl rfl 24 _ hc8 (s24h8 hY32) (by rw [h8_size, h8_size, hY32, Z32_len]) (h8_one Y) ?_)
          refine hK.out _ _ hb9 (fun hHeld => ?_)
          clear hK K
          try simp only [Act.put, List.setIfInBounds_toArray, List.set_cons_zero, List.set_cons_succ]
          refine wpAnyH_done (by kernel_rfl) ?_ _
          go_wp2_with fail
          go_meet
          exact ⟨_, _, rfl, rfl, by omega, by omega, by omega, hc11, ha10, hb9⟩
        · have hb12 : Below wr.heap.size wr (wr.drew.alloc (.cells (h8 Z32) 24)) := (Below.refl wr.heap.size wr).drew.alloc (by simp) _
          have ha13 : Arr (wr.drew.alloc (.cells (h8 Z32) 24)) wr.heap.size 24 (h8 Z32) := Arr.new wr.drew 24 (h8 Z32)
          go_simp
          go_wp2_with fail
          refine hK.out _ _ hb12 (fun hHeld => ?_)
          clear hK K
          try simp only [Act.put, List.setIfInBounds_toArray, List.set_cons_zero, List.set_cons_succ]
          refine wpAnyH_ready (rs := [5]) (by kernel_rfl) (by simp) ?_
          refine AllReadyH.cons (o := ⟨_, _, _, _, _, _⟩) rfl (fun K hK => ?_) AllReadyH.nil
          have hb14 : Below wr.heap.size wr ((wr.drew.alloc (.cells (h8 Z32) 24)).alloc (.cells (h8 Z32) 24)) := hb12.alloc (by simp) _
          have ha15 : Arr ((wr.drew.alloc (.cells (h8 Z32) 24)).alloc (.cells (h8 Z32) 24)) (wr.heap.size + 1) 24 (h8 Z32) := by have h := Arr.new (wr.drew.alloc (.cells (h8 Z32) 24)) 24 (h8 Z32); rw [show (wr.drew.alloc (.cells (h8 Z32) 24)).heap.size = wr.heap.size + 1 by simp] at h; exact h
          have hc16 := Arr.alloc ha13 (.cells (h8 Z32) 24)
          go_simp
          go_wp2_with fail
          refine hK.out _ _ hb14 (fun hHeld => ?_)
          clear hK K
          try simp only [Act.put, List.setIfInBounds_toArray, List.set_cons_zero, List.set_cons_succ]
          refine wpAnyH_ready (rs := [7]) (by kernel_rfl) (by simp) ?_
          refine AllReadyH.cons (o := ⟨_, _, _, _, _, _⟩) rfl (fun K hK => ?_) AllReadyH.nil
          have hb17 : Below wr.heap.size wr (((wr.drew.alloc (.cells (h8 Z32) 24)).alloc (.cells (h8 Z32) 24)).setRow (wr.heap.size + 1) (h8 Xj)) := below_setRow hb14 (by omega) _
          have ha18 := Arr.setRow ha15 (h8 Xj)
          have hc19 := Arr.setRowOther hc16 (k := (wr.heap.size + 1)) (h8 Xj) (by omega)
          refine step_want rfl (wp_store_row 24 (.tmp 12) (.tmp 30) rfl (wr.heap.size + 1) (h8 Xj) rfl rfl 24 _ ha15 (s24h8 hN32) (by rw [h8_size, h8_size, hN32, Z32_len]) (h8_one Xj) ?_)
          refine hK.out _ _ hb17 (fun hHeld => ?_)
          clear hK K
          try simp only [Act.put, List.setIfInBounds_toArray, List.set_cons_zero, List.set_cons_succ]
          refine wpAnyH_ready (rs := [8]) (by kernel_rfl) (by simp) ?_
          refine AllReadyH.cons (o := ⟨_, _, _, _, _, _⟩) rfl (fun K hK => ?_) AllReadyH.nil
          have hb20 : Below wr.heap.size wr ((((wr.drew.alloc (.cells (h8 Z32) 24)).alloc (.cells (h8 Z32) 24)).setRow (wr.heap.size + 1) (h8 Xj)).setRow wr.heap.size (h8 Y)) := below_setRow hb17 (by omega) _
          have ha21 := Arr.setRow hc19 (h8 Y)
          have hc22 := Arr.setRowOther ha18 (k := wr.heap.size) (h8 Y) (by omega)
          refine step_want rfl (wp_store_row 24 (.tmp 13) (.tmp 34) rfl wr.heap.size (h8 Y) rfl rfl 24 _ hc19 (s24h8 hY32) (by rw [h8_size, h8_size, hY32, Z32_len]) (h8_one Y) ?_)
          refine hK.out _ _ hb20 (fun hHeld => ?_)
          clear hK K
          try simp only [Act.put, List.setIfInBounds_toArray, List.set_cons_zero, List.set_cons_succ]
          refine wpAnyH_done (by kernel_rfl) ?_ _
          go_wp2_with fail
          go_meet
          exact ⟨_, _, rfl, rfl, by omega, by omega, by omega, hc22, ha21, hb20⟩

      case rest =>
       obtain ⟨ga, gb, rfl, rfl, hab, hga, hgb, AA, AB, hVc⟩ := hcut
       by_cases hd : q % 2 = 1
       · have hd1 : ((q : Int) % 2 == 1) = true := by rw [beq_iff_eq]; omega
         have hL : Hid (L = [1] ++ Y ++ Xj) := Hid.mk' (by rw [hL0]; unfold pb; rw [if_pos hd]; simp)
         have hpo : ∀ w, Calls Try.prog 38 #[.agg (h8 Y), .agg (h8 Xj)] w fun e w' => e = .returned (.agg (h8 S)) ∧ Below w.heap.size w w' := fun w => by
           have h := refPair_h Y Xj w hY32 hN32
           rw [hSL.out, hL.out]; simpa [pr] using h
         clear hd hL0
         go_upto_region 11 with (first | (refine ld24 (by rfl) (.tmp 13) (by rfl) gb 0 (by rfl) Y hY32 AB.range ?_) | (refine ld24 (by rfl) (.tmp 12) (by rfl) ga 0 (by rfl) Xj hN32 AA.range ?_) | (refine st24 (by rfl) (.tmp 12) (.tmp 38) (by rfl) ga Y Xj (by rfl) (by rfl) hY32 hN32 AA ?_; have AA1 := AA.setRow (h8 Y); have AB1 := AB.setRowOther (k := ga) (h8 Y) (Ne.symm hab)) | (refine st24 (by rfl) (.tmp 13) (.tmp 39) (by rfl) gb Xj Y (by rfl) (by rfl) hN32 hY32 AB1 ?_; have AB2 := AB1.setRow (h8 Xj); have AA2 := AA1.setRowOther (k := gb) (h8 Xj) hab))
         have hVd := below_setRow (below_setRow hVc (g := ga) hga (h8 Y)) (g := gb) hgb (h8 Xj)
         go_upto_region 12 with (first | (refine ld24 (by rfl) (.tmp 12) (by rfl) ga 0 (by rfl) Y hY32 AA2.range ?_) | (refine ld24 (by rfl) (.tmp 13) (by rfl) gb 0 (by rfl) Xj hN32 AB2.range ?_) | (go_at_call 38; go_must (refine (hpo _).mono ?_; rintro e w5 ⟨rfl, hb5⟩; have hV5 := hVd.trans (hb5.mono hVd.size); have AL5 := AL.below hV5 hwl)) | (refine st24 (by rfl) (.tmp 4) (.tmp 42) (by rfl) w.heap.size S Xj (by rfl) (by rfl) hS32 hN32 AL5 ?_))
         have AA6 := (AA2.below hb5 AA2.lt).setRowOther (k := w.heap.size) (h8 S) (by omega)
         have AB6 := (AB2.below hb5 AB2.lt).setRowOther (k := w.heap.size) (h8 S) (by omega)
         have AL6 := AL5.setRow (h8 S)
         have bl6 := below_setRow (hbl.trans (hV5.mono (by omega))) (g := w.heap.size) (Nat.le_refl _) (h8 S)
         have E6 := (hE.below hV5).grown (gb_row w5 w.heap.size (h8 S)) (fun e => by have := own_ge hE.own _ e; omega)
         have hs6 := AL6.lt
         have hs65 : wr.heap.size ≤ (w5.setRow w.heap.size (h8 S)).heap.size := by simp; exact hV5.size
         generalize w5.setRow w.heap.size (h8 S) = W6 at *
         refine wp_region_held_drew (S := fun u => Arr u w.heap.size 24 (h8 S)) (by kernel_rfl) AL6.drew (fun hHeld => ?_)
         refine wpAnyH_take (i := 0) (oi := ⟨_, _, _, _, _, _⟩) (v := ?_) rfl (by kernel_rfl) (by kernel_rfl) (by kernel_rfl) (fun _ _ _ h => h) (Or.inl ⟨by rfl, ?_⟩) (by assumption) ?_
         rotate_left
         · intro u hSw
           go_simp
           try (with_reducible rfl)
         try simp only [Act.put, List.setIfInBounds_toArray, List.set_cons_zero, List.set_cons_succ]
         refine wpAnyH_take (i := 2) (oi := ⟨_, _, _, _, _, _⟩) (v := ?_) rfl (by kernel_rfl) (by kernel_rfl) (by kernel_rfl) (fun _ _ _ h => h) (Or.inl ⟨by rfl, ?_⟩) (by assumption) ?_
         rotate_left
         · intro u hSw
           go_simp
           try (with_reducible rfl)
         try simp only [Act.put, List.setIfInBounds_toArray, List.set_cons_zero, List.set_cons_succ]
         refine wpAnyH_take (i := 4) (oi := ⟨_, _, _, _, _, _⟩) (v := ?_) rfl (by kernel_rfl) (by kernel_rfl) (by kernel_rfl) (fun _ _ _ h => h) (Or.inl ⟨by rfl, ?_⟩) (by assumption) ?_
         rotate_left
         · intro u hSw
           go_simp
           try (with_reducible rfl)
         try simp only [Act.put, List.setIfInBounds_toArray, List.set_cons_zero, List.set_cons_succ]
         refine wpAnyH_take (i := 6) (oi := ⟨_, _, _, _, _, _⟩) rfl (by kernel_rfl) (by kernel_rfl) (by kernel_rfl) (fun _ _ _ h => h) (y24 (by rfl) (.tmp 4) rfl (w.heap.size) (0) rfl S hS32 (fun u hu => hu.range)) (by assumption) ?_
         try simp only [Act.put, List.setIfInBounds_toArray, List.set_cons_zero, List.set_cons_succ]
         refine wpAnyH_ready (rs := [1]) (by kernel_rfl) (by simp) ?_
         refine AllReadyH.cons (o := ⟨_, _, _, _, _, _⟩) rfl (fun K hK => ?_) AllReadyH.nil
         have hv1 : (W6.alloc (.cells #[.int .u8 1] 5)).drew.ownsRow W6.heap.size 5 1 (.slice (some ⟨W6.heap.size, 0, none⟩) 1 1) 1 (by8 [1]) := World.ownsRow_lit _ _ _ (Nat.le_refl _) (by unfold maxLen; omega) rfl
         have U1 : Below W6.heap.size W6 ((W6.alloc (.cells #[.int .u8 1] 5)).drew) := (alloc_bel' W6 _).drew
         have s1 : ((W6.alloc (.cells #[.int .u8 1] 5)).drew).heap.size = W6.heap.size + 1 := by simp
         go_simp
         go_wp2_with fail
         refine hK.out _ _ (AL6.below U1 AL6.lt) (fun hHeld => ?_)
         clear hK K
         try simp only [Act.put, List.setIfInBounds_toArray, List.set_cons_zero, List.set_cons_succ]
         generalize (W6.alloc (.cells #[.int .u8 1] 5)).drew = W7 at *
         refine wpAnyH_ready (rs := [3]) (by kernel_rfl) (by simp) ?_
         refine AllReadyH.cons (o := ⟨_, _, _, _, _, _⟩) rfl (fun K hK => ?_) AllReadyH.nil
         refine step_append_bytes rfl (.tmp 44) (.tmp 45) rfl W6.heap.size _ 1 [1] rfl hv1 (some ⟨ga, 0, none⟩) 32 32 Y rfl hY32.symm (fun h => by cases h) (Arr.sl (AA6.below U1 AA6.lt)) (by omega) (by omega) (fun v2 w8 hown2 hg2 => ?_)
         have U2 := U1.grown hg2 (by omega) (fun k e => own_ge hv1 k e)
         have s2 := U2.size
         refine hK.out _ _ (AL6.below U2 AL6.lt) (fun hHeld => ?_)
         clear hK K
         try simp only [Act.put, List.setIfInBounds_toArray, List.set_cons_zero, List.set_cons_succ]
         refine wpAnyH_ready (rs := [5]) (by kernel_rfl) (by simp) ?_
         refine AllReadyH.cons (o := ⟨_, _, _, _, _, _⟩) rfl (fun K hK => ?_) AllReadyH.nil
         refine step_append_bytes rfl (.tmp 46) (.tmp 47) rfl W6.heap.size _ 33 ([1] ++ Y) rfl hown2 (some ⟨gb, 0, none⟩) 32 32 Xj rfl hN32.symm (fun h => by cases h) (Arr.sl (AB6.below U2 AB6.lt)) (by omega) (by omega) (fun v3 w9 hown3 hg3 => ?_)
         have U3 := U2.grown hg3 (by omega) (fun k e => own_ge hown2 k e)
         have s3 := U3.size
         refine hK.out _ _ (AL6.below U3 AL6.lt) (fun hHeld => ?_)
         clear hK K
         try simp only [Act.put, List.setIfInBounds_toArray, List.set_cons_zero, List.set_cons_succ]
         rw [show [1] ++ Y ++ Xj = L from hL.out.symm] at hown3
         obtain ⟨sp9, cp9, rfl, hb9, hg9⟩ := own_bs hown3 hLb (by omega)
         refine wpAnyH_ready (rs := [7]) (by kernel_rfl) (by simp) ?_
         refine AllReadyH.cons (o := ⟨_, _, _, _, _, _⟩) rfl (fun K hK => ?_) AllReadyH.nil
         refine step_want rfl (wp_bdT 77 _ rfl rfl (built54 sp9 65 cp9 S hS32 L) ?_)
         refine hK.out _ _ (AL6.below U3 AL6.lt) (fun hHeld => ?_)
         clear hK K
         try simp only [Act.put, List.setIfInBounds_toArray, List.set_cons_zero, List.set_cons_succ]
         refine wpAnyH_ready (rs := [8]) (by kernel_rfl) (by simp) ?_
         refine AllReadyH.cons (o := ⟨_, _, _, _, _, _⟩) rfl (fun K hK => ?_) AllReadyH.nil
         refine step_want rfl (wp_bldE (.tmp 50) rfl ⟨sp9, 65, cp9, L, S⟩ rfl hS32 ?_)
         have U4 := U3.alloc (Nat.le_trans (Nat.le_refl _) U3.size) (.cells (En.arr ⟨sp9, 65, cp9, L, S⟩) 77)
         have E9 := E6.below U4
         have hob := fun (k : Nat) hk => own_lt (b := k) E6.own hk
         have A9 := Arr.new w9 77 (En.arr ⟨sp9, 65, cp9, L, S⟩)
         have ok9 : EnOK (w9.alloc (.cells (En.arr ⟨sp9, 65, cp9, L, S⟩) 77)).heap.size (w9.alloc (.cells (En.arr ⟨sp9, 65, cp9, L, S⟩) 77)) ⟨sp9, 65, cp9, L, S⟩ := ⟨(hb9.below (alloc_bel' w9 _)).mono (by simp), hS32⟩
         refine hK.out _ _ (AL6.below U4 AL6.lt) (fun hHeld => ?_)
         clear hK K
         try simp only [Act.put, List.setIfInBounds_toArray, List.set_cons_zero, List.set_cons_succ]
         refine wpAnyH_ready (rs := [9]) (by kernel_rfl) (by simp) ?_
         refine AllReadyH.cons (o := ⟨_, _, _, _, _, _⟩) rfl (fun K hK => ?_) AllReadyH.nil
         refine step_want rfl (wp_appE (.tmp 43) (.tmp 51) rfl (w.heap.size + 1) w.heap.size _ es ⟨sp9, 65, cp9, L, S⟩ rfl E9 w9.heap.size 1 rfl A9 ok9 (apart hb9 (by omega) (fun g' o' e' => (hg9 g' o' e').1) hob (by omega) (by omega) (by simp)) (by omega) (by simp; omega) (fun v' wz hEz hGz hlz => ?_))
         have hbz := (bl6.trans (U4.mono (by omega))).grown hGz (by simp; omega) (fun k e => by have := own_ge E6.own k e; omega)
         have ALz := (AL6.below U4 AL6.lt).grown hGz (fun e => by have := own_ge E6.own _ e.symm; omega)
         refine hK.out _ _ ALz (fun hHeld => ?_)
         clear hK K
         try simp only [Act.put, List.setIfInBounds_toArray, List.set_cons_zero, List.set_cons_succ]
         refine wpAnyH_take (i := 10) (oi := ⟨_, _, _, _, _, _⟩) (v := ?_) rfl (by kernel_rfl) (by kernel_rfl) (by kernel_rfl) (fun _ _ _ h => h) (Or.inl ⟨by rfl, ?_⟩) (by assumption) ?_
         rotate_left
         · intro u hSw
           go_simp
           try (with_reducible rfl)
         try simp only [Act.put, List.setIfInBounds_toArray, List.set_cons_zero, List.set_cons_succ]
         refine wpAnyH_done (by kernel_rfl) ?_ _
         go_wp2_with fail
         go_roundw
         case rel =>
           refine ⟨j + 1, _, ?_, by go_num, by omega, by simp [hel], hbz, by rw [hnx.out]; exact ALz, hEz, Hid.mk' ?_, Hid.mk' ?_⟩
           · rw [hdv.out, ← hqd.out]
           · rw [List.map_append, hbs.out, take_succ' hpx.out]; rfl
           · intro e he
             rcases List.mem_append.1 he with he | he
             · exact hsm.out e he
             · simp at he; subst he; exact hSL.out
         case measure => simp [intOf]; omega

       · have hd1 : ((q : Int) % 2 == 1) = false := by rw [beq_eq_false_iff_ne]; omega
         have hL : Hid (L = [1] ++ Xj ++ Y) := Hid.mk' (by rw [hL0]; unfold pb; rw [if_neg hd]; simp)
         have hpo : ∀ w, Calls Try.prog 38 #[.agg (h8 Xj), .agg (h8 Y)] w fun e w' => e = .returned (.agg (h8 S)) ∧ Below w.heap.size w w' := fun w => by
           have h := refPair_h Xj Y w hN32 hY32
           rw [hSL.out, hL.out]; simpa [pr] using h
         clear hd hL0
         go_upto_region 11 with fail
         have hVd := hVc
         go_upto_region 12 with (first | (refine ld24 (by rfl) (.tmp 12) (by rfl) ga 0 (by rfl) Xj hN32 AA.range ?_) | (refine ld24 (by rfl) (.tmp 13) (by rfl) gb 0 (by rfl) Y hY32 AB.range ?_) | (go_at_call 38; go_must (refine (hpo _).mono ?_; rintro e w5 ⟨rfl, hb5⟩; have hV5 := hVd.trans (hb5.mono hVd.size); have AL5 := AL.below hV5 hwl)) | (refine st24 (by rfl) (.tmp 4) (.tmp 42) (by rfl) w.heap.size S Xj (by rfl) (by rfl) hS32 hN32 AL5 ?_))
         have AA6 := (AA.below hb5 AA.lt).setRowOther (k := w.heap.size) (h8 S) (by omega)
         have AB6 := (AB.below hb5 AB.lt).setRowOther (k := w.heap.size) (h8 S) (by omega)
         have AL6 := AL5.setRow (h8 S)
         have bl6 := below_setRow (hbl.trans (hV5.mono (by omega))) (g := w.heap.size) (Nat.le_refl _) (h8 S)
         have E6 := (hE.below hV5).grown (gb_row w5 w.heap.size (h8 S)) (fun e => by have := own_ge hE.own _ e; omega)
         have hs6 := AL6.lt
         have hs65 : wr.heap.size ≤ (w5.setRow w.heap.size (h8 S)).heap.size := by simp; exact hV5.size
         generalize w5.setRow w.heap.size (h8 S) = W6 at *
         refine wp_region_held_drew (S := fun u => Arr u w.heap.size 24 (h8 S)) (by kernel_rfl) AL6.drew (fun hHeld => ?_)
         refine wpAnyH_take (i := 0) (oi := ⟨_, _, _, _, _, _⟩) (v := ?_) rfl (by kernel_rfl) (by kernel_rfl) (by kernel_rfl) (fun _ _ _ h => h) (Or.inl ⟨by rfl, ?_⟩) (by assumption) ?_
         rotate_left
         · intro u hSw
           go_simp
           try (with_reducible rfl)
         try simp only [Act.put, List.setIfInBounds_toArray, List.set_cons_zero, List.set_cons_succ]
         refine wpAnyH_take (i := 2) (oi := ⟨_, _, _, _, _, _⟩) (v := ?_) rfl (by kernel_rfl) (by kernel_rfl) (by kernel_rfl) (fun _ _ _ h => h) (Or.inl ⟨by rfl, ?_⟩) (by assumption) ?_
         rotate_left
         · intro u hSw
           go_simp
           try (with_reducible rfl)
         try simp only [Act.put, List.setIfInBounds_toArray, List.set_cons_zero, List.set_cons_succ]
         refine wpAnyH_take (i := 4) (oi := ⟨_, _, _, _, _, _⟩) (v := ?_) rfl (by kernel_rfl) (by kernel_rfl) (by kernel_rfl) (fun _ _ _ h => h) (Or.inl ⟨by rfl, ?_⟩) (by assumption) ?_
         rotate_left
         · intro u hSw
           go_simp
           try (with_reducible rfl)
         try simp only [Act.put, List.setIfInBounds_toArray, List.set_cons_zero, List.set_cons_succ]
         refine wpAnyH_take (i := 6) (oi := ⟨_, _, _, _, _, _⟩) rfl (by kernel_rfl) (by kernel_rfl) (by kernel_rfl) (fun _ _ _ h => h) (y24 (by rfl) (.tmp 4) rfl (w.heap.size) (0) rfl S hS32 (fun u hu => hu.range)) (by assumption) ?_
         try simp only [Act.put, List.setIfInBounds_toArray, List.set_cons_zero, List.set_cons_succ]
         refine wpAnyH_ready (rs := [1]) (by kernel_rfl) (by simp) ?_
         refine AllReadyH.cons (o := ⟨_, _, _, _, _, _⟩) rfl (fun K hK => ?_) AllReadyH.nil
         have hv1 : (W6.alloc (.cells #[.int .u8 1] 5)).drew.ownsRow W6.heap.size 5 1 (.slice (some ⟨W6.heap.size, 0, none⟩) 1 1) 1 (by8 [1]) := World.ownsRow_lit _ _ _ (Nat.le_refl _) (by unfold maxLen; omega) rfl
         have U1 : Below W6.heap.size W6 ((W6.alloc (.cells #[.int .u8 1] 5)).drew) := (alloc_bel' W6 _).drew
         have s1 : ((W6.alloc (.cells #[.int .u8 1] 5)).drew).heap.size = W6.heap.size + 1 := by simp
         go_simp
         go_wp2_with fail
         refine hK.out _ _ (AL6.below U1 AL6.lt) (fun hHeld => ?_)
         clear hK K
         try simp only [Act.put, List.setIfInBounds_toArray, List.set_cons_zero, List.set_cons_succ]
         generalize (W6.alloc (.cells #[.int .u8 1] 5)).drew = W7 at *
         refine wpAnyH_ready (rs := [3]) (by kernel_rfl) (by simp) ?_
         refine AllReadyH.cons (o := ⟨_, _, _, _, _, _⟩) rfl (fun K hK => ?_) AllReadyH.nil
         refine step_append_bytes rfl (.tmp 44) (.tmp 45) rfl W6.heap.size _ 1 [1] rfl hv1 (some ⟨ga, 0, none⟩) 32 32 Xj rfl hN32.symm (fun h => by cases h) (Arr.sl (AA6.below U1 AA6.lt)) (by omega) (by omega) (fun v2 w8 hown2 hg2 => ?_)
         have U2 := U1.grown hg2 (by omega) (fun k e => own_ge hv1 k e)
         have s2 := U2.size
         refine hK.out _ _ (AL6.below U2 AL6.lt) (fun hHeld => ?_)
         clear hK K
         try simp only [Act.put, List.setIfInBounds_toArray, List.set_cons_zero, List.set_cons_succ]
         refine wpAnyH_ready (rs := [5]) (by kernel_rfl) (by simp) ?_
         refine AllReadyH.cons (o := ⟨_, _, _, _, _, _⟩) rfl (fun K hK => ?_) AllReadyH.nil
         refine step_append_bytes rfl (.tmp 46) (.tmp 47) rfl W6.heap.size _ 33 ([1] ++ Xj) rfl hown2 (some ⟨gb, 0, none⟩) 32 32 Y rfl hY32.symm (fun h => by cases h) (Arr.sl (AB6.below U2 AB6.lt)) (by omega) (by omega) (fun v3 w9 hown3 hg3 => ?_)
         have U3 := U2.grown hg3 (by omega) (fun k e => own_ge hown2 k e)
         have s3 := U3.size
         refine hK.out _ _ (AL6.below U3 AL6.lt) (fun hHeld => ?_)
         clear hK K
         try simp only [Act.put, List.setIfInBounds_toArray, List.set_cons_zero, List.set_cons_succ]
         rw [show [1] ++ Xj ++ Y = L from hL.out.symm] at hown3
         obtain ⟨sp9, cp9, rfl, hb9, hg9⟩ := own_bs hown3 hLb (by omega)
         refine wpAnyH_ready (rs := [7]) (by kernel_rfl) (by simp) ?_
         refine AllReadyH.cons (o := ⟨_, _, _, _, _, _⟩) rfl (fun K hK => ?_) AllReadyH.nil
         refine step_want rfl (wp_bdT 77 _ rfl rfl (built54 sp9 65 cp9 S hS32 L) ?_)
         refine hK.out _ _ (AL6.below U3 AL6.lt) (fun hHeld => ?_)
         clear hK K
         try simp only [Act.put, List.setIfInBounds_toArray, List.set_cons_zero, List.set_cons_succ]
         refine wpAnyH_ready (rs := [8]) (by kernel_rfl) (by simp) ?_
         refine AllReadyH.cons (o := ⟨_, _, _, _, _, _⟩) rfl (fun K hK => ?_) AllReadyH.nil
         refine step_want rfl (wp_bldE (.tmp 50) rfl ⟨sp9, 65, cp9, L, S⟩ rfl hS32 ?_)
         have U4 := U3.alloc (Nat.le_trans (Nat.le_refl _) U3.size) (.cells (En.arr ⟨sp9, 65, cp9, L, S⟩) 77)
         have E9 := E6.below U4
         have hob := fun (k : Nat) hk => own_lt (b := k) E6.own hk
         have A9 := Arr.new w9 77 (En.arr ⟨sp9, 65, cp9, L, S⟩)
         have ok9 : EnOK (w9.alloc (.cells (En.arr ⟨sp9, 65, cp9, L, S⟩) 77)).heap.size (w9.alloc (.cells (En.arr ⟨sp9, 65, cp9, L, S⟩) 77)) ⟨sp9, 65, cp9, L, S⟩ := ⟨(hb9.below (alloc_bel' w9 _)).mono (by simp), hS32⟩
         refine hK.out _ _ (AL6.below U4 AL6.lt) (fun hHeld => ?_)
         clear hK K
         try simp only [Act.put, List.setIfInBounds_toArray, List.set_cons_zero, List.set_cons_succ]
         refine wpAnyH_ready (rs := [9]) (by kernel_rfl) (by simp) ?_
         refine AllReadyH.cons (o := ⟨_, _, _, _, _, _⟩) rfl (fun K hK => ?_) AllReadyH.nil
         refine step_want rfl (wp_appE (.tmp 43) (.tmp 51) rfl (w.heap.size + 1) w.heap.size _ es ⟨sp9, 65, cp9, L, S⟩ rfl E9 w9.heap.size 1 rfl A9 ok9 (apart hb9 (by omega) (fun g' o' e' => (hg9 g' o' e').1) hob (by omega) (by omega) (by simp)) (by omega) (by simp; omega) (fun v' wz hEz hGz hlz => ?_))
         have hbz := (bl6.trans (U4.mono (by omega))).grown hGz (by simp; omega) (fun k e => by have := own_ge E6.own k e; omega)
         have ALz := (AL6.below U4 AL6.lt).grown hGz (fun e => by have := own_ge E6.own _ e.symm; omega)
         refine hK.out _ _ ALz (fun hHeld => ?_)
         clear hK K
         try simp only [Act.put, List.setIfInBounds_toArray, List.set_cons_zero, List.set_cons_succ]
         refine wpAnyH_take (i := 10) (oi := ⟨_, _, _, _, _, _⟩) (v := ?_) rfl (by kernel_rfl) (by kernel_rfl) (by kernel_rfl) (fun _ _ _ h => h) (Or.inl ⟨by rfl, ?_⟩) (by assumption) ?_
         rotate_left
         · intro u hSw
           go_simp
           try (with_reducible rfl)
         try simp only [Act.put, List.setIfInBounds_toArray, List.set_cons_zero, List.set_cons_succ]
         refine wpAnyH_done (by kernel_rfl) ?_ _
         go_wp2_with fail
         go_roundw
         case rel =>
           refine ⟨j + 1, _, ?_, by go_num, by omega, by simp [hel], hbz, by rw [hnx.out]; exact ALz, hEz, Hid.mk' ?_, Hid.mk' ?_⟩
           · rw [hdv.out, ← hqd.out]
           · rw [List.map_append, hbs.out, take_succ' hpx.out]; rfl
           · intro e he
             rcases List.mem_append.1 he with he | he
             · exact hsm.out e he
             · simp at he; subst he; exact hSL.out
         case measure => simp [intOf]; omega

    · obtain rfl : j = n := by omega
      have hI : ¬ (j : Int) < j := by omega
      obtain ⟨sp6, cp6, rfl, hES⟩ := hE.es (by omega)
      go_wp2_with fail
      go_ret2
      refine ⟨sp6, j, cp6, es, by rw [hfe.out]; rfl, by rw [← hel]; exact hES, Hid.mk' ?_, hsm, fun b off e => ?_, hbl⟩
      · rw [if_pos hFo.out, hbs.out, hl.out, ← pth_len m X ls, List.take_length]; simp
      · have := own_ge hE.own b (by rw [e]; rfl); omega
set_option maxRecDepth 100000 in
set_option maxHeartbeats 1000000 in
theorem refPath_no (i : Int) (X : List Int) (N : Nat) (sp : Option Addr) (n cap : Nat) (ls : List (List Int)) (w : World) (hX : X.length = 32) (hS : HS N w sp n cap ls) (h : ¬ FoOK i n) :
    Calls Try.prog 35 #[.int .i64 i, .agg (h8 X), .slice sp n cap] w (PaPost i X ls w) := by
  have A0 := Arr.new w 24 (h8 X)
  have hb0 := alloc_bel' w (.cells (h8 X) 24)
  have hfo := refFold_any i X w.heap.size sp n cap ls _ hX (hS.here.below hb0)
  have hl := hS.len.out
  rw [hl] at h
  have e1 : foR i X ls = Z32 := by unfold foR; rw [if_neg h]
  have hfe0 : foE i ls = 2 := by unfold foE; rw [if_neg h]
  rw [e1, hfe0] at hfo
  have hfe := Hid.mk' hfe0
  replace h := Hid.mk' h
  clear hl e1 hfe0
  go_enter Try.func35, Try.ntmps35
  go_wp2_with (first
    | (refine ld24 (by rfl) _ (by rfl) w.heap.size 0 (by rfl) X hX A0.range ?_)
    | (go_at_call 37; go_must (refine hfo.mono ?_; rintro e w2 ⟨rfl, hb2⟩))
    | (refine st24n (by rfl) _ _ (by rfl) w2 w2.heap.size rfl (by rfl) Z32 (by rfl) (by rfl) Z32_len ?_))
  go_ret2
  have hB2 := (hb0.trans (hb2.mono (by simp))).alloc (Nat.le_trans hb0.size hb2.size) (.cells (h8 Z32) 24)
  exact ⟨none, 0, 0, [], by rw [hfe.out]; rfl, ES.nil0 _ _, Hid.mk' (by rw [if_neg h.out]; rfl), Hid.mk' (fun e he => by cases he), (fun b off e => by cases e), hB2⟩
theorem refPath_any (i : Int) (X : List Int) (N : Nat) (sp : Option Addr) (n cap : Nat) (ls : List (List Int)) (w : World) (hX : X.length = 32) (bX : Bts X) (hS : HS N w sp n cap ls) (bS : ∀ Y ∈ ls, Bts Y) :
    Calls Try.prog 35 #[.int .i64 i, .agg (h8 X), .slice sp n cap] w (PaPost i X ls w) := by
  by_cases h : FoOK i n
  · obtain ⟨h1, h2, h3⟩ := h
    obtain ⟨m, rfl⟩ : ∃ m : Nat, i = m := ⟨i.toNat, by omega⟩
    exact refPath_ok m X N sp n cap ls w hX bX hS bS h1 (by omega)
  · exact refPath_no i X N sp n cap ls w hX hS h
end Go.Proofs.Ytlebojbfcolkhaa
/- Layer collide: for the walk of CollideLogs: lists of entries are the same; sums of the document's own; sums unlike. -/
namespace Go.Proofs.Ytlebojbfcolkhaa
open Go.RowKit
set_option maxRecDepth 100000
set_option linter.unusedVariables false
set_option linter.unusedSimpArgs false

theorem run_neq24l {X Y : List Int} (hX : X.length = 32) (hY : Y.length = 32) (w : World) : (binOp .neq 24 (.agg (h8 X)) (.agg (h8 Y))).run Try.prog w = .ok (.bool (!decide (X = Y))) w := by
  have h := run_eqIn24 hX hY w
  rw [run_neq_struct, h]
  rfl
set_option maxRecDepth 100000 in
set_option maxHeartbeats 2000000 in
theorem same5_l (N N' : Nat) (sp sp' : Option Addr) (n cap cap' : Nat) (es es' : List En) (w : World) (hS : ES N w sp n cap es) (hS' : ES N' w sp' n cap' es') (hb : es.map En.bs = es'.map En.bs) (hs : ∀ e ∈ es, e.sm = shl e.bs) (hs' : ∀ e ∈ es', e.sm = shl e.bs) :
    Calls Try.prog 34 #[.slice sp n cap, .slice sp' n cap'] w fun e w' => e = .returned (.bool true) ∧ Below w.heap.size w w' := by
  have hS0 := hS.here
  have hS0' := hS'.here
  have hl := hS.len
  have hl' := hS'.len
  have hsm := hS.small
  have hnn : ((n : Int) != n) = false := by simp
  replace hb := Hid.mk' hb
  replace hs := Hid.mk' hs
  replace hs' := Hid.mk' hs'
  go_enter Try.func34, Try.ntmps34
  go_wp2_with fail
  go_loopw [5] (fun q wr => ∃ j : Nat, q = .int .i64 (j : Int) ∧ j ≤ n ∧ Below w.heap.size w wr) (fun q _ => n - (intOf q).toNat)
  case atStart => exact ⟨0, rfl, by omega, Below.refl _ _⟩
  case round =>
    obtain ⟨j, rfl, hj, hbl⟩ := hrel
    have hS := hS0.below hbl
    have hS' := hS0'.below hbl
    by_cases hlt : j < n
    · have hI : (j : Int) < n := by omega
      obtain ⟨g, off, rfl, hgN, hR⟩ := hS.at0 (by omega)
      obtain ⟨g', off', rfl, hgN', hR'⟩ := hS'.at0 (by omega)
      obtain ⟨e, he⟩ : ∃ e, es[j]? = some e := ⟨es[j]'(by rw [← hl.out]; exact hlt), List.getElem?_eq_getElem _⟩
      obtain ⟨f, hf⟩ : ∃ e, es'[j]? = some e := ⟨es'[j]'(by rw [← hl'.out]; exact hlt), List.getElem?_eq_getElem _⟩
      have hoe := hS.ok e (List.mem_of_getElem? he)
      have hof := hS'.ok f (List.mem_of_getElem? hf)
      have re := hR j e he
      have rf := hR' j f hf
      have ce := range_c0 re
      have cf := range_c0 rf
      have hgl : g < wr.heap.size := Nat.lt_of_lt_of_le hgN hbl.size
      have hgl' : g' < wr.heap.size := Nat.lt_of_lt_of_le hgN' hbl.size
      have hbb : e.bs = f.bs := by
        have h1 : (es.map En.bs)[j]? = some e.bs := by simp [he]
        have h2 : (es'.map En.bs)[j]? = some f.bs := by simp [hf]
        rw [hb.out, h2] at h1
        exact (Option.some.inj h1).symm
      have hss : e.sm = f.sm := by rw [hs.out e (List.mem_of_getElem? he), hs'.out f (List.mem_of_getElem? hf), hbb]
      have heq := run_neq24l hoe.s32 hof.s32
      rw [decide_eq_true hss] at heq
      have hbd : decide (e.bs = f.bs) = true := decide_eq_true hbb
      replace hbb := Hid.mk' hbb
      replace hss := Hid.mk' hss
      replace he := Hid.mk' he
      replace hf := Hid.mk' hf
      go_wp2_with fail
      refine wp_region_held_drew (S := fun u => Below wr.heap.size wr u) (by kernel_rfl) ((Below.refl _ _).drew) (fun hHeld => ?_)
      refine wpAnyH_take (i := 0) (oi := ⟨_, _, _, _, _, _⟩) (v := ?_) rfl (by kernel_rfl) (by kernel_rfl) (by kernel_rfl) (fun _ _ _ h => h) (Or.inl ⟨by rfl, ?_⟩) (by assumption) ?_
      rotate_left
      · intro u hSw
        go_simp
        try (with_reducible rfl)
      try simp only [Act.put, List.setIfInBounds_toArray, List.set_cons_zero, List.set_cons_succ]
      refine wpAnyH_take (i := 1) (oi := ⟨_, _, _, _, _, _⟩) (v := ?_) rfl (by kernel_rfl) (by kernel_rfl) (by kernel_rfl) (fun _ _ _ h => h) (Or.inl ⟨by rfl, ?_⟩) (by assumption) ?_
      rotate_left
      · intro u hSw
        go_simp
        try (with_reducible rfl)
      try simp only [Act.put, List.setIfInBounds_toArray, List.set_cons_zero, List.set_cons_succ]
      refine wpAnyH_take (i := 2) (oi := ⟨_, _, _, _, _, _⟩) (v := ?_) rfl (by kernel_rfl) (by kernel_rfl) (by kernel_rfl) (fun _ _ _ h => h) (Or.inl ⟨by rfl, ?_⟩) (by assumption) ?_
      rotate_left
      · intro u hSw
        go_simp
        try (with_reducible rfl)
      try simp only [Act.put, List.setIfInBounds_toArray, List.set_cons_zero, List.set_cons_succ]
      refine wpAnyH_take (i := 3) (oi := ⟨_, _, _, _, _, _⟩) (v := ?_) rfl (by kernel_rfl) (by kernel_rfl) (by kernel_rfl) (fun _ _ _ h => h) (Or.inl ⟨by rfl, ?_⟩) (by assumption) ?_
      rotate_left
      · intro u hSw
        go_simp
        try (with_reducible rfl)
      try simp only [Act.put, List.setIfInBounds_toArray, List.set_cons_zero, List.set_cons_succ]
      refine wpAnyH_take (i := 4) (oi := ⟨_, _, _, _, _, _⟩) rfl (by kernel_rfl) (by kernel_rfl) (by kernel_rfl) (fun _ _ _ h => h) (y24 (by rfl) (.tmp 20) rfl (g) (off + j * 33 + 1) rfl e.sm hoe.s32 (fun u hu => range_below (range_sm re) hu hgl)) (by assumption) ?_
      try simp only [Act.put, List.setIfInBounds_toArray, List.set_cons_zero, List.set_cons_succ]
      refine wpAnyH_take (i := 5) (oi := ⟨_, _, _, _, _, _⟩) (v := ?_) rfl (by kernel_rfl) (by kernel_rfl) (by kernel_rfl) (fun _ _ _ h => h) (Or.inl ⟨by rfl, ?_⟩) (by assumption) ?_
      rotate_left
      · intro u hSw
        go_simp
        try (with_reducible rfl)
      try simp only [Act.put, List.setIfInBounds_toArray, List.set_cons_zero, List.set_cons_succ]
      refine wpAnyH_take (i := 6) (oi := ⟨_, _, _, _, _, _⟩) (v := ?_) rfl (by kernel_rfl) (by kernel_rfl) (by kernel_rfl) (fun _ _ _ h => h) (Or.inl ⟨by rfl, ?_⟩) (by assumption) ?_
      rotate_left
      · intro u hSw
        go_simp
        try (with_reducible rfl)
      try simp only [Act.put, List.setIfInBounds_toArray, List.set_cons_zero, List.set_cons_succ]
      refine wpAnyH_take (i := 7) (oi := ⟨_, _, _, _, _, _⟩) (v := ?_) rfl (by kernel_rfl) (by kernel_rfl) (by kernel_rfl) (fun _ _ _ h => h) (Or.inl ⟨by rfl, ?_⟩) (by assumption) ?_
      rotate_left
      · intro u hSw
        go_simp
        try (with_reducible rfl)
      try simp only [Act.put, List.setIfInBounds_toArray, List.set_cons_zero, List.set_cons_succ]
      refine wpAnyH_take (i := 8) (oi := ⟨_, _, _, _, _, _⟩) (v := ?_) rfl (by kernel_rfl) (by kernel_rfl) (by kernel_rfl) (fun _ _ _ h => h) (Or.inl ⟨by rfl, ?_⟩) (by assumption) ?_
      rotate_left
      · intro u hSw
        go_simp
        try (with_reducible rfl)
      try simp only [Act.put, List.setIfInBounds_toArray, List.set_cons_zero, List.set_cons_succ]
      refine wpAnyH_take (i := 9) (oi := ⟨_, _, _, _, _, _⟩) rfl (by kernel_rfl) (by kernel_rfl) (by kernel_rfl) (fun _ _ _ h => h) (y24 (by rfl) (.tmp 25) rfl (g') (off' + j * 33 + 1) rfl f.sm hof.s32 (fun u hu => range_below (range_sm rf) hu hgl')) (by assumption) ?_
      try simp only [Act.put, List.setIfInBounds_toArray, List.set_cons_zero, List.set_cons_succ]
      refine wpAnyH_take (i := 10) (oi := ⟨_, _, _, _, _, _⟩) (v := ?_) rfl (by kernel_rfl) (by kernel_rfl) (by kernel_rfl) (fun _ _ _ h => h) (Or.inl ⟨by rfl, ?_⟩) (by assumption) ?_
      rotate_left
      · intro u hSw
        go_simp
        try (with_reducible rfl)
      try simp only [Act.put, List.setIfInBounds_toArray, List.set_cons_zero, List.set_cons_succ]
      refine wpAnyH_take (i := 11) (oi := ⟨_, _, _, _, _, _⟩) (v := ?_) rfl (by kernel_rfl) (by kernel_rfl) (by kernel_rfl) (fun _ _ _ h => h) (Or.inl ⟨by rfl, ?_⟩) (by assumption) ?_
      rotate_left
      · intro u hSw
        go_simp
        try (with_reducible rfl)
      try simp only [Act.put, List.setIfInBounds_toArray, List.set_cons_zero, List.set_cons_succ]
      refine wpAnyH_take (i := 12) (oi := ⟨_, _, _, _, _, _⟩) (v := ?_) rfl (by kernel_rfl) (by kernel_rfl) (by kernel_rfl) (fun _ _ _ h => h) (Or.inl ⟨by rfl, ?_⟩) (by assumption) ?_
      rotate_left
      · intro u hSw
        go_simp
        try (with_reducible rfl)
      try simp only [Act.put, List.setIfInBounds_toArray, List.set_cons_zero, List.set_cons_succ]
      refine wpAnyH_take (i := 13) (oi := ⟨_, _, _, _, _, _⟩) (v := ?_) rfl (by kernel_rfl) (by kernel_rfl) (by kernel_rfl) (fun _ _ _ h => h) (Or.inl ⟨by rfl, ?_⟩) (by assumption) ?_
      rotate_left
      · intro u hSw
        go_simp
        try (with_reducible rfl)
      try simp only [Act.put, List.setIfInBounds_toArray, List.set_cons_zero, List.set_cons_succ]
      refine wpAnyH_take (i := 14) (oi := ⟨_, _, _, _, _, _⟩) (v := ?_) rfl (by kernel_rfl) (by kernel_rfl) (by kernel_rfl) (fun _ _ _ h => h) (Or.inl ⟨by rfl, ?_⟩) (by assumption) ?_
      rotate_left
      · intro u hSw
        go_simp
        try (with_reducible rfl)
      try simp only [Act.put, List.setIfInBounds_toArray, List.set_cons_zero, List.set_cons_succ]
      refine wpAnyH_take (i := 15) (oi := ⟨_, _, _, _, _, _⟩) (v := ?_) rfl (by kernel_rfl) (by kernel_rfl) (by kernel_rfl) (fun _ _ _ h => h) (Or.inl ⟨by rfl, ?_⟩) (by assumption) ?_
      rotate_left
      · intro u hSw
        go_simp
        try (with_reducible rfl)
      try simp only [Act.put, List.setIfInBounds_toArray, List.set_cons_zero, List.set_cons_succ]
      refine wpAnyH_take (i := 16) (oi := ⟨_, _, _, _, _, _⟩) (v := ?_) rfl (by kernel_rfl) (by kernel_rfl) (by kernel_rfl) (fun _ _ _ h => h) (Or.inl ⟨by rfl, ?_⟩) (by assumption) ?_
      rotate_left
      · intro u hSw
        have cc := (hSw.cell (p := ⟨g, off + j * 33, none⟩) hgl).trans ce
        go_simp
        try (with_reducible rfl)
      try simp only [Act.put, List.setIfInBounds_toArray, List.set_cons_zero, List.set_cons_succ]
      refine wpAnyH_take (i := 17) (oi := ⟨_, _, _, _, _, _⟩) (v := ?_) rfl (by kernel_rfl) (by kernel_rfl) (by kernel_rfl) (fun _ _ _ h => h) (Or.inl ⟨by rfl, ?_⟩) (by assumption) ?_
      rotate_left
      · intro u hSw
        go_simp
        try (with_reducible rfl)
      try simp only [Act.put, List.setIfInBounds_toArray, List.set_cons_zero, List.set_cons_succ]
      refine wpAnyH_take (i := 18) (oi := ⟨_, _, _, _, _, _⟩) (v := ?_) rfl (by kernel_rfl) (by kernel_rfl) (by kernel_rfl) (fun _ _ _ h => h) (Or.inl ⟨by rfl, ?_⟩) (by assumption) ?_
      rotate_left
      · intro u hSw
        go_simp
        try (with_reducible rfl)
      try simp only [Act.put, List.setIfInBounds_toArray, List.set_cons_zero, List.set_cons_succ]
      refine wpAnyH_take (i := 19) (oi := ⟨_, _, _, _, _, _⟩) (v := ?_) rfl (by kernel_rfl) (by kernel_rfl) (by kernel_rfl) (fun _ _ _ h => h) (Or.inl ⟨by rfl, ?_⟩) (by assumption) ?_
      rotate_left
      · intro u hSw
        go_simp
        try (with_reducible rfl)
      try simp only [Act.put, List.setIfInBounds_toArray, List.set_cons_zero, List.set_cons_succ]
      refine wpAnyH_take (i := 20) (oi := ⟨_, _, _, _, _, _⟩) (v := ?_) rfl (by kernel_rfl) (by kernel_rfl) (by kernel_rfl) (fun _ _ _ h => h) (Or.inl ⟨by rfl, ?_⟩) (by assumption) ?_
      rotate_left
      · intro u hSw
        go_simp
        try (with_reducible rfl)
      try simp only [Act.put, List.setIfInBounds_toArray, List.set_cons_zero, List.set_cons_succ]
      refine wpAnyH_take (i := 21) (oi := ⟨_, _, _, _, _, _⟩) (v := ?_) rfl (by kernel_rfl) (by kernel_rfl) (by kernel_rfl) (fun _ _ _ h => h) (Or.inl ⟨by rfl, ?_⟩) (by assumption) ?_
      rotate_left
      · intro u hSw
        have cc := (hSw.cell (p := ⟨g', off' + j * 33, none⟩) hgl').trans cf
        go_simp
        try (with_reducible rfl)
      try simp only [Act.put, List.setIfInBounds_toArray, List.set_cons_zero, List.set_cons_succ]
      refine wpAnyH_ready (rs := [22]) (by kernel_rfl) (by simp) ?_
      refine AllReadyH.cons (o := ⟨_, _, _, _, _, _⟩) rfl (fun K hK => ?_) AllReadyH.nil
      go_simp
      refine (same01_any _ _ _ _ _ _ _ _ _ _ _ (hoe.body.toBS.here.below (Below.refl _ _).drew) (hof.body.toBS.here.below (Below.refl _ _).drew)).mono ?_; rw [hbd]; rintro q u1 ⟨rfl, rfl⟩
      go_wp2_with fail
      refine hK.out _ _ ((Below.refl _ _).drew) (fun hHeld => ?_)
      clear hK K
      try simp only [Act.put, List.setIfInBounds_toArray, List.set_cons_zero, List.set_cons_succ]
      refine wpAnyH_take (i := 23) (oi := ⟨_, _, _, _, _, _⟩) (v := ?_) rfl (by kernel_rfl) (by kernel_rfl) (by kernel_rfl) (fun _ _ _ h => h) (Or.inl ⟨by rfl, ?_⟩) (by assumption) ?_
      rotate_left
      · intro u hSw
        go_simp
        try (with_reducible rfl)
      try simp only [Act.put, List.setIfInBounds_toArray, List.set_cons_zero, List.set_cons_succ]
      refine wpAnyH_take (i := 24) (oi := ⟨_, _, _, _, _, _⟩) (v := ?_) rfl (by kernel_rfl) (by kernel_rfl) (by kernel_rfl) (fun _ _ _ h => h) (Or.inl ⟨by rfl, ?_⟩) (by assumption) ?_
      rotate_left
      · intro u hSw
        go_simp
        try (with_reducible rfl)
      try simp only [Act.put, List.setIfInBounds_toArray, List.set_cons_zero, List.set_cons_succ]
      refine wpAnyH_done (by kernel_rfl) ?_ _

      go_wp2_with fail
      go_roundw
      case rel => exact ⟨j + 1, by go_num, by omega, hbl.drew⟩
      case measure => simp [intOf]; omega
    · obtain rfl : j = n := by omega
      have hI : ¬ (j : Int) < j := by omega
      go_wp2_with fail
      go_ret
      exact ⟨rfl, hbl⟩
theorem refSum_l (sp : Option Addr) (n cap : Nat) (L : List Int) (N : Nat) (w : World) (hB : BS N w sp n cap L) :
    Calls Try.prog 64 #[.slice sp n cap] w fun e w' => e = .returned (.agg (h8 (shl L))) ∧ Below w.heap.size w w' := by
  have h := refSum_any sp n cap L w hB.len.out hB.nil hB.sl hB.small
  rw [sha_h8] at h
  exact h
end Go.Proofs.Ytlebojbfcolkhaa
/- Layer collide: what is exhibited; the same sums. -/
namespace Go.Proofs.Ytlebojbfcolkhaa
open Go.RowKit
set_option maxRecDepth 100000
set_option linter.unusedVariables false
set_option linter.unusedSimpArgs false

theorem pb_inj {m : Nat} {A B Y Z : List Int} (hA : A.length = 32) (hB : B.length = 32) (hY : Y.length = 32) (hZ : Z.length = 32) (h : pb m A Y = pb m B Z) : A = B ∧ Y = Z := by
  unfold pb at h
  split at h
  · obtain ⟨h1, h2⟩ := List.append_inj (List.cons.inj h).2 (by omega)
    exact ⟨h2, h1⟩
  · obtain ⟨h1, h2⟩ := List.append_inj (List.cons.inj h).2 (by omega)
    exact ⟨h1, h2⟩
theorem list_take_ne {α : Type} {l l' : List α} {j : Nat} {a b : α} (ha : l[j]? = some a) (hb : l'[j]? = some b) (hab : a ≠ b) : l ≠ l' := fun e => by subst e; rw [ha] at hb; exact hab (Option.some.inj hb)
theorem list_ext_take {α : Type} {l l' : List α} (hl : l.length = l'.length) (h : ∀ i, i < l.length → l[i]? = l'[i]?) : l = l' := by
  apply List.ext_getElem?
  intro i
  by_cases hi : i < l.length
  · exact h i hi
  · rw [List.getElem?_eq_none (by omega), List.getElem?_eq_none (by omega)]
set_option maxRecDepth 100000 in
set_option maxHeartbeats 1000000 in
theorem same4_any (N N' : Nat) (sp sp' : Option Addr) (n n' cap cap' : Nat) (ls ls' : List (List Int)) (w : World) (hS : HS N w sp n cap ls) (hS' : HS N' w sp' n' cap' ls') :
    Calls Try.prog 21 #[.slice sp n cap, .slice sp' n' cap'] w fun e w' => e = .returned (.bool (decide (ls = ls'))) ∧ Below w.heap.size w w' := by
  have hS0 := hS.here
  have hS0' := hS'.here
  have hl := hS.len
  have hl' := hS'.len
  have hsm := hS.small
  by_cases hnn : n = n'
  · subst hnn
    have hlen : Hid (ls.length = ls'.length) := Hid.mk' (by rw [← hl.out, ← hl'.out])
    have hnn : ((n : Int) != n) = false := by simp
    go_enter Try.func21, Try.ntmps21
    go_wp2_with fail
    go_loopw [5] (fun q wr => ∃ j : Nat, q = .int .i64 (j : Int) ∧ j ≤ n ∧ Below w.heap.size w wr ∧ Hid (∀ i, i < j → ls[i]? = ls'[i]?)) (fun q _ => n - (intOf q).toNat)
    case atStart => exact ⟨0, rfl, by omega, Below.refl _ _, Hid.mk' (fun i hi => by omega)⟩
    case round =>
      obtain ⟨j, rfl, hj, hbl, hsame⟩ := hrel
      have hS := hS0.below hbl
      have hS' := hS0'.below hbl
      by_cases hlt : j < n
      · have hI : (j : Int) < n := by omega
        obtain ⟨g, off, rfl, hgN, hR⟩ := hS.at0 (by omega)
        obtain ⟨g', off', rfl, hgN', hR'⟩ := hS'.at0 (by omega)
        obtain ⟨X, hX⟩ : ∃ X, ls[j]? = some X := ⟨ls[j]'(by rw [← hl.out]; exact hlt), List.getElem?_eq_getElem _⟩
        obtain ⟨Y, hY⟩ : ∃ X, ls'[j]? = some X := ⟨ls'[j]'(by rw [← hl'.out]; exact hlt), List.getElem?_eq_getElem _⟩
        have hX32 := hS.l32 X (List.mem_of_getElem? hX)
        have hY32 := hS'.l32 Y (List.mem_of_getElem? hY)
        have h1 := hR j X hX
        have h2 := hR' j Y hY
        have hgl : g < wr.heap.size := Nat.lt_of_lt_of_le hgN hbl.size
        have hgl' : g' < wr.heap.size := Nat.lt_of_lt_of_le hgN' hbl.size
        have hne := run_neq24l hX32 hY32
        replace hX := Hid.mk' hX
        replace hY := Hid.mk' hY
        cases hd : decide (X = Y) with
        | true =>
          rw [hd] at hne
          have hXY := Hid.mk' (of_decide_eq_true hd)
          clear hd
          go_wp2_with fail
          refine wp_region_held_drew (S := fun u => Below wr.heap.size wr u) (by kernel_rfl) ((Below.refl _ _).drew) (fun hHeld => ?_)
          refine wpAnyH_take (i := 0) (oi := ⟨_, _, _, _, _, _⟩) (v := ?_) rfl (by kernel_rfl) (by kernel_rfl) (by kernel_rfl) (fun _ _ _ h => h) (Or.inl ⟨by rfl, ?_⟩) (by assumption) ?_
          rotate_left
          · intro u hSw
            go_simp
            try (with_reducible rfl)
          try simp only [Act.put, List.setIfInBounds_toArray, List.set_cons_zero, List.set_cons_succ]
          refine wpAnyH_take (i := 1) (oi := ⟨_, _, _, _, _, _⟩) (v := ?_) rfl (by kernel_rfl) (by kernel_rfl) (by kernel_rfl) (fun _ _ _ h => h) (Or.inl ⟨by rfl, ?_⟩) (by assumption) ?_
          rotate_left
          · intro u hSw
            go_simp
            try (with_reducible rfl)
          try simp only [Act.put, List.setIfInBounds_toArray, List.set_cons_zero, List.set_cons_succ]
          refine wpAnyH_take (i := 2) (oi := ⟨_, _, _, _, _, _⟩) (v := ?_) rfl (by kernel_rfl) (by kernel_rfl) (by kernel_rfl) (fun _ _ _ h => h) (Or.inl ⟨by rfl, ?_⟩) (by assumption) ?_
          rotate_left
          · intro u hSw
            go_simp
            try (with_reducible rfl)
          try simp only [Act.put, List.setIfInBounds_toArray, List.set_cons_zero, List.set_cons_succ]
          refine wpAnyH_take (i := 3) (oi := ⟨_, _, _, _, _, _⟩) rfl (by kernel_rfl) (by kernel_rfl) (by kernel_rfl) (fun _ _ _ h => h) (y24 (by rfl) (.tmp 19) rfl (g) (off + j * 32) rfl X hX32 (fun u hu => range_below h1 hu hgl)) (by assumption) ?_
          try simp only [Act.put, List.setIfInBounds_toArray, List.set_cons_zero, List.set_cons_succ]
          refine wpAnyH_take (i := 4) (oi := ⟨_, _, _, _, _, _⟩) (v := ?_) rfl (by kernel_rfl) (by kernel_rfl) (by kernel_rfl) (fun _ _ _ h => h) (Or.inl ⟨by rfl, ?_⟩) (by assumption) ?_
          rotate_left
          · intro u hSw
            go_simp
            try (with_reducible rfl)
          try simp only [Act.put, List.setIfInBounds_toArray, List.set_cons_zero, List.set_cons_succ]
          refine wpAnyH_take (i := 5) (oi := ⟨_, _, _, _, _, _⟩) (v := ?_) rfl (by kernel_rfl) (by kernel_rfl) (by kernel_rfl) (fun _ _ _ h => h) (Or.inl ⟨by rfl, ?_⟩) (by assumption) ?_
          rotate_left
          · intro u hSw
            go_simp
            try (with_reducible rfl)
          try simp only [Act.put, List.setIfInBounds_toArray, List.set_cons_zero, List.set_cons_succ]
          refine wpAnyH_take (i := 6) (oi := ⟨_, _, _, _, _, _⟩) (v := ?_) rfl (by kernel_rfl) (by kernel_rfl) (by kernel_rfl) (fun _ _ _ h => h) (Or.inl ⟨by rfl, ?_⟩) (by assumption) ?_
          rotate_left
          · intro u hSw
            go_simp
            try (with_reducible rfl)
          try simp only [Act.put, List.setIfInBounds_toArray, List.set_cons_zero, List.set_cons_succ]
          refine wpAnyH_take (i := 7) (oi := ⟨_, _, _, _, _, _⟩) rfl (by kernel_rfl) (by kernel_rfl) (by kernel_rfl) (fun _ _ _ h => h) (y24 (by rfl) (.tmp 23) rfl (g') (off' + j * 32) rfl Y hY32 (fun u hu => range_below h2 hu hgl')) (by assumption) ?_
          try simp only [Act.put, List.setIfInBounds_toArray, List.set_cons_zero, List.set_cons_succ]
          refine wpAnyH_take (i := 8) (oi := ⟨_, _, _, _, _, _⟩) (v := ?_) rfl (by kernel_rfl) (by kernel_rfl) (by kernel_rfl) (fun _ _ _ h => h) (Or.inl ⟨by rfl, ?_⟩) (by assumption) ?_
          rotate_left
          · intro u hSw
            go_simp
            try (with_reducible rfl)
          try simp only [Act.put, List.setIfInBounds_toArray, List.set_cons_zero, List.set_cons_succ]
          refine wpAnyH_done (by kernel_rfl) ?_ _

          go_wp2_with fail
          go_roundw
          case rel =>
            refine ⟨j + 1, by go_num, by omega, hbl.drew, Hid.mk' (fun i hi => ?_)⟩
            by_cases hij : i = j
            · subst hij; rw [hX.out, hY.out, hXY.out]
            · exact hsame.out i (by omega)
          case measure => simp [intOf]; omega
        | false =>
          rw [hd] at hne
          have hfin : Hid (decide (ls = ls') = false) := Hid.mk' (decide_eq_false (list_take_ne hX.out hY.out (of_decide_eq_false hd)))
          clear hd
          go_wp2_with fail
          refine wp_region_held_drew (S := fun u => Below wr.heap.size wr u) (by kernel_rfl) ((Below.refl _ _).drew) (fun hHeld => ?_)
          refine wpAnyH_take (i := 0) (oi := ⟨_, _, _, _, _, _⟩) (v := ?_) rfl (by kernel_rfl) (by kernel_rfl) (by kernel_rfl) (fun _ _ _ h => h) (Or.inl ⟨by rfl, ?_⟩) (by assumption) ?_
          rotate_left
          · intro u hSw
            go_simp
            try (with_reducible rfl)
          try simp only [Act.put, List.setIfInBounds_toArray, List.set_cons_zero, List.set_cons_succ]
          refine wpAnyH_take (i := 1) (oi := ⟨_, _, _, _, _, _⟩) (v := ?_) rfl (by kernel_rfl) (by kernel_rfl) (by kernel_rfl) (fun _ _ _ h => h) (Or.inl ⟨by rfl, ?_⟩) (by assumption) ?_
          rotate_left
          · intro u hSw
            go_simp
            try (with_reducible rfl)
          try simp only [Act.put, List.setIfInBounds_toArray, List.set_cons_zero, List.set_cons_succ]
          refine wpAnyH_take (i := 2) (oi := ⟨_, _, _, _, _, _⟩) (v := ?_) rfl (by kernel_rfl) (by kernel_rfl) (by kernel_rfl) (fun _ _ _ h => h) (Or.inl ⟨by rfl, ?_⟩) (by assumption) ?_
          rotate_left
          · intro u hSw
            go_simp
            try (with_reducible rfl)
          try simp only [Act.put, List.setIfInBounds_toArray, List.set_cons_zero, List.set_cons_succ]
          refine wpAnyH_take (i := 3) (oi := ⟨_, _, _, _, _, _⟩) rfl (by kernel_rfl) (by kernel_rfl) (by kernel_rfl) (fun _ _ _ h => h) (y24 (by rfl) (.tmp 19) rfl (g) (off + j * 32) rfl X hX32 (fun u hu => range_below h1 hu hgl)) (by assumption) ?_
          try simp only [Act.put, List.setIfInBounds_toArray, List.set_cons_zero, List.set_cons_succ]
          refine wpAnyH_take (i := 4) (oi := ⟨_, _, _, _, _, _⟩) (v := ?_) rfl (by kernel_rfl) (by kernel_rfl) (by kernel_rfl) (fun _ _ _ h => h) (Or.inl ⟨by rfl, ?_⟩) (by assumption) ?_
          rotate_left
          · intro u hSw
            go_simp
            try (with_reducible rfl)
          try simp only [Act.put, List.setIfInBounds_toArray, List.set_cons_zero, List.set_cons_succ]
          refine wpAnyH_take (i := 5) (oi := ⟨_, _, _, _, _, _⟩) (v := ?_) rfl (by kernel_rfl) (by kernel_rfl) (by kernel_rfl) (fun _ _ _ h => h) (Or.inl ⟨by rfl, ?_⟩) (by assumption) ?_
          rotate_left
          · intro u hSw
            go_simp
            try (with_reducible rfl)
          try simp only [Act.put, List.setIfInBounds_toArray, List.set_cons_zero, List.set_cons_succ]
          refine wpAnyH_take (i := 6) (oi := ⟨_, _, _, _, _, _⟩) (v := ?_) rfl (by kernel_rfl) (by kernel_rfl) (by kernel_rfl) (fun _ _ _ h => h) (Or.inl ⟨by rfl, ?_⟩) (by assumption) ?_
          rotate_left
          · intro u hSw
            go_simp
            try (with_reducible rfl)
          try simp only [Act.put, List.setIfInBounds_toArray, List.set_cons_zero, List.set_cons_succ]
          refine wpAnyH_take (i := 7) (oi := ⟨_, _, _, _, _, _⟩) rfl (by kernel_rfl) (by kernel_rfl) (by kernel_rfl) (fun _ _ _ h => h) (y24 (by rfl) (.tmp 23) rfl (g') (off' + j * 32) rfl Y hY32 (fun u hu => range_below h2 hu hgl')) (by assumption) ?_
          try simp only [Act.put, List.setIfInBounds_toArray, List.set_cons_zero, List.set_cons_succ]
          refine wpAnyH_take (i := 8) (oi := ⟨_, _, _, _, _, _⟩) (v := ?_) rfl (by kernel_rfl) (by kernel_rfl) (by kernel_rfl) (fun _ _ _ h => h) (Or.inl ⟨by rfl, ?_⟩) (by assumption) ?_
          rotate_left
          · intro u hSw
            go_simp
            try (with_reducible rfl)
          try simp only [Act.put, List.setIfInBounds_toArray, List.set_cons_zero, List.set_cons_succ]
          refine wpAnyH_done (by kernel_rfl) ?_ _

          go_wp2_with fail
          go_ret
          exact ⟨by rw [hfin.out]; rfl, hbl.drew⟩
      · obtain rfl : j = n := by omega
        have hI : ¬ (j : Int) < j := by omega
        have hfin : Hid (decide (ls = ls') = true) := Hid.mk' (decide_eq_true (list_ext_take hlen.out (by rw [← hl.out]; exact hsame.out)))
        go_wp2_with fail
        go_ret
        exact ⟨by rw [hfin.out]; rfl, hbl⟩
  · have hne : ((n : Int) != n') = true := by simp; omega
    have hfin : Hid (decide (ls = ls') = false) := Hid.mk' (decide_eq_false (fun e => hnn (by rw [hl.out, hl'.out, e])))
    replace hnn := Hid.mk' hnn
    go_enter Try.func21, Try.ntmps21
    go_wp2_with fail
    go_ret
    exact ⟨by rw [hfin.out]; rfl, Below.refl _ _⟩
end Go.Proofs.Ytlebojbfcolkhaa
