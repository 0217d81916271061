/- The law MemPlays: its walk. -/
import Derived.Test.YtndonaebdbbofaaX26
namespace Go.Proofs.Ytndonaebdbbofaa
open Go.RowKit
set_option maxRecDepth 100000
set_option linter.unusedVariables false
set_option linter.unusedSimpArgs false


set_option maxHeartbeats 1000000 in
theorem plays_no (sp : Option Addr) (n cap : Nat) (L : List Int) (sq : Option Addr) (k cq : Nat) (w : World) (hM : MS w.heap.size w sp n cap L) (hU : ∀ k, U64 (L.getD k 0)) (h : szB L.length = false) :
    Calls Try.prog 3 #[.slice sp n cap, .slice sq k cq] w fun e w' => e = .returned (.bool true) ∧ Below w.heap.size w w' := by
  have hnew := new_no sp n cap L w.heap.size w hM hU h
  have hsm := hM.small
  have hsz := fun U => refSize_any (n : Int) U (by omega)
  rw [szI_nat, show szB n = false by rw [hM.len.out]; exact h] at hsz
  clear h hM
  go_enter Try.func3, Try.ntmps3
  go_wp2_with (first
    | (go_at_call 9; go_must (refine hnew.mono ?_; rintro e w1 ⟨rfl, hb1⟩))
    | (go_at_call 10; go_must (refine (hsz _).mono ?_; rintro e w2 ⟨rfl, h⟩; replace h := h.symm; subst h))
    | (go_at_call 11; go_must (refine (anchored_anyM _).mono ?_; rintro e w3 ⟨rfl, hb3⟩)))
  go_ret
  exact ⟨rfl, hb1.trans (hb3.mono hb1.size)⟩
set_option maxHeartbeats 20000000 in
theorem plays_ok (sp : Option Addr) (n cap d m : Nat) (L : List Int) (sq : Option Addr) (k cq : Nat) (os : List Sc) (w : World) (hM : MS w.heap.size w sp n cap L) (hU : ∀ k, U64 (L.getD k 0)) (hSC : SC w.heap.size w sq k cq os) (hd : d ≤ 12) (hn : Hid (n = 2 ^ d)) (hm : Hid (m + 1 = 2 * n)) :
    Calls Try.prog 3 #[.slice sp n cap, .slice sq k cq] w fun e w' => e = .returned (.bool true) ∧ Below w.heap.size w w' := by
  have hnew := new_ok sp n cap d m L w.heap.size w hM hU hd hn hm
  have hsm := hM.small
  have hsz := fun U => refSize_any (n : Int) U (by omega)
  rw [szI_nat, show szB n = true by rw [hn.out]; exact pow_szB hd] at hsz
  have hn4 : n ≤ 4096 := by rw [hn.out]; exact pow12 hd
  have hn0 : 0 < n := by rw [hn.out]; exact Nat.pow_pos (by omega)
  have hkb := hSC.small
  have hkc := hSC.le
  obtain ⟨g0, off0, rfl, -⟩ := hM.at0 hn0
  go_enter Try.func3, Try.ntmps3
  go_upto_region 6 with (first
    | (go_at_call 9; go_must (refine hnew.mono ?_; rintro e w1 ⟨g, gt, ct, gl, cl, rfl, hME, hg, hgt, hgl, hb1⟩))
    | (go_at_call 10; go_must (refine (hsz _).mono ?_; rintro e w2 ⟨rfl, h⟩; replace h := h.symm; subst h)))
  have hlit : (w1.alloc (.cells #[] 30)).ownsRow w1.heap.size 30 1 (.slice (some ⟨w1.heap.size, 0, none⟩) 0 0) 0 (by64 []) := World.ownsRow_lit _ _ _ (Nat.le_refl _) (by unfold maxLen; omega) rfl
  have hb1s := hb1.size
  have hS' := hM.below (hb1.alloc hb1s (.cells #[] 30))
  clear hnew hsz
  go_upto_region 7 with (at_builtin; go_must (refine append_words (by rfl) (.tmp 44) (.tmp 45) (by rfl) w1.heap.size _ (by rfl) hlit (some ⟨g0, off0, none⟩) n cap L (by rfl) hS' (by simp) ?_; intro v2 w2 hown2 hg2))
  obtain ⟨gw, cw, rfl, -, hgw, hcw1, hcw2, hMW⟩ := own64 hown2 hn0
  have hB2 : Below w1.heap.size w1 w2 := ((Below.refl _ _).alloc (Nat.le_refl _) _).grown hg2 (by simp) (fun k e => by simp [Value.ownBlock] at e; omega)
  have hlt := hME.lt
  have hPR : PR w g d n m L gt ct gl cl gw w2 := ⟨hME.keep hB2, hMW, hb1.trans (hB2.mono hb1s), hU, hg, hgt, hgl, by omega, by omega, by omega, by omega⟩
  clear hlit hS' hown2 hg2 hMW hB2 hlt hME hg hgt hgl hb1 hb1s hgw hM hU
  go_wp2_with fail
  go_loopw [8] (fun q wr => ∃ (j : Nat) (L' : List Int), q = .int .i64 (j : Int) ∧ j ≤ k ∧ PR w g d n m L' gt ct gl cl gw wr) (fun q _ => k - (intOf q).toNat)
  case atStart => exact ⟨0, L, rfl, by omega, hPR⟩
  case round =>
    clear hPR
    obtain ⟨j, L', rfl, hj, hPr⟩ := hrel
    by_cases hlt : j < k
    · have hI : (j : Int) < k := by omega
      obtain ⟨gs, offs, rfl, hgs, hRg⟩ := (hSC.below hPr.bel).at0 (by omega)
      obtain ⟨o, ho⟩ : ∃ o, os[j]? = some o := ⟨os[j]'(by rw [← hSC.len.out]; exact hlt), List.getElem?_eq_getElem _⟩
      have hro := hRg j o ho
      obtain ⟨hxu, hyu, hc0, hc255⟩ := hSC.ok o (List.mem_of_getElem? ho)
      clear hRg ho
      obtain ⟨c, x, y⟩ := o
      replace hxu : U64 x := hxu
      replace hyu : U64 y := hyu
      have hjcq : j < cq := by omega
      have hnn : (n : Int) % 18446744073709551616 = n := by omega
      have hPR1 := hPr.keep (alloc_bel' wr (.cells (scA c x y) 32))
      have O1 := Arr.new wr 32 (scA c x y)
      have hsr := hPr.bel.size
      have hltr := hPr.me.lt
      go_upto_region 11 with (first
        | (refine atL 32 (.tmp 55) ?_; go_must (refine ld32 (by rfl) (.tmp 55) (by rfl) gs (offs + j * 3) (by rfl) c x y hro ?_))
        | (refine atS 32 (.tmp 9) (.tmp 56) ?_; go_must (refine st32n (by rfl) (.tmp 9) (.tmp 56) (by rfl) wr wr.heap.size rfl (by rfl) c x y (by rfl) (by rfl) ?_)))
      generalize hg : wr.alloc (.cells (scA c x y) 32) = V at *
      clear hg hro hPr
      generalize wr.heap.size = gO at *
      have o0 : V.cell? ⟨gO, 0, none⟩ = some (.int .u8 c) := O1.cell 0
      have o1 : V.cell? ⟨gO, 1, none⟩ = some (.int .u64 x) := O1.cell 1
      have o2 : V.cell? ⟨gO, 2, none⟩ = some (.int .u64 y) := O1.cell 2
      have hx0 := hxu.1
      replace hc0 : 0 ≤ c := hc0
      have hL' := hPR1.me.len
      have hME := hPR1.me
      have hMWc := fun i (hi : i < n) => hPR1.mw.cell (t := i) (by rw [hL']; exact hi)
      have hMS := MW.ms (n := n) (cap := cw) hPR1.mw hL'.symm (by omega) ⟨hcw1, hcw2⟩
      have haE : ∀ (z : Int), Hid (aE z n = if z < n then 0 else 2) := fun z => Hid.mk' rfl
      by_cases e0 : c = 0
      · subst e0
        have hget := get_any g d n m L' gt ct gl cl x hxu V hME
        unfold aE at hget
        by_cases hin : x < n
        · rw [if_pos hin] at hget
          obtain ⟨i, rfl⟩ : ∃ i : Nat, x = i := ⟨x.toNat, by omega⟩
          rw [Int.toNat_natCast] at hget
          have hi : i < n := by omega
          have hcw := hMWc i hi
          have hicw : i < cw := by omega
          generalize L'.getD i 0 = z at *
          have hzz : (z != z) = false := by simp
          clear hMWc hMS haE
          go_wp2_with (go_at_call 12; go_must (refine hget.mono ?_; rintro e w3 ⟨rfl, h⟩; replace h := h.symm; subst h))
          go_roundw
          case rel => exact ⟨j + 1, L', by go_num, by omega, hPR1⟩
          case measure => simp [intOf]; omega
        · rw [if_neg hin, getD_none (by rw [hL']; omega)] at hget
          clear hMWc hMS haE
          go_wp2_with (go_at_call 12; go_must (refine hget.mono ?_; rintro e w3 ⟨rfl, h⟩; replace h := h.symm; subst h))
          go_roundw
          case rel => exact ⟨j + 1, L', by go_num, by omega, hPR1⟩
          case measure => simp [intOf]; omega
      by_cases e1 : c = 1
      · subst e1
        have hset := set_any g d n m L' gt ct gl cl x y hxu V hME
        unfold aE at hset
        by_cases hin : x < n
        · rw [if_pos hin] at hset
          obtain ⟨i, rfl⟩ : ∃ i : Nat, x = i := ⟨x.toNat, by omega⟩
          rw [Int.toNat_natCast] at hset
          have hi : i < n := by omega
          have hicw : i < cw := by omega
          have hOne : gO ≠ gt ∧ gO ≠ gl := ⟨by omega, by omega⟩
          clear hMWc hMS haE
          go_wp2_with (go_at_call 13; go_must (refine hset.mono ?_; rintro e w3 ⟨rfl, hE3, hC3⟩; have hMW3 := (hPR1.chg hE3 hC3).1; have q1 := (World.cell?_of_block (a := ⟨gO, 1, none⟩) (hC3.block gO O1.lt (by rintro (h | h); exact hOne.1 h; exact hOne.2 h))).trans o1; have q2 := (World.cell?_of_block (a := ⟨gO, 2, none⟩) (hC3.block gO O1.lt (by rintro (h | h); exact hOne.1 h; exact hOne.2 h))).trans o2; have hcw := hMW3.cell (t := i) (by rw [hL']; exact hi); have hfw := hMW3.frozen (i := i)))
          go_roundw
          case rel => exact ⟨j + 1, _, by go_num, by omega, hPR1.set hE3 hC3 hyu hi⟩
          case measure => simp [intOf]; omega
        · rw [if_neg hin] at hset
          clear hMWc hMS haE
          go_wp2_with (go_at_call 13; go_must (refine hset.mono ?_; rintro e w3 ⟨rfl, hE3, hC3⟩))
          go_roundw
          case rel => exact ⟨j + 1, L', by go_num, by omega, hPR1.noset hE3 hC3 (by omega)⟩
          case measure => simp [intOf]; omega
      by_cases e2 : c = 2
      · subst e2
        have hpv := prove_any g d n m L' gt ct gl cl x hxu V hME
        have hrp := fun U hM => refProve_any (some ⟨gw, 0, none⟩) n cw d L' U.heap.size x hxu U hM hd hn
        unfold PvPost at hpv hrp
        obtain ⟨kk, hkk⟩ : ∃ kk, kk = (pv d L' x).length := ⟨_, rfl⟩
        rw [← hkk] at hpv hrp
        have hcc : (aE x L'.length != aE x L'.length) = false := by simp
        generalize aE x L'.length = ce at *
        generalize pv d L' x = ps at *
        clear hkk
        clear hMWc haE
        go_wp2_with (first
          | (go_at_call 14; go_must (refine hpv.mono ?_; rintro e w3 ⟨s3, k3, c3, rfl, rfl, hH3, -, hb3⟩; have q1 := (hb3.cell (p := ⟨gO, 1, none⟩) O1.lt).trans o1; have hMS3 := hMS.below hb3; have hs3 := hb3.size))
          | (go_at_call 15; go_must (refine (hrp w3 (hMS3.mono hs3)).mono ?_; rintro e w4 ⟨s4, k4, c4, rfl, rfl, hH4, -, hb4⟩; have hH34 := hH3.below hb4))
          | (go_at_call 16; go_must (refine (same_true _ _ s3 s4 _ c3 c4 ps w4 hH34 hH4).mono ?_; rintro e w5 ⟨rfl, hb5⟩)))
        have hB5 := (hb3.trans (hb4.mono hs3)).trans (hb5.mono (by have := hb4.size; omega))
        go_roundw
        case rel => exact ⟨j + 1, L', by go_num, by omega, hPR1.keep hB5⟩
        case measure => simp [intOf]; omega
      by_cases e3 : c = 3
      · subst e3
        have hrt := refRootM_any (some ⟨gw, 0, none⟩) n cw L' V.heap.size V hMS
        have hmr := fun U hE => mroot_any g d n m L' gt ct gl cl U hE
        have hRl := rW_len L'
        generalize rW L' = R at *
        generalize eW L' = ce at *
        have hne := run_ne24 hRl
        clear hMWc hMS haE
        go_upto_region 30 with (first
          | (go_at_call 17; go_must (refine hrt.mono ?_; rintro e w3 ⟨rfl, hb3⟩))
          | (refine atS 43 (.tmp 18) (.tmp 159) ?_; go_must (refine st24n (by rfl) (.tmp 18) (.tmp 159) (by rfl) w3 w3.heap.size rfl (by rfl) R (by rfl) (by rfl) hRl ?_)))
        have Q3 := Arr.new w3 43 (h8 R)
        have D3 : Below V.heap.size V (w3.alloc (.cells (h8 R) 43)) := hb3.alloc hb3.size _
        generalize hg3 : w3.alloc (.cells (h8 R) 43) = V3 at *
        clear hg3
        generalize w3.heap.size = g3 at *
        have hE3 := hME.keep D3
        refine wp_region_held_drew (S := fun u => Arr u g3 43 (h8 R)) (by kernel_rfl) Q3 (fun hHeld => ?_)
        refine wpAnyH_take (i := 0) (oi := ⟨_, _, _, _, _, _⟩) (v := ?_) rfl (by kernel_rfl) (by kernel_rfl) (by kernel_rfl) (fun _ _ _ h => h) (Or.inl ⟨by rfl, ?_⟩) (by assumption) ?_
        rotate_left
        · intro u hSw
          go_simp
          try (with_reducible rfl)
        try simp only [Act.put, List.setIfInBounds_toArray, List.set_cons_zero, List.set_cons_succ]
        refine wpAnyH_take (i := 2) (oi := ⟨_, _, _, _, _, _⟩) rfl (by kernel_rfl) (by kernel_rfl) (by kernel_rfl) (fun _ _ _ h => h) (y24 (by rfl) (.tmp 18) rfl (g3) (0) rfl R hRl (fun u hu => hu.range)) (by assumption) ?_
        try simp only [Act.put, List.setIfInBounds_toArray, List.set_cons_zero, List.set_cons_succ]
        refine wpAnyH_ready (rs := [1]) (by kernel_rfl) (by simp) ?_
        refine AllReadyH.cons (o := ⟨_, _, _, _, _, _⟩) rfl (fun K hK => ?_) AllReadyH.nil
        go_simp
        refine (hmr _ (hE3.keep ((Below.refl _ _).drew))).mono ?_; rintro e u4 ⟨rfl, hb4⟩; have D4 : Below V3.heap.size V3 u4 := ((Below.refl _ _).drew).trans (hb4.mono (by simp))
        go_wp2_with fail
        refine hK.out _ _ (Q3.below D4 Q3.lt) (fun hHeld => ?_)
        clear hK K
        try simp only [Act.put, List.setIfInBounds_toArray, List.set_cons_zero, List.set_cons_succ]
        refine wpAnyH_take (i := 3) (oi := ⟨_, _, _, _, _, _⟩) (v := ?_) rfl (by kernel_rfl) (by kernel_rfl) (by kernel_rfl) (fun _ _ _ h => h) (Or.inl ⟨by rfl, ?_⟩) (by assumption) ?_
        rotate_left
        · intro u hSw
          go_simp
          try (with_reducible rfl)
        try simp only [Act.put, List.setIfInBounds_toArray, List.set_cons_zero, List.set_cons_succ]
        refine wpAnyH_done (by kernel_rfl) ?_ _
        go_wp2_with fail
        go_roundw
        case rel => exact ⟨j + 1, L', by go_num, by omega, hPR1.keep (D3.trans (D4.mono D3.size))⟩
        case measure => simp [intOf]; omega
      by_cases e4 : c = 4
      · subst e4
        have hws := words_anyM g d n m L' gt ct gl cl V hME
        clear hMWc haE
        go_wp2_with (first
          | (go_at_call 20; go_must (refine hws.mono ?_; rintro e w3 ⟨gm, cm, rfl, hgm, hcm1, hcm2, hMW3, hb3⟩; have hMS3 := (hMS.below hb3).mono hb3.size; have hMSm := MW.ms (n := n) (cap := cm) hMW3 hL'.symm (by omega) ⟨hcm1, hcm2⟩))
          | (go_at_call 19; go_must (refine (sameW_true _ _ _ _ n cm cw L' w3 hMSm hMS3).mono ?_; rintro e w4 ⟨rfl, hb4⟩)))
        go_roundw
        case rel => exact ⟨j + 1, L', by go_num, by omega, hPR1.keep (hb3.trans (hb4.mono hb3.size))⟩
        case measure => simp [intOf]; omega
      · have f0 : (c == 0) = false := by simpa using e0
        have f1 : (c == 1) = false := by simpa using e1
        have f2 : (c == 2) = false := by simpa using e2
        have f3 : (c == 3) = false := by simpa using e3
        have f4 : (c == 4) = false := by simpa using e4
        clear hMWc hMS haE
        go_wp2_with fail
        go_roundw
        case rel => exact ⟨j + 1, L', by go_num, by omega, hPR1⟩
        case measure => simp [intOf]; omega
    · obtain rfl : j = k := by omega
      have hI : ¬ (j : Int) < j := by omega
      have hB := hPr.bel
      go_wp2_with (go_at_call 11; go_must (refine (anchored_anyM _).mono ?_; rintro e w3 ⟨rfl, hb3⟩))
      go_ret
      exact ⟨rfl, hB.trans (hb3.mono hB.size)⟩
end Go.Proofs.Ytndonaebdbbofaa
