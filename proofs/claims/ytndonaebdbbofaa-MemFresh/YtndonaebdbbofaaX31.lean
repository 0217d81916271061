/- The law MemFresh. -/
import Derived.Test.YtndonaebdbbofaaX26
import Derived.Test.YtndonaebdbbofaaX17
namespace Go.Proofs.Ytndonaebdbbofaa
open Go.RowKit
set_option maxRecDepth 100000
set_option linter.unusedVariables false
set_option linter.unusedSimpArgs false


def X6 : List Int := 6 :: List.replicate 31 0
theorem lit6 : ∃ Y : List Int, Y.length = 32 ∧ Hid (Value.agg #[.int .u8 6, .int .u8 0, .int .u8 0, .int .u8 0, .int .u8 0, .int .u8 0, .int .u8 0, .int .u8 0, .int .u8 0, .int .u8 0, .int .u8 0, .int .u8 0, .int .u8 0, .int .u8 0, .int .u8 0, .int .u8 0, .int .u8 0, .int .u8 0, .int .u8 0, .int .u8 0, .int .u8 0, .int .u8 0, .int .u8 0, .int .u8 0, .int .u8 0, .int .u8 0, .int .u8 0, .int .u8 0, .int .u8 0, .int .u8 0, .int .u8 0, .int .u8 0] = .agg (h8 Y)) := ⟨X6, rfl, Hid.mk' rfl⟩
theorem own_ms {w : World} {base n : Nat} {v : Value} {L : List Int} (h : w.ownsRow base 30 1 v n (by64 L)) (hn : n = L.length) (hs : n ≤ 17592186044416) : ∃ sp cap, v = .slice sp n cap ∧ MS w.heap.size w sp n cap L := by
  by_cases h0 : 0 < n
  · obtain ⟨gm, cap, rfl, -, -, h1, h2, hM⟩ := own64 h h0
    exact ⟨_, cap, rfl, hM.ms hn hs ⟨h1, h2⟩⟩
  · obtain rfl : n = 0 := by omega
    obtain rfl : L = [] := List.eq_nil_of_length_eq_zero hn.symm
    obtain ⟨-, ⟨rfl, -⟩ | ⟨g, cap, cur, rfl, hg, hh, hnc, hcm, -⟩⟩ := h
    · exact ⟨none, 0, rfl, MS.nil0 _ _⟩
    · exact ⟨_, cap, rfl, ⟨rfl, (fun e => by cases e), by omega, by unfold maxLen at hcm; omega, by omega, fun h => by omega⟩⟩
set_option maxHeartbeats 1000000 in
theorem fresh_no (sp : Option Addr) (n cap : Nat) (L : List Int) (w : World) (hM : MS w.heap.size w sp n cap L) (hU : ∀ k, U64 (L.getD k 0)) (h : szB L.length = false) :
    Calls Try.prog 8 #[.slice sp n cap] w fun e w' => e = .returned (.bool true) ∧ Below w.heap.size w w' := by
  have hsm := hM.small
  have hln := hM.len
  have hsz := fun U => refSize_any (n : Int) U (by omega)
  rw [szI_nat, show szB n = false by rw [hM.len.out]; exact h] at hsz
  have hnew := fun (s : Option Addr) (c : Nat) (U : World) (hM : MS U.heap.size U s n c L) => new_no s n c L U.heap.size U hM hU h
  have hlit : (w.alloc (.cells #[] 30)).ownsRow w.heap.size 30 1 (.slice (some ⟨w.heap.size, 0, none⟩) 0 0) 0 (by64 []) := World.ownsRow_lit _ _ _ (Nat.le_refl _) (by unfold maxLen; omega) rfl
  have hS' := hM.below (alloc_bel' w (.cells #[] 30))
  clear h hM
  go_enter Try.func8, Try.ntmps8
  go_wp2_with (first
    | (refine atA (.tmp 18) (.tmp 19) ?_; go_must (refine append_words (by rfl) (.tmp 18) (.tmp 19) (by rfl) w.heap.size _ (by rfl) hlit sp n cap L (by rfl) hS' (by simp) ?_; intro v2 w2 hown2 hg2; obtain ⟨s2, c2, rfl, hM2⟩ := own_ms hown2 hln.out hsm; have hB2 : Below w.heap.size w w2 := ((Below.refl _ _).alloc (Nat.le_refl _) _).grown hg2 (by simp) (fun k e => by simp [Value.ownBlock] at e; omega)))
    | (go_at_call 9; go_must (refine (hnew _ _ _ hM2).mono ?_; rintro e w3 ⟨rfl, hb3⟩; have hB3 := hB2.trans (hb3.mono hB2.size)))
    | (go_at_call 10; go_must (refine (hsz _).mono ?_; rintro e w2 ⟨rfl, h⟩; replace h := h.symm; subst h))
    | (go_at_call 11; go_must (refine (anchored_anyM _).mono ?_; rintro e w4 ⟨rfl, hb4⟩)))
  go_ret
  exact ⟨rfl, hB3.trans (hb4.mono hB3.size)⟩
/-- A list of words that is written over beside a memory. -/
structure FW (w : World) (g d n m : Nat) (L : List Int) (gt ct gl cl gw : Nat) (wr : World) : Prop where
  me : ME wr g d n m L gt ct gl cl
  mw : ∃ Lx, MW wr gw Lx ∧ Lx.length = n
  bel : Below w.heap.size w wr
  h4 : w.heap.size ≤ gw
  n1 : gw ≠ g
  n2 : gw ≠ gt
  n3 : gw ≠ gl
theorem FW.set {w : World} {g d n m i : Nat} {L : List Int} {gt ct gl cl gw : Nat} {wr : World} (h : FW w g d n m L gt ct gl cl gw wr) (hi : i < n) (y : Int) : FW w g d n m L gt ct gl cl gw (wr.setCell ⟨gw, i, none⟩ (.int .u64 y)) := by
  obtain ⟨Lx, hW, hl⟩ := h.mw
  refine { h with me := h.me.block (fun k hk => Below.heap_setCell _ _ _ _ ?_), mw := ⟨_, hW.set (by rw [hl]; exact hi) y, by rw [List.length_set]; exact hl⟩, bel := h.bel.setCell (p := ⟨gw, i, none⟩) h.h4 _ }
  rcases hk with rfl | rfl | rfl
  · exact h.n1.symm
  · exact h.n2.symm
  · exact h.n3.symm
set_option maxHeartbeats 20000000 in
theorem fresh_ok (sp : Option Addr) (n cap d m : Nat) (L : List Int) (w : World) (hM : MS w.heap.size w sp n cap L) (hU : ∀ k, U64 (L.getD k 0)) (hd : d ≤ 12) (hn : Hid (n = 2 ^ d)) (hm : Hid (m + 1 = 2 * n)) :
    Calls Try.prog 8 #[.slice sp n cap] w fun e w' => e = .returned (.bool true) ∧ Below w.heap.size w w' := by
  obtain ⟨Y6, hY32, hY6⟩ := lit6
  have hsm := hM.small
  have hn4 : n ≤ 4096 := by rw [hn.out]; exact pow12 hd
  have hn0 : 0 < n := by rw [hn.out]; exact Nat.pow_pos (by omega)
  have hL : Hid (L.length = n) := Hid.mk' hM.len.out.symm
  have hnew := fun (s : Option Addr) (c : Nat) (U : World) (hM : MS U.heap.size U s n c L) => new_ok s n c d m L U.heap.size U hM hU hd hn hm
  have hlit : (w.alloc (.cells #[] 30)).ownsRow w.heap.size 30 1 (.slice (some ⟨w.heap.size, 0, none⟩) 0 0) 0 (by64 []) := World.ownsRow_lit _ _ _ (Nat.le_refl _) (by unfold maxLen; omega) rfl
  have hS' := hM.below (alloc_bel' w (.cells #[] 30))
  go_enter Try.func8, Try.ntmps8
  go_upto_region 5 with (first
    | (refine atA (.tmp 18) (.tmp 19) ?_; go_must (refine append_words (by rfl) (.tmp 18) (.tmp 19) (by rfl) w.heap.size _ (by rfl) hlit sp n cap L (by rfl) hS' (by simp) ?_; intro v2 w2 hown2 hg2; obtain ⟨gw, cw, rfl, -, hgw, hcw1, hcw2, hMW2⟩ := own64 hown2 hn0; have hB2 : Below w.heap.size w w2 := ((Below.refl _ _).alloc (Nat.le_refl _) _).grown hg2 (by simp) (fun k e => by simp [Value.ownBlock] at e; omega); have hMS2 := MW.ms (n := n) (cap := cw) hMW2 hL.out.symm (by omega) ⟨hcw1, hcw2⟩))
    | (go_at_call 9; go_must (refine (hnew _ _ _ hMS2).mono ?_; rintro e w3 ⟨g, gt, ct, gl, cl, rfl, hME3, hg3, hgt3, hgl3, hb3⟩)))
  have hgw2 := hMW2.lt
  have hF3 : FW w g d n m L gt ct gl cl gw w3 := ⟨hME3, ⟨L, hMW2.below hb3 hgw2, hL.out⟩, hB2.trans (hb3.mono hB2.size), hgw, by omega, by omega, by omega⟩
  clear hlit hS' hown2 hg2 hMW2 hB2 hMS2 hME3 hb3 hgw2 hnew hg3 hgt3 hgl3 hgw
  go_wp2_with fail
  go_loopw [6] (fun q wr => ∃ (j : Nat), q = .int .i64 (j : Int) ∧ j ≤ n ∧ FW w g d n m L gt ct gl cl gw wr) (fun q _ => n - (intOf q).toNat)
  case atStart => exact ⟨0, rfl, by omega, hF3⟩
  case round =>
    clear hF3
    obtain ⟨j, rfl, hj, hF⟩ := hrel
    by_cases hlt : j < n
    · have hI : (j : Int) < n := by omega
      have hjc : j < cw := by omega
      obtain ⟨Lx, hMW, hLx⟩ := hF.mw
      have hc := hMW.cell (t := j) (by rw [hLx]; exact hlt)
      have hfz := hMW.frozen (i := j)
      have hF' := fun y => hF.set hlt y
      generalize Lx.getD j 0 = z at *
      clear hLx hMW
      go_wp2_with fail
      go_roundw
      case rel => exact ⟨j + 1, by go_num, by omega, hF' _⟩
      case measure => simp [intOf]; omega
    · obtain rfl : j = n := by omega
      have hI : ¬ (j : Int) < j := by omega
      have hB := hF.bel
      have hE := hF.me
      have hlt3 := hE.lt
      have hws := words_anyM g d j m L gt ct gl cl wr hE
      go_upto_region 10 with (go_at_call 20; go_must (refine hws.mono ?_; rintro e w4 ⟨gm, cm, rfl, hgm, hcm1, hcm2, hMW4, hb4⟩))
      have hF4 : FW w g d j m L gt ct gl cl gm w4 := ⟨hE.keep hb4, ⟨L, hMW4, hL.out⟩, hB.trans (hb4.mono hB.size), by have := hB.size; omega, by omega, by omega, by omega⟩
      clear hF hB hE hlt3 hws hgm hMW4 hb4
      go_wp2_with fail
      go_loopw [8] (fun q wr => ∃ (i : Nat), q = .int .i64 (i : Int) ∧ i ≤ j ∧ FW w g d j m L gt ct gl cl gm wr) (fun q _ => j - (intOf q).toNat)
      case atStart => exact ⟨0, rfl, by omega, hF4⟩
      case round =>
        clear hF4
        obtain ⟨i, rfl, hi, hF⟩ := hrel
        by_cases hlt : i < j
        · have hI2 : (i : Int) < j := by omega
          have hic : i < cm := by omega
          obtain ⟨Lx, hMW, hLx⟩ := hF.mw
          have hc := hMW.cell (t := i) (by rw [hLx]; exact hlt)
          have hfz := hMW.frozen (i := i)
          have hF' := fun y => hF.set hlt y
          generalize Lx.getD i 0 = z at *
          clear hLx hMW
          go_wp2_with fail
          go_roundw
          case rel => exact ⟨i + 1, by go_num, by omega, hF' _⟩
          case measure => simp [intOf]; omega
        · obtain rfl : i = j := by omega
          have hI2 : ¬ (i : Int) < i := by omega
          have hB := hF.bel
          have hE := hF.me
          have hlt3 := hE.lt
          have h0u : U64 0 := ⟨by omega, by omega⟩
          have hpv := fun U hE => prove_any g d i m L gt ct gl cl 0 h0u U hE
          have hrp := fun U hM => refProve_any sp i cap d L w.heap.size 0 h0u U hM hd hn
          have eA : aE 0 i = 0 := if_pos (by omega)
          unfold PvPost at hpv hrp
          rw [hL.out, eA] at hpv hrp
          have hkd := pv_len d L 0
          obtain ⟨kk, hkk⟩ : ∃ kk, kk = (pv d L 0).length := ⟨_, rfl⟩
          rw [← hkk] at hpv hrp hkd
          have hkk1 : kk ≤ 12 := by omega
          clear hkk hkd
          generalize pv d L 0 = ps at *
          have hrt := fun U hM => refRootM_any sp i cap L w.heap.size U hM
          have hmr := fun U hE => mroot_any g d i m L gt ct gl cl U hE
          have hws := fun U hE => words_anyM g d i m L gt ct gl cl U hE
          have hRl := rW_len L
          generalize rW L = R at *
          generalize eW L = cR at *
          have hEq := run_eq24 hRl hRl
          rw [decide_eq_true rfl] at hEq
          go_upto_region 15 with (go_at_call 14; go_must (refine (hpv _ hE).mono ?_; rintro e w5 ⟨s5, k5, c5, rfl, rfl, hH5, hown5, hb5⟩))
          have hP0 : 0 < k5 → ∃ gp, s5 = some ⟨gp, 0, none⟩ ∧ wr.heap.size ≤ gp ∧ w5.there gp 0 (k5 * 32) := own_there hown5
          have hle5 := hH5.le
          have hE5 := hE.keep hb5
          have hB5 := hB.trans (hb5.mono hB.size)
          have hws5 := hB.size
          clear hF hH5 hown5
          go_wp2_with fail
          go_loopw [11] (fun q wq => ∃ (t : Nat), q = .int .i64 (t : Int) ∧ t ≤ k5 ∧ ME wq g d i m L gt ct gl cl ∧ Below w.heap.size w wq ∧ (∀ gp, w5.there gp 0 (k5 * 32) → wq.there gp 0 (k5 * 32))) (fun q _ => k5 - (intOf q).toNat)
          case atStart => exact ⟨0, rfl, by omega, hE5, hB5, fun _ h => h⟩
          case round =>
            clear hE5 hB5 hE hb5
            obtain ⟨t, rfl, ht, hEr, hBr, hth⟩ := hrel
            by_cases hlt : t < k5
            · have hI3 : (t : Int) < k5 := by omega
              obtain ⟨gp, rfl, hgp, htp⟩ := hP0 (by omega)
              have ht' := hth gp htp
              have ht32 : ∀ {wq : World}, wq.there gp 0 (k5 * 32) → wq.there gp (t * 32) (h8 Y6).size := fun h' u h => by
                have := h' (t * 32 + u) (by rw [h8_size, hY32] at h; omega)
                rwa [Nat.zero_add] at this
              have htc : t < c5 := by omega
              have ht33 := ht32 ht'
              clear ht32
              go_wp2_with (refine atS 43 (.tmp 72) (.tmp 71) ?_; go_must (refine wpList_store_mid (by rfl) 43 (.tmp 72) (.tmp 71) (by rfl) gp (t * 32) (h8 Y6) (by rfl) (by exact hY6.out) ht33 (s24h8 hY32) (h8_one Y6) ?_))
              go_roundw
              case rel => exact ⟨t + 1, by go_num, by omega, hEr.block (fun k hk => heap_setCells_other (by rcases hk with rfl | rfl | rfl <;> omega) _ _ _), below_setCells hBr (by omega) _ _, fun g' h' => World.there_setCells (hth g' h') _ _ _⟩
              case measure => simp [intOf]; omega
            · obtain rfl : t = k5 := by omega
              have hI3 : ¬ (t : Int) < t := by omega
              clear hth hP0
              go_upto_region 20 with (first
                | (go_at_call 17; go_must (refine (hrt _ (hM.below hBr)).mono ?_; rintro e w6 ⟨rfl, hb6⟩))
                | (refine atS 43 (.tmp 12) (.tmp 76) ?_; go_must (refine st24n (by rfl) (.tmp 12) (.tmp 76) (by rfl) w6 w6.heap.size rfl (by rfl) R (by rfl) (by rfl) hRl ?_)))
              have Q6 := Arr.new w6 43 (h8 R)
              have D6 : Below wr.heap.size wr (w6.alloc (.cells (h8 R) 43)) := hb6.alloc hb6.size _
              have hE6 := hEr.keep D6
              have hB6 := hBr.trans (D6.mono hBr.size)
              clear hb6 D6 hEr hBr
              generalize hg6 : w6.alloc (.cells (h8 R) 43) = V6 at *
              clear hg6
              generalize w6.heap.size = g6 at *
              go_upto_region 22 with (first
                | (go_at_call 14; go_must (refine (hpv _ hE6).mono ?_; rintro e w7 ⟨s7, k7, c7, rfl, rfl, hH7, -, hb7⟩; have hB7 := hB6.trans (hb7.mono hB6.size)))
                | (go_at_call 15; go_must (refine (hrp w7 (hM.below hB7)).mono ?_; rintro e w8 ⟨s8, k8, c8, rfl, rfl, hH8, -, hb8⟩)))
              have hH78 := (hH7.below hb8).mono hb8.size
              have D8 := hb7.trans (hb8.mono hb7.size)
              have Q8 := Q6.below D8 Q6.lt
              have hE8 := hE6.keep D8
              have hB8 := hB6.trans (D8.mono hB6.size)
              have hMS8 := (hM.below hB8).mono hB8.size
              clear hb7 hb8 Q6 hE6 hB6 hB7 hH7 D8
              refine wp_region_held_drew (S := fun u => Arr u g6 43 (h8 R) ∧ Below w8.heap.size w8 u) (by kernel_rfl) ⟨Q8, (Below.refl _ _).drew⟩ (fun hHeld => ?_)
              refine wpAnyH_ready (rs := [0]) (by kernel_rfl) (by simp) ?_
              refine AllReadyH.cons (o := ⟨_, _, _, _, _, _⟩) rfl (fun K hK => ?_) AllReadyH.nil
              go_simp
              refine (anchored_anyM _).mono ?_; rintro e u9 ⟨rfl, hb9⟩; have D9 : Below w8.heap.size w8 u9 := ((Below.refl _ _).drew).trans (hb9.mono (by simp))
              go_wp2_with fail
              refine hK.out _ _ ⟨Q8.below D9 Q8.lt, D9⟩ (fun hHeld => ?_)
              clear hK K
              try simp only [Act.put, List.setIfInBounds_toArray, List.set_cons_zero, List.set_cons_succ]
              refine wpAnyH_take (i := 1) (oi := ⟨_, _, _, _, _, _⟩) (v := ?_) rfl (by kernel_rfl) (by kernel_rfl) (by kernel_rfl) (fun _ _ _ h => h) (Or.inl ⟨by rfl, ?_⟩) (by assumption) ?_
              rotate_left
              · intro u hSw
                go_simp
                try (with_reducible rfl)
              try simp only [Act.put, List.setIfInBounds_toArray, List.set_cons_zero, List.set_cons_succ]
              refine wpAnyH_take (i := 2) (oi := ⟨_, _, _, _, _, _⟩) (v := ?_) rfl (by kernel_rfl) (by kernel_rfl) (by kernel_rfl) (fun _ _ _ h => h) (Or.inl ⟨by rfl, ?_⟩) (by assumption) ?_
              rotate_left
              · intro u hSw
                go_simp
                try (with_reducible rfl)
              try simp only [Act.put, List.setIfInBounds_toArray, List.set_cons_zero, List.set_cons_succ]
              refine wpAnyH_take (i := 3) (oi := ⟨_, _, _, _, _, _⟩) (v := ?_) rfl (by kernel_rfl) (by kernel_rfl) (by kernel_rfl) (fun _ _ _ h => h) (Or.inl ⟨by rfl, ?_⟩) (by assumption) ?_
              rotate_left
              · intro u hSw
                go_simp
                try (with_reducible rfl)
              try simp only [Act.put, List.setIfInBounds_toArray, List.set_cons_zero, List.set_cons_succ]
              refine wpAnyH_take (i := 4) (oi := ⟨_, _, _, _, _, _⟩) (v := ?_) rfl (by kernel_rfl) (by kernel_rfl) (by kernel_rfl) (fun _ _ _ h => h) (Or.inl ⟨by rfl, ?_⟩) (by assumption) ?_
              rotate_left
              · intro u hSw
                go_simp
                try (with_reducible rfl)
              try simp only [Act.put, List.setIfInBounds_toArray, List.set_cons_zero, List.set_cons_succ]
              refine wpAnyH_take (i := 5) (oi := ⟨_, _, _, _, _, _⟩) (v := ?_) rfl (by kernel_rfl) (by kernel_rfl) (by kernel_rfl) (fun _ _ _ h => h) (Or.inl ⟨by rfl, ?_⟩) (by assumption) ?_
              rotate_left
              · intro u hSw
                go_simp
                try (with_reducible rfl)
              try simp only [Act.put, List.setIfInBounds_toArray, List.set_cons_zero, List.set_cons_succ]
              refine wpAnyH_take (i := 6) (oi := ⟨_, _, _, _, _, _⟩) (v := ?_) rfl (by kernel_rfl) (by kernel_rfl) (by kernel_rfl) (fun _ _ _ h => h) (Or.inl ⟨by rfl, ?_⟩) (by assumption) ?_
              rotate_left
              · intro u hSw
                go_simp
                try (with_reducible rfl)
              try simp only [Act.put, List.setIfInBounds_toArray, List.set_cons_zero, List.set_cons_succ]
              refine wpAnyH_take (i := 8) (oi := ⟨_, _, _, _, _, _⟩) (v := ?_) rfl (by kernel_rfl) (by kernel_rfl) (by kernel_rfl) (fun _ _ _ h => h) (Or.inl ⟨by rfl, ?_⟩) (by assumption) ?_
              rotate_left
              · intro u hSw
                go_simp
                try (with_reducible rfl)
              try simp only [Act.put, List.setIfInBounds_toArray, List.set_cons_zero, List.set_cons_succ]
              refine wpAnyH_ready (rs := [7]) (by kernel_rfl) (by simp) ?_
              refine AllReadyH.cons (o := ⟨_, _, _, _, _, _⟩) rfl (fun K hK => ?_) AllReadyH.nil
              go_simp
              refine (hws _ (hE8.keep D9)).mono ?_; rintro e u10 ⟨gn, cn, rfl, hgn, hcn1, hcn2, hMWn, hb10⟩; have D10 := D9.trans (hb10.mono D9.size); have hMSn := MW.ms (cap := cn) hMWn hL.out.symm (by omega) ⟨hcn1, hcn2⟩
              go_wp2_with fail
              refine hK.out _ _ ⟨Q8.below D10 Q8.lt, D10⟩ (fun hHeld => ?_)
              clear hK K
              try simp only [Act.put, List.setIfInBounds_toArray, List.set_cons_zero, List.set_cons_succ]
              refine wpAnyH_ready (rs := [9]) (by kernel_rfl) (by simp) ?_
              refine AllReadyH.cons (o := ⟨_, _, _, _, _, _⟩) rfl (fun K hK => ?_) AllReadyH.nil
              go_simp
              refine (sameW_true _ _ _ _ _ cn cap L u10 hMSn (hMS8.below D10)).mono ?_; rintro e u11 ⟨rfl, hb11⟩; have D11 := D10.trans (hb11.mono D10.size)
              go_wp2_with fail
              refine hK.out _ _ ⟨Q8.below D11 Q8.lt, D11⟩ (fun hHeld => ?_)
              clear hK K
              try simp only [Act.put, List.setIfInBounds_toArray, List.set_cons_zero, List.set_cons_succ]
              refine wpAnyH_take (i := 10) (oi := ⟨_, _, _, _, _, _⟩) (v := ?_) rfl (by kernel_rfl) (by kernel_rfl) (by kernel_rfl) (fun _ _ _ h => h) (Or.inl ⟨by rfl, ?_⟩) (by assumption) ?_
              rotate_left
              · intro u hSw
                go_simp
                try (with_reducible rfl)
              try simp only [Act.put, List.setIfInBounds_toArray, List.set_cons_zero, List.set_cons_succ]
              refine wpAnyH_take (i := 11) (oi := ⟨_, _, _, _, _, _⟩) (v := ?_) rfl (by kernel_rfl) (by kernel_rfl) (by kernel_rfl) (fun _ _ _ h => h) (Or.inl ⟨by rfl, ?_⟩) (by assumption) ?_
              rotate_left
              · intro u hSw
                go_simp
                try (with_reducible rfl)
              try simp only [Act.put, List.setIfInBounds_toArray, List.set_cons_zero, List.set_cons_succ]
              refine wpAnyH_take (i := 12) (oi := ⟨_, _, _, _, _, _⟩) (v := ?_) rfl (by kernel_rfl) (by kernel_rfl) (by kernel_rfl) (fun _ _ _ h => h) (Or.inl ⟨by rfl, ?_⟩) (by assumption) ?_
              rotate_left
              · intro u hSw
                go_simp
                try (with_reducible rfl)
              try simp only [Act.put, List.setIfInBounds_toArray, List.set_cons_zero, List.set_cons_succ]
              refine wpAnyH_take (i := 14) (oi := ⟨_, _, _, _, _, _⟩) rfl (by kernel_rfl) (by kernel_rfl) (by kernel_rfl) (fun _ _ _ h => h) (y24 (by rfl) (.tmp 12) rfl (g6) (0) rfl R hRl (fun u hu => hu.1.range)) (by assumption) ?_
              try simp only [Act.put, List.setIfInBounds_toArray, List.set_cons_zero, List.set_cons_succ]
              refine wpAnyH_ready (rs := [13]) (by kernel_rfl) (by simp) ?_
              refine AllReadyH.cons (o := ⟨_, _, _, _, _, _⟩) rfl (fun K hK => ?_) AllReadyH.nil
              go_simp
              refine (hmr _ (hE8.keep D11)).mono ?_; rintro e u12 ⟨rfl, hb12⟩; have D12 := D11.trans (hb12.mono D11.size)
              go_wp2_with fail
              refine hK.out _ _ ⟨Q8.below D12 Q8.lt, D12⟩ (fun hHeld => ?_)
              clear hK K
              try simp only [Act.put, List.setIfInBounds_toArray, List.set_cons_zero, List.set_cons_succ]
              refine wpAnyH_take (i := 15) (oi := ⟨_, _, _, _, _, _⟩) (v := ?_) rfl (by kernel_rfl) (by kernel_rfl) (by kernel_rfl) (fun _ _ _ h => h) (Or.inl ⟨by rfl, ?_⟩) (by assumption) ?_
              rotate_left
              · intro u hSw
                go_simp
                try (with_reducible rfl)
              try simp only [Act.put, List.setIfInBounds_toArray, List.set_cons_zero, List.set_cons_succ]
              refine wpAnyH_take (i := 16) (oi := ⟨_, _, _, _, _, _⟩) (v := ?_) rfl (by kernel_rfl) (by kernel_rfl) (by kernel_rfl) (fun _ _ _ h => h) (Or.inl ⟨by rfl, ?_⟩) (by assumption) ?_
              rotate_left
              · intro u hSw
                go_simp
                try (with_reducible rfl)
              try simp only [Act.put, List.setIfInBounds_toArray, List.set_cons_zero, List.set_cons_succ]
              refine wpAnyH_take (i := 17) (oi := ⟨_, _, _, _, _, _⟩) (v := ?_) rfl (by kernel_rfl) (by kernel_rfl) (by kernel_rfl) (fun _ _ _ h => h) (Or.inl ⟨by rfl, ?_⟩) (by assumption) ?_
              rotate_left
              · intro u hSw
                go_simp
                try (with_reducible rfl)
              try simp only [Act.put, List.setIfInBounds_toArray, List.set_cons_zero, List.set_cons_succ]
              refine wpAnyH_take (i := 18) (oi := ⟨_, _, _, _, _, _⟩) (v := ?_) rfl (by kernel_rfl) (by kernel_rfl) (by kernel_rfl) (fun _ _ _ h => h) (Or.inl ⟨by rfl, ?_⟩) (by assumption) ?_
              rotate_left
              · intro u hSw
                go_simp
                try (with_reducible rfl)
              try simp only [Act.put, List.setIfInBounds_toArray, List.set_cons_zero, List.set_cons_succ]
              refine wpAnyH_take (i := 19) (oi := ⟨_, _, _, _, _, _⟩) (v := ?_) rfl (by kernel_rfl) (by kernel_rfl) (by kernel_rfl) (fun _ _ _ h => h) (Or.inl ⟨by rfl, ?_⟩) (by assumption) ?_
              rotate_left
              · intro u hSw
                go_simp
                try (with_reducible rfl)
              try simp only [Act.put, List.setIfInBounds_toArray, List.set_cons_zero, List.set_cons_succ]
              refine wpAnyH_ready (rs := [20]) (by kernel_rfl) (by simp) ?_
              refine AllReadyH.cons (o := ⟨_, _, _, _, _, _⟩) rfl (fun K hK => ?_) AllReadyH.nil
              go_simp
              refine (same_true _ _ s7 s8 _ c7 c8 ps u12 (hH78.below D12) (hH8.below D12)).mono ?_; rintro e u13 ⟨rfl, hb13⟩; have D13 := D12.trans (hb13.mono D12.size)
              go_wp2_with fail
              refine hK.out _ _ ⟨Q8.below D13 Q8.lt, D13⟩ (fun hHeld => ?_)
              clear hK K
              try simp only [Act.put, List.setIfInBounds_toArray, List.set_cons_zero, List.set_cons_succ]
              refine wpAnyH_take (i := 21) (oi := ⟨_, _, _, _, _, _⟩) (v := ?_) rfl (by kernel_rfl) (by kernel_rfl) (by kernel_rfl) (fun _ _ _ h => h) (Or.inl ⟨by rfl, ?_⟩) (by assumption) ?_
              rotate_left
              · intro u hSw
                go_simp
                try (with_reducible rfl)
              try simp only [Act.put, List.setIfInBounds_toArray, List.set_cons_zero, List.set_cons_succ]
              refine wpAnyH_take (i := 22) (oi := ⟨_, _, _, _, _, _⟩) (v := ?_) rfl (by kernel_rfl) (by kernel_rfl) (by kernel_rfl) (fun _ _ _ h => h) (Or.inl ⟨by rfl, ?_⟩) (by assumption) ?_
              rotate_left
              · intro u hSw
                go_simp
                try (with_reducible rfl)
              try simp only [Act.put, List.setIfInBounds_toArray, List.set_cons_zero, List.set_cons_succ]
              refine wpAnyH_done (by kernel_rfl) ?_ _
              go_wp2_with fail
              go_ret
              exact ⟨rfl, hB8.trans (D13.mono hB8.size)⟩
theorem fresh_walkM (sp : Option Addr) (n cap : Nat) (L : List Int) (w : World) (hM : MS w.heap.size w sp n cap L) (hU : ∀ k, U64 (L.getD k 0)) :
    Calls Try.prog 8 #[.slice sp n cap] w fun e w' => e = .returned (.bool true) ∧ Below w.heap.size w w' := by
  cases h : szB L.length with
  | true =>
    obtain ⟨d, hd, e⟩ := szB_pow h
    have hn : n = 2 ^ d := by rw [hM.len.out, e]
    have hp : 0 < 2 ^ d := Nat.pow_pos (by omega)
    exact fresh_ok sp n cap d (2 * n - 1) L w hM hU hd (Hid.mk' hn) (Hid.mk' (by omega))
  | false => exact fresh_no sp n cap L w hM hU h
end Go.Proofs.Ytndonaebdbbofaa
