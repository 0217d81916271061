/- Layer compile: the law CompileFresh. -/
import Derived.Test.YtimmiidkjpbffaaX47
import Derived.Test.YtimmiidkjpbffaaX54
import Derived.Test.YtimmiidkjpbffaaX56
import Derived.Test.YtimmiidkjpbffaaX37
import Derived.Test.YtimmiidkjpbffaaX31
import Derived.Handy
import Derived.BigQuiet
import Derived.BigRegion
import Derived.Great.BuildSlice
import Derived.Deep.RegionHeld3
import Derived.Deep.RegionWith
namespace Go.Proofs.Ytimmiidkjpbffaa
open Go.RowKit
set_option maxRecDepth 100000
set_option linter.unusedVariables false
set_option linter.unusedSimpArgs false


theorem ms_of_own {w : World} {base n : Nat} {v : Value} {L : List Int} (h : w.ownsRow base 25 1 v n (by64 L)) (hn : n ≤ 17592186044416) (hl : n = L.length) : ∃ sp cap, v = .slice sp n cap ∧ MS w.heap.size w sp n cap L := by
  by_cases h0 : 0 < n
  · obtain ⟨g, cap, rfl, hl, hb, hc, hc2, hM⟩ := own64 h h0
    exact ⟨_, cap, rfl, hM.ms hl hn ⟨hc, hc2⟩⟩
  · obtain rfl : n = 0 := by omega
    rcases h.2 with ⟨e, e2⟩ | ⟨g, c, cur, e, -, -, h2, h3, -⟩
    · exact ⟨none, 0, e, hid hl, fun _ => ⟨rfl, rfl⟩, Nat.le_refl _, by omega, by omega, fun h => by omega⟩
    · unfold maxLen at h3
      exact ⟨_, c, e, hid hl, (fun e => by cases e), h2, by omega, by omega, fun h => by omega⟩
theorem MW.ch {w w' : World} {g k : Nat} {L : List Int} (h : MW w g L) (hc : Ch (fun j => j = k) w w') (hne : g ≠ k) : MW w' g L := h.block (hc.block g h.lt hne)
theorem iSE_is {L ds : List Int} {b d : Int} (h : imOk L.length b d = true) : iSE L b d ds = if (ds.length : Int) ≤ d then 0 else 2 := by
  unfold iSE iSOk
  rw [h, Bool.true_and]
  by_cases h2 : (ds.length : Int) ≤ d
  · rw [if_pos h2, if_pos (by simpa using h2)]
  · rw [if_neg h2, if_neg (by simpa using h2)]
set_option maxHeartbeats 4000000 in
theorem fresh_no (p : PgT) {sp : Option Addr} {k cap : Nat} (sd : Option Addr) (nd cd : Nat) (w : World) (hM : PgM w.heap.size w [.slice sp k cap, .int .i64 p.da] p) (hk : kErr p ≠ 0) :
    Calls Try.prog 5 #[.agg #[.slice sp k cap, .int .i64 p.da], .slice sd nd cd] w (BoP true w) := by
  have h15 := hid (fun U (hU : Below w.heap.size w U) => compile_any U hU.size (PgM.below hU _ p hM))
  have hao := hid anchored_any
  unfold BoP at hao
  unfold CmA at h15
  have A0 := Arr.new w 47 #[.slice sp k cap, .int .i64 p.da]
  have b0 := ab w (.cells #[.slice sp k cap, .int .i64 p.da] 47)
  generalize cB p = B at *
  generalize cD p = D at *
  generalize cL p = L at *
  generalize kErr p = ke at *
  generalize p.da = da at *
  have hkb : (ke != 0) = true := by simpa using hk
  clear hM
  go_enter Try.func5, Try.ntmps5
  go_upto_region 1 with fail
  generalize w.alloc (.cells #[.slice sp k cap, .int .i64 da] 47) = U0 at *
  have a0 := A0.cell 0
  have a1 := A0.cell 1
  go_upto_region 2 with (go_at_call 15; go_must (refine (h15.out U0 b0).mono ?_; rintro e w1 ⟨sp1, n1, cap1, rfl, -, hb1⟩))
  have B1 := (b0.trans (hb1.mono b0.size)).alloc (b0.trans (hb1.mono b0.size)).size (.cells #[.slice sp1 n1 cap1, .int .i64 B, .int .i64 D] 24)
  clear b0 hb1 A0 a0 a1 h15
  generalize w1.alloc (.cells #[.slice sp1 n1 cap1, .int .i64 B, .int .i64 D] 24) = U1 at *
  go_wp2_with (go_at_call 12; go_must (refine (hao.out _).mono ?_; rintro e w5 ⟨rfl, hb5⟩))
  go_ret
  exact ⟨rfl, B1.trans (hb5.mono B1.size)⟩
set_option maxHeartbeats 8000000 in
theorem fresh_yes (p : PgT) {sp : Option Addr} {k cap m : Nat} (dl : List Int) (sd : Option Addr) (nd cd : Nat) (w : World) (hM : PgM w.heap.size w [.slice sp k cap, .int .i64 p.da] p) (hD : MS w.heap.size w sd nd cd dl) (hDU : ∀ k, U64 (dl.getD k 0)) (hp : pgN p = some m) (hbg : ¬ 4096 < (kSize p : Int)) :
    Calls Try.prog 5 #[.agg #[.slice sp k cap, .int .i64 p.da], .slice sd nd cd] w (BoP true w) := by
  have h15 : ∀ U, Below w.heap.size w U → Calls Try.prog 15 #[.agg #[.slice sp k cap, .int .i64 p.da]] U fun e w' => ∃ g, e = .returned (.tuple #[.agg #[.slice (some ⟨g, 0, none⟩) (kSize p) (kSize p), .int .i64 ((kSize p : Int) - p.da), .int .i64 p.da], .int .i64 0]) ∧ U.heap.size ≤ g ∧ MW w' g (kWords p) ∧ Below U.heap.size U w' := fun U hU => (compile_goF U hU.size (PgM.below hU _ p hM) hp).mono fun e w' h => h.2 hbg
  replace h15 := hid h15
  have hao := hid anchored_any
  unfold BoP at hao
  obtain ⟨hkl, hda1, hda0, hda2⟩ := kWords_len hM hp
  have hio := image_ok hM hp hbg
  have hse := hid (iSE_is (ds := dl) hio)
  have A0 := Arr.new w 47 #[.slice sp k cap, .int .i64 p.da]
  have b0 := ab w (.cells #[.slice sp k cap, .int .i64 p.da] 47)
  have hnd := hD.small
  have hld := hid hD.len.out
  obtain ⟨B, hB⟩ : ∃ B, (kSize p : Int) - p.da = B := ⟨_, rfl⟩
  rw [hB] at h15 hio hse
  obtain ⟨da, hda⟩ : ∃ da, p.da = da := ⟨_, rfl⟩
  rw [hda] at h15 hda1 hda0 hda2 hio hse A0 b0 hB ⊢
  obtain ⟨n, hn⟩ : ∃ n, kSize p = n := ⟨_, rfl⟩
  rw [hn] at h15 hkl hda1 hB
  obtain ⟨WL, hWL⟩ : ∃ WL, kWords p = WL := ⟨_, rfl⟩
  rw [hWL] at h15 hkl hio hse
  have hnL := hid hkl.symm
  have hn4 : 1 ≤ n ∧ n ≤ 4096 := by
    unfold imOk at hio
    have := szB_le (Bool.and_eq_true_iff.1 hio).1
    omega
  have hBi : -9223372036854775808 ≤ B ∧ B ≤ 9223372036854775807 := by omega
  have hDi : -9223372036854775808 ≤ da ∧ da ≤ 9223372036854775807 := by omega
  have h6 := hid (fun (U : World) (g : Nat) (sp2 : Option Addr) (cap2 : Nat) (hMg : MW U g WL) (hDg : MS U.heap.size U sp2 nd cap2 dl) => start6_any (N := U.heap.size) WL dl B da (some ⟨g, 0, none⟩) n n sp2 nd cap2 U (hMg.ms hnL.out (by omega) ⟨Nat.le_refl _, by omega⟩) hDg hBi hDi)
  unfold IsP at h6
  have hok : (iSM WL B da dl).me.length ≤ 4096 ∧ (iSM WL B da dl).rg.length = 16 := by
    unfold iSM
    split
    · exact ⟨by show (spL WL B.toNat da.toNat fun j => dl.getD j 0).length ≤ 4096; rw [spL_len]; omega, zM_ok.r16⟩
    · exact ⟨by show (0 : Nat) ≤ 4096; omega, zM_ok.r16⟩
  generalize iSM WL B da dl = M0 at *
  generalize iSE WL B da dl = e0 at *
  rw [← hld.out] at hse
  have hs0 := hid (fun (sp : Option Addr) (n cp : Nat) => mcA_size hok.2 sp n cp)
  have ho0 := hid (fun (sp : Option Addr) (n cp : Nat) => mcA_one M0 sp n cp)
  have h18 := hid (fun (sp : Option Addr) (n cp : Nat) => mcA_18 hok.2 sp n cp)
  clear hM hp hbg hda hn hWL hio hkl
  go_enter Try.func5, Try.ntmps5
  go_upto_region 1 with fail
  generalize w.alloc (.cells #[.slice sp k cap, .int .i64 da] 47) = U0 at *
  have a0 := A0.cell 0
  have a1 := A0.cell 1
  go_upto_region 2 with (go_at_call 15; go_must (refine (h15.out U0 b0).mono ?_; rintro e w1 ⟨g1, rfl, hg1, hM1, hb1⟩))
  have hg1w : w.heap.size ≤ g1 := Nat.le_trans b0.size hg1
  have B1 := (b0.trans (hb1.mono b0.size)).alloc (b0.trans (hb1.mono b0.size)).size (.cells #[.slice (some ⟨g1, 0, none⟩) n n, .int .i64 B, .int .i64 da] 24)
  have A1 := (A0.bl hb1).alloc (.cells #[.slice (some ⟨g1, 0, none⟩) n n, .int .i64 B, .int .i64 da] 24)
  have I1 := Arr.new w1 24 #[.slice (some ⟨g1, 0, none⟩) n n, .int .i64 B, .int .i64 da]
  have K1 := hM1.below (ab w1 (.cells #[.slice (some ⟨g1, 0, none⟩) n n, .int .i64 B, .int .i64 da] 24)) hM1.lt
  clear b0 hb1 A0 a0 a1 hg1 hM1
  generalize w1.alloc (.cells #[.slice (some ⟨g1, 0, none⟩) n n, .int .i64 B, .int .i64 da] 24) = U1 at *
  generalize w1.heap.size = i1 at *
  -- keep
  have hlit : (U1.alloc (.cells #[] 25)).ownsRow U1.heap.size 25 1 (.slice (some ⟨U1.heap.size, 0, none⟩) 0 0) 0 (by64 []) := World.ownsRow_lit _ _ _ (Nat.le_refl _) (by unfold maxLen; omega) rfl
  have K1b := (K1.ms hnL.out (by omega) (cap := n) ⟨Nat.le_refl _, by omega⟩).below (alloc_bel' U1 (.cells #[] 25))
  have c0 := (I1.alloc (.cells #[] 25)).cell 0
  go_upto_region 4 with fail
  go_upto_region 5 with (at_builtin; go_must (refine append_words (by rfl) (.tmp 25) (.tmp 27) (by rfl) U1.heap.size _ (by rfl) hlit (some ⟨g1, 0, none⟩) n n WL (by rfl) K1b (by simp) ?_; intro v1 w2 hown1 hgr1))
  obtain ⟨gk, ck, rfl, -, hgk, hck1, hck2, K2⟩ := own64 hown1 (by omega)
  have hb2 := ((Below.refl U1.heap.size U1).alloc (Nat.le_refl _) (.cells #[] 25)).grown hgr1 (by simp) (fun k e => by simp [Value.ownBlock] at e; omega)
  have B2 := B1.trans (hb2.mono B1.size)
  have A2 := A1.bl hb2
  have I2 := I1.bl hb2
  have K12 := K1.below hb2 K1.lt
  have hgk1 : w.heap.size ≤ gk := Nat.le_trans B1.size hgk
  clear hlit K1b c0 hown1 hgr1 hb2 B1 A1 I1 K1 hgk
  -- d
  have hlit : (w2.alloc (.cells #[] 25)).ownsRow w2.heap.size 25 1 (.slice (some ⟨w2.heap.size, 0, none⟩) 0 0) 0 (by64 []) := World.ownsRow_lit _ _ _ (Nat.le_refl _) (by unfold maxLen; omega) rfl
  have D2 := (hD.below B2).here.below (alloc_bel' w2 (.cells #[] 25))
  go_upto_region 6 with (at_builtin; go_must (refine append_words (by rfl) (.tmp 29) (.tmp 30) (by rfl) w2.heap.size _ (by rfl) hlit sd nd cd dl (by rfl) D2 (by simp) ?_; intro v2 U3 hown2 hgr2))
  obtain ⟨sp2, cap2, rfl, D3⟩ := ms_of_own hown2 hnd hld.out
  have hb3 := ((Below.refl w2.heap.size w2).alloc (Nat.le_refl _) (.cells #[] 25)).grown hgr2 (by simp) (fun k e => by simp [Value.ownBlock] at e; omega)
  have B3 := B2.trans (hb3.mono B2.size)
  have A3 := A2.bl hb3
  have I3 := I2.bl hb3
  have K13 := K12.below hb3 K12.lt
  have K23 := K2.below hb3 K2.lt
  have E3 := hD.below B3
  clear hlit D2 hown2 hgr2 hb3 B2 A2 I2 K12 K2 hD
  have a0 := I3.cell 0
  have a1 := I3.cell 1
  have a2 := I3.cell 2
  go_upto_region 7 with (first
    | (go_at_call 6; go_must (refine (h6.out U3 g1 sp2 cap2 K13 D3).mono ?_; rintro e w4 ⟨sp3, n3, cap3, rfl, hM3, hgm, hb4⟩))
    | (refine st45n (by rfl) (.tmp 9) (.tmp 36) (by rfl) w4 w4.heap.size rfl (by rfl) (mcA M0 sp3 n3 cap3) (by rfl) (by rfl) (hs0.out _ _ _) (ho0.out _ _ _) ?_))
  clear a0 a1 a2 h6
  have hn3 : n3 ≤ 4096 := by rw [hM3.len.out]; exact hok.1
  obtain ⟨gm, hgm1, hgm2, hgm3⟩ : ∃ gm, U3.heap.size ≤ gm ∧ (gm ≠ w4.heap.size) ∧ (0 < n3 → sp3 = some ⟨gm, 0, none⟩ ∧ ∃ X : List Int, X.length = n3 ∧ MW w4 gm X) := by
    by_cases h0 : 0 < n3
    · obtain ⟨gm, h1, h2, h3⟩ := hgm h0
      exact ⟨gm, h2, by have := h3.lt; omega, fun _ => ⟨h1, _, hM3.len.out.symm, h3⟩⟩
    · exact ⟨w4.heap.size + 1, by have := hb4.size; omega, by omega, fun h => absurd h h0⟩
  have J4 := Arr.new w4 29 (mcA M0 sp3 n3 cap3)
  have B4 : Below U3.heap.size U3 (w4.alloc (.cells (mcA M0 sp3 n3 cap3) 29)) := hb4.alloc hb4.size _
  have hgm4 : 0 < n3 → sp3 = some ⟨gm, 0, none⟩ ∧ ∃ X : List Int, X.length = n3 ∧ MW (w4.alloc (.cells (mcA M0 sp3 n3 cap3) 29)) gm X := fun h => by
    obtain ⟨h1, X, h2, h3⟩ := hgm3 h
    exact ⟨h1, X, h2, h3.below (ab w4 _) h3.lt⟩
  clear hM3 hgm hgm3 hb4
  generalize w4.alloc (.cells (mcA M0 sp3 n3 cap3) 29) = U4 at *
  generalize w4.heap.size = mb at *
  replace hgm4 := hid hgm4
  go_wp2_with fail
  go_loopw [11] (fun v wr => ∃ (j : Nat), v = .int .i64 (j : Int) ∧ j ≤ n3 ∧ Ch (fun b => b = gm) U4 wr ∧ (0 < n3 → ∃ X : List Int, X.length = n3 ∧ MW wr gm X))
    (fun v _ => n3 - (intOf v).toNat)
  case atStart => exact ⟨0, rfl, by omega, Ch.refl _ _, fun h => (hgm4.out h).2⟩
  case round =>
    obtain ⟨j, rfl, hj, hch, hX⟩ := hrel
    have Jr := hch.arr J4 (fun e => hgm2 e.symm)
    have c18 := (Jr.cell 18).trans (h18.out sp3 n3 cap3)
    by_cases hlt : j < n3
    · have hI : (j : Int) < n3 := by omega
      obtain ⟨hsp3, -⟩ := hgm4.out (by omega)
      obtain ⟨X, hXl, hXM⟩ := hX (by omega)
      subst hsp3
      have cm := hXM.cell (t := j) (by omega)
      have fm := hXM.frozen j
      have hnew := hid (hXM.set (i := j) (by omega) 99)
      clear hX hXM
      replace hXl := hid hXl
      go_wp2_with fail
      go_roundw
      case rel => exact ⟨j + 1, by go_num, by omega, hch.st _ (fun _ => rfl), fun _ => ⟨_, by rw [List.length_set]; exact hXl.out, hnew.out⟩⟩
      case measure => simp [intOf]; omega
    · obtain rfl : j = n3 := by omega
      have hI : ¬ (j : Int) < j := by omega
      have B5 := B4.trans (hch.bl (N := U3.heap.size) (fun i hi => ⟨by have := B4.size; omega, by omega⟩))
      have B5w := B3.trans (B5.mono B3.size)
      clear J4 hgm4 hch hX B4 hlt
      have A5 := A3.bl B5
      have p0 := A5.cell 0
      have p1 := A5.cell 1
      clear A5
      go_upto_region 12 with (go_at_call 15; go_must (refine (h15.out wr B5w).mono ?_; rintro e w6 ⟨g2, rfl, hg2, hM6, hb6⟩))
      have hg2b : U3.heap.size ≤ g2 := Nat.le_trans B5.size hg2
      have J6 := Arr.new w6 24 #[.slice (some ⟨g2, 0, none⟩) n n, .int .i64 B, .int .i64 da]
      have hg2l : g2 ≠ w6.heap.size := by have := hM6.lt; omega
      have B6 := (B5.trans (hb6.mono B5.size)).alloc (B5.trans (hb6.mono B5.size)).size (.cells #[.slice (some ⟨g2, 0, none⟩) n n, .int .i64 B, .int .i64 da] 24)
      have M6 := hM6.below (ab w6 (.cells #[.slice (some ⟨g2, 0, none⟩) n n, .int .i64 B, .int .i64 da] 24)) hM6.lt
      clear hM6 hb6 B5 B5w p0 p1 h15 hg2
      generalize w6.alloc (.cells #[.slice (some ⟨g2, 0, none⟩) n n, .int .i64 B, .int .i64 da] 24) = U6 at *
      generalize w6.heap.size = jb at *
      clear c18 Jr
      go_wp2_with fail
      go_loopw [14] (fun v wr => ∃ (q : Nat), v = .int .i64 (q : Int) ∧ q ≤ n ∧ Ch (fun b => b = g2) U6 wr ∧ ∃ X : List Int, X.length = n ∧ MW wr g2 X)
        (fun v _ => n - (intOf v).toNat)
      case atStart => exact ⟨0, rfl, by omega, Ch.refl _ _, _, hnL.out.symm, M6⟩
      case round =>
        obtain ⟨q, rfl, hq, hch, X, hXl, hXM⟩ := hrel
        have Jr := hch.arr J6 (fun e => hg2l e.symm)
        have c0 := Jr.cell 0
        by_cases hlt : q < n
        · have hI2 : (q : Int) < n := by omega
          have cm := hXM.cell (t := q) (by omega)
          have fm := hXM.frozen q
          have hnew := hid (hXM.set (i := q) (by omega) 98)
          clear hXM
          replace hXl := hid hXl
          go_wp2_with fail
          go_roundw
          case rel => exact ⟨q + 1, by go_num, by omega, hch.st _ (fun _ => rfl), _, by rw [List.length_set]; exact hXl.out, hnew.out⟩
          case measure => simp [intOf]; omega
        · obtain rfl : q = n := by omega
          have hI2 : ¬ (q : Int) < q := by omega
          have B7 := B6.trans (hch.bl (N := U3.heap.size) (fun i hi => ⟨by have := B6.size; omega, by omega⟩))
          have B7w := B3.trans (B7.mono B3.size)
          have A7 := A3.bl B7
          have I7 := I3.bl B7
          have K17 := K13.below B7 K13.lt
          have K27 := K23.below B7 K23.lt
          have D7 := (D3.below B7).mono B7.size
          have E7 := (E3.below (B7.mono B3.size)).mono B7w.size
          go_upto_region 16 with fail
          clear J6 hch hXM B6 hlt Jr c0 M6 A3 I3 K13 K23 D3 E3 B3 B7
          generalize wr = U7 at *
          have hgk7 := K27.lt
          have hg17 := K17.lt
          go_wp2_with fail
          go_loopw [15] (fun v wr => ∃ (r : Nat), v = .int .i64 (r : Int) ∧ r ≤ nd ∧ Below U7.heap.size U7 wr)
            (fun v _ => nd - (intOf v).toNat)
          case atStart => exact ⟨0, rfl, by omega, Below.refl _ _⟩
          case round =>
            obtain ⟨r, rfl, hr, HW⟩ := hrel
            by_cases hlt : r < nd
            · have hI3 : (r : Int) < nd := by omega
              obtain ⟨gd, od, hspd, hgd, hcd⟩ := D7.at0 (by omega)
              obtain ⟨ge, oe, hspe, hge, hce⟩ := E7.at0 (by omega)
              subst hspd
              subst hspe
              go_upto_region 19 with fail
              refine wp_region_held_drew (S := fun u => Below U7.heap.size U7 u) (by kernel_rfl) (dw1 HW) (fun hHeld => ?_)
              refine wpAnyH_take (i := 0) (oi := ⟨_, _, _, _, _, _⟩) (v := ?_) rfl (by kernel_rfl) (by kernel_rfl) (by kernel_rfl) (fun _ _ _ h => h) (Or.inl ⟨by rfl, ?_⟩) (by assumption) ?_
              rotate_left
              · intro u hSw
                go_simp
                try (with_reducible rfl)
              try simp only [Act.put, List.setIfInBounds_toArray, List.set_cons_zero, List.set_cons_succ]
              refine wpAnyH_take (i := 1) (oi := ⟨_, _, _, _, _, _⟩) (v := ?_) rfl (by kernel_rfl) (by kernel_rfl) (by kernel_rfl) (fun _ _ _ h => h) (Or.inl ⟨by rfl, ?_⟩) (by assumption) ?_
              rotate_left
              · intro u hSw
                go_simp
                try (with_reducible rfl)
              try simp only [Act.put, List.setIfInBounds_toArray, List.set_cons_zero, List.set_cons_succ]
              refine wpAnyH_take (i := 2) (oi := ⟨_, _, _, _, _, _⟩) (v := ?_) rfl (by kernel_rfl) (by kernel_rfl) (by kernel_rfl) (fun _ _ _ h => h) (Or.inl ⟨by rfl, ?_⟩) (by assumption) ?_
              rotate_left
              · intro u hSw
                go_simp
                try (with_reducible rfl)
              try simp only [Act.put, List.setIfInBounds_toArray, List.set_cons_zero, List.set_cons_succ]
              refine wpAnyH_take (i := 3) (oi := ⟨_, _, _, _, _, _⟩) (v := ?_) rfl (by kernel_rfl) (by kernel_rfl) (by kernel_rfl) (fun _ _ _ h => h) (Or.inl ⟨by rfl, ?_⟩) (by assumption) ?_
              rotate_left
              · intro u hSw
                have cx := (hSw.cell (p := ⟨gd, od + r, none⟩) hgd).trans (hcd r hlt)
                go_simp
                try (with_reducible rfl)
              try simp only [Act.put, List.setIfInBounds_toArray, List.set_cons_zero, List.set_cons_succ]
              refine wpAnyH_take (i := 4) (oi := ⟨_, _, _, _, _, _⟩) (v := ?_) rfl (by kernel_rfl) (by kernel_rfl) (by kernel_rfl) (fun _ _ _ h => h) (Or.inl ⟨by rfl, ?_⟩) (by assumption) ?_
              rotate_left
              · intro u hSw
                go_simp
                try (with_reducible rfl)
              try simp only [Act.put, List.setIfInBounds_toArray, List.set_cons_zero, List.set_cons_succ]
              refine wpAnyH_take (i := 5) (oi := ⟨_, _, _, _, _, _⟩) (v := ?_) rfl (by kernel_rfl) (by kernel_rfl) (by kernel_rfl) (fun _ _ _ h => h) (Or.inl ⟨by rfl, ?_⟩) (by assumption) ?_
              rotate_left
              · intro u hSw
                go_simp
                try (with_reducible rfl)
              try simp only [Act.put, List.setIfInBounds_toArray, List.set_cons_zero, List.set_cons_succ]
              refine wpAnyH_take (i := 6) (oi := ⟨_, _, _, _, _, _⟩) (v := ?_) rfl (by kernel_rfl) (by kernel_rfl) (by kernel_rfl) (fun _ _ _ h => h) (Or.inl ⟨by rfl, ?_⟩) (by assumption) ?_
              rotate_left
              · intro u hSw
                go_simp
                try (with_reducible rfl)
              try simp only [Act.put, List.setIfInBounds_toArray, List.set_cons_zero, List.set_cons_succ]
              refine wpAnyH_take (i := 7) (oi := ⟨_, _, _, _, _, _⟩) (v := ?_) rfl (by kernel_rfl) (by kernel_rfl) (by kernel_rfl) (fun _ _ _ h => h) (Or.inl ⟨by rfl, ?_⟩) (by assumption) ?_
              rotate_left
              · intro u hSw
                have cx := (hSw.cell (p := ⟨ge, oe + r, none⟩) hge).trans (hce r hlt)
                go_simp
                try (with_reducible rfl)
              try simp only [Act.put, List.setIfInBounds_toArray, List.set_cons_zero, List.set_cons_succ]
              refine wpAnyH_take (i := 8) (oi := ⟨_, _, _, _, _, _⟩) (v := ?_) rfl (by kernel_rfl) (by kernel_rfl) (by kernel_rfl) (fun _ _ _ h => h) (Or.inl ⟨by rfl, ?_⟩) (by assumption) ?_
              rotate_left
              · intro u hSw
                go_simp
                try (with_reducible rfl)
              try simp only [Act.put, List.setIfInBounds_toArray, List.set_cons_zero, List.set_cons_succ]
              refine wpAnyH_done (by kernel_rfl) ?_ _
              go_wp2_with fail
              go_roundw
              case rel => exact ⟨r + 1, by go_num, by omega, hHeld⟩
              case measure => simp [intOf]; omega
            · obtain rfl : r = nd := by omega
              have hI3 : ¬ (r : Int) < r := by omega
              have a0 := (I7.bl HW).cell 0
              clear D7 E7
              go_upto_region 23 with fail
              clear a0
              go_wp2_with fail
              go_loopw [16] (fun v wr => ∃ (r2 : Nat), v = .int .i64 (r2 : Int) ∧ r2 ≤ q ∧ Below U7.heap.size U7 wr)
                (fun v _ => q - (intOf v).toNat)
              case atStart => exact ⟨0, rfl, by omega, HW⟩
              case round =>
                clear HW
                obtain ⟨r2, rfl, hr2, HW2⟩ := hrel
                by_cases hlt2 : r2 < q
                · have hI4 : (r2 : Int) < q := by omega
                  go_upto_region 26 with fail
                  refine wp_region_held_drew (S := fun u => Below U7.heap.size U7 u) (by kernel_rfl) (dw1 HW2) (fun hHeld => ?_)
                  refine wpAnyH_take (i := 0) (oi := ⟨_, _, _, _, _, _⟩) (v := ?_) rfl (by kernel_rfl) (by kernel_rfl) (by kernel_rfl) (fun _ _ _ h => h) (Or.inl ⟨by rfl, ?_⟩) (by assumption) ?_
                  rotate_left
                  · intro u hSw
                    go_simp
                    try (with_reducible rfl)
                  try simp only [Act.put, List.setIfInBounds_toArray, List.set_cons_zero, List.set_cons_succ]
                  refine wpAnyH_take (i := 1) (oi := ⟨_, _, _, _, _, _⟩) (v := ?_) rfl (by kernel_rfl) (by kernel_rfl) (by kernel_rfl) (fun _ _ _ h => h) (Or.inl ⟨by rfl, ?_⟩) (by assumption) ?_
                  rotate_left
                  · intro u hSw
                    go_simp
                    try (with_reducible rfl)
                  try simp only [Act.put, List.setIfInBounds_toArray, List.set_cons_zero, List.set_cons_succ]
                  refine wpAnyH_take (i := 2) (oi := ⟨_, _, _, _, _, _⟩) (v := ?_) rfl (by kernel_rfl) (by kernel_rfl) (by kernel_rfl) (fun _ _ _ h => h) (Or.inl ⟨by rfl, ?_⟩) (by assumption) ?_
                  rotate_left
                  · intro u hSw
                    go_simp
                    try (with_reducible rfl)
                  try simp only [Act.put, List.setIfInBounds_toArray, List.set_cons_zero, List.set_cons_succ]
                  refine wpAnyH_take (i := 3) (oi := ⟨_, _, _, _, _, _⟩) (v := ?_) rfl (by kernel_rfl) (by kernel_rfl) (by kernel_rfl) (fun _ _ _ h => h) (Or.inl ⟨by rfl, ?_⟩) (by assumption) ?_
                  rotate_left
                  · intro u hSw
                    have cx := (hSw.cell (p := ⟨gk, r2, none⟩) hgk7).trans (K27.cell (t := r2) (by rw [← hnL.out]; exact hlt2))
                    go_simp
                    try (with_reducible rfl)
                  try simp only [Act.put, List.setIfInBounds_toArray, List.set_cons_zero, List.set_cons_succ]
                  refine wpAnyH_take (i := 4) (oi := ⟨_, _, _, _, _, _⟩) (v := ?_) rfl (by kernel_rfl) (by kernel_rfl) (by kernel_rfl) (fun _ _ _ h => h) (Or.inl ⟨by rfl, ?_⟩) (by assumption) ?_
                  rotate_left
                  · intro u hSw
                    go_simp
                    try (with_reducible rfl)
                  try simp only [Act.put, List.setIfInBounds_toArray, List.set_cons_zero, List.set_cons_succ]
                  refine wpAnyH_take (i := 5) (oi := ⟨_, _, _, _, _, _⟩) (v := ?_) rfl (by kernel_rfl) (by kernel_rfl) (by kernel_rfl) (fun _ _ _ h => h) (Or.inl ⟨by rfl, ?_⟩) (by assumption) ?_
                  rotate_left
                  · intro u hSw
                    have a0 := (I7.bl hSw).cell 0
                    go_simp
                    try (with_reducible rfl)
                  try simp only [Act.put, List.setIfInBounds_toArray, List.set_cons_zero, List.set_cons_succ]
                  refine wpAnyH_take (i := 6) (oi := ⟨_, _, _, _, _, _⟩) (v := ?_) rfl (by kernel_rfl) (by kernel_rfl) (by kernel_rfl) (fun _ _ _ h => h) (Or.inl ⟨by rfl, ?_⟩) (by assumption) ?_
                  rotate_left
                  · intro u hSw
                    go_simp
                    try (with_reducible rfl)
                  try simp only [Act.put, List.setIfInBounds_toArray, List.set_cons_zero, List.set_cons_succ]
                  refine wpAnyH_take (i := 7) (oi := ⟨_, _, _, _, _, _⟩) (v := ?_) rfl (by kernel_rfl) (by kernel_rfl) (by kernel_rfl) (fun _ _ _ h => h) (Or.inl ⟨by rfl, ?_⟩) (by assumption) ?_
                  rotate_left
                  · intro u hSw
                    go_simp
                    try (with_reducible rfl)
                  try simp only [Act.put, List.setIfInBounds_toArray, List.set_cons_zero, List.set_cons_succ]
                  refine wpAnyH_take (i := 8) (oi := ⟨_, _, _, _, _, _⟩) (v := ?_) rfl (by kernel_rfl) (by kernel_rfl) (by kernel_rfl) (fun _ _ _ h => h) (Or.inl ⟨by rfl, ?_⟩) (by assumption) ?_
                  rotate_left
                  · intro u hSw
                    have cx := (hSw.cell (p := ⟨g1, r2, none⟩) hg17).trans (K17.cell (t := r2) (by rw [← hnL.out]; exact hlt2))
                    go_simp
                    try (with_reducible rfl)
                  try simp only [Act.put, List.setIfInBounds_toArray, List.set_cons_zero, List.set_cons_succ]
                  refine wpAnyH_take (i := 9) (oi := ⟨_, _, _, _, _, _⟩) (v := ?_) rfl (by kernel_rfl) (by kernel_rfl) (by kernel_rfl) (fun _ _ _ h => h) (Or.inl ⟨by rfl, ?_⟩) (by assumption) ?_
                  rotate_left
                  · intro u hSw
                    go_simp
                    try (with_reducible rfl)
                  try simp only [Act.put, List.setIfInBounds_toArray, List.set_cons_zero, List.set_cons_succ]
                  refine wpAnyH_done (by kernel_rfl) ?_ _
                  go_wp2_with fail
                  go_roundw
                  case rel => exact ⟨r2 + 1, by go_num, by omega, hHeld⟩
                  case measure => simp [intOf]; omega
                · obtain rfl : r2 = q := by omega
                  have hI4 : ¬ (r2 : Int) < r2 := by omega
                  have A8 := A7.bl HW2
                  have B8 := B7w.trans (HW2.mono B7w.size)
                  clear I7 K17 K27 HW2
                  by_cases hle : (r : Int) ≤ da
                  · have he0 : e0 = 0 := by rw [hse.out, if_pos hle]
                    subst he0
                    clear hse
                    go_wp2_with (go_at_call 12; go_must (refine (hao.out _).mono ?_; rintro e w9 ⟨rfl, hb9⟩; have B9 := B8.trans (hb9.mono B8.size); have A9 := A8.bl hb9; have q1 := A9.cell 1))
                    go_ret
                    exact ⟨rfl, B9⟩
                  · have he0 : e0 = 2 := by rw [hse.out, if_neg hle]
                    subst he0
                    clear hse
                    go_wp2_with (go_at_call 12; go_must (refine (hao.out _).mono ?_; rintro e w9 ⟨rfl, hb9⟩; have B9 := B8.trans (hb9.mono B8.size); have A9 := A8.bl hb9; have q1 := A9.cell 1))
                    go_ret
                    refine ⟨?_, B9⟩
                    show Ending.returned (.bool !decide ((r : Int) ≤ da)) = _
                    rw [decide_eq_false (by omega)]
                    rfl
theorem fresh_walk (p : PgT) {sp : Option Addr} {k cap : Nat} (dl : List Int) {sd : Option Addr} {nd cd : Nat} (w : World) (hM : PgM w.heap.size w [.slice sp k cap, .int .i64 p.da] p) (hD : MS w.heap.size w sd nd cd dl) (hDU : ∀ k, U64 (dl.getD k 0)) :
    Calls Try.prog 5 #[.agg #[.slice sp k cap, .int .i64 p.da], .slice sd nd cd] w (BoP true w) := by
  rcases kErr_cases p with ⟨hp, he⟩ | ⟨hp, hb, he⟩ | ⟨hp, hb, he⟩
  · exact fresh_no p sd nd cd w hM (by rw [he]; decide)
  · exact fresh_no p sd nd cd w hM (by rw [he]; decide)
  · obtain ⟨m, hm⟩ := Option.isSome_iff_exists.1 hp
    exact fresh_yes p dl sd nd cd w hM hD hDU hm hb
end Go.Proofs.Ytimmiidkjpbffaa
