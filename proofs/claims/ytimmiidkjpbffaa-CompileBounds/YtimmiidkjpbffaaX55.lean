/- Layer compile: the law CompileBounds. -/
import Derived.Test.YtimmiidkjpbffaaX47
import Derived.Test.YtimmiidkjpbffaaX53
import Derived.Test.YtimmiidkjpbffaaX54
import Derived.Test.YtimmiidkjpbffaaX31
import Derived.Handy
import Derived.BigQuiet
import Derived.BigRegion
import Derived.Deep.RegionHeld3
import Derived.Deep.RegionWith
namespace Go.Proofs.Ytimmiidkjpbffaa
open Go.RowKit
set_option maxRecDepth 100000
set_option linter.unusedVariables false
set_option linter.unusedSimpArgs false


set_option maxHeartbeats 4000000 in
theorem bounds_walk (p : PgT) (s : Int) {sp : Option Addr} {k cap : Nat} (w : World) (hM : PgM w.heap.size w [.slice sp k cap, .int .i64 p.da] p) (hs : -9223372036854775808 ≤ s ∧ s ≤ 9223372036854775807) :
    Calls Try.prog 4 #[.agg #[.slice sp k cap, .int .i64 p.da], .int .i64 s] w (BoP true w) := by
  have h13 := hid (fun U (hU : Below w.heap.size w U) => bound13_any p s U (PgM.below hU _ p hM) hU.size hs)
  have h14 := hid (fun U (hU : Below w.heap.size w U) => bound14_any p s U (PgM.below hU _ p hM) hU.size hs)
  have h15 := hid (fun U (hU : Below w.heap.size w U) => compile_any U hU.size (PgM.below hU _ p hM))
  have h16 := hid (fun U (hU : Below w.heap.size w U) => refMay_any p U (PgM.below hU _ p hM) hU.size)
  have h17 := hid (fun U (hU : Below w.heap.size w U) m (hm : pgN p = some m) (hb : ¬ kSize p ≤ 4096) => small17_no U hU.size (PgM.below hU _ p hM) hm hb)
  have hao := hid anchored_any
  unfold BoP at hao h16 h17
  unfold CmA at h15
  have hcs : (kErr p = 2 ∧ (pgN p).isSome = false ∧ cL p = []) ∨ (kErr p = 4 ∧ (pgN p).isSome = true ∧ cL p = [] ∧ ∃ m, pgN p = some m ∧ ¬ kSize p ≤ 4096) ∨ (kErr p = 0 ∧ imOk (cL p).length (cB p) (cD p) = true ∧ cD p = p.da ∧ (I64 (cB p) ∧ I64 (cD p))) := by
    rcases kErr_cases p with ⟨hp, he⟩ | ⟨hp, hb, he⟩ | ⟨hp, hb, he⟩
    · exact .inl ⟨he, by rw [hp]; rfl, (cNo (p := p) (by rw [he]; decide)).1⟩
    · obtain ⟨m, hm⟩ := Option.isSome_iff_exists.1 hp
      exact .inr (.inl ⟨he, hp, (cNo (p := p) (by rw [he]; decide)).1, m, hm, by omega⟩)
    · obtain ⟨m, hm⟩ := Option.isSome_iff_exists.1 hp
      have h1 : cL p = kWords p := if_pos he
      have h2 : cB p = (kSize p : Int) - p.da := if_pos he
      have h3 : cD p = p.da := if_pos he
      have hk := kWords_len hM hm
      exact .inr (.inr ⟨he, by rw [h1, h2, h3]; exact image_ok hM hm hb, h3, by rw [h2, h3]; unfold I64; omega⟩)
  have A0 := Arr.new w 47 #[.slice sp k cap, .int .i64 p.da]
  have b0 := ab w (.cells #[.slice sp k cap, .int .i64 p.da] 47)
  generalize (bdR p s).1 = b1 at *
  generalize (bdR p s).2 = b2 at *
  generalize cB p = B at *
  generalize cD p = D at *
  generalize cL p = L at *
  generalize kErr p = ke at *
  generalize p.da = da at *
  replace hcs := hid hcs
  clear hM
  go_enter Try.func4, Try.ntmps4
  go_upto_region 1 with fail
  generalize w.alloc (.cells #[.slice sp k cap, .int .i64 da] 47) = U0 at *
  have a0 := A0.cell 0
  have a1 := A0.cell 1
  go_upto_region 2 with (go_at_call 13; go_must (refine (h13.out U0 b0).mono ?_; rintro e w1 ⟨rfl, hb1⟩))
  have B1 := b0.trans (hb1.mono b0.size)
  have A1 := A0.bl hb1
  clear b0 hb1 A0 a0 a1 h13
  have a0 := A1.cell 0
  have a1 := A1.cell 1
  go_upto_region 3 with (go_at_call 14; go_must (refine (h14.out w1 B1).mono ?_; rintro e w2 ⟨rfl, hb2⟩))
  have B2 := B1.trans (hb2.mono B1.size)
  have A2 := A1.bl hb2
  clear B1 hb2 A1 a0 a1 h14
  have a0 := A2.cell 0
  have a1 := A2.cell 1
  go_upto_region 4 with (go_at_call 15; go_must (refine (h15.out w2 B2).mono ?_; rintro e w3 ⟨sp1, n1, cap1, rfl, hM1, hb3⟩))
  have B3 := (B2.trans (hb3.mono B2.size)).alloc (B2.trans (hb3.mono B2.size)).size (.cells #[.slice sp1 n1 cap1, .int .i64 B, .int .i64 D] 24)
  have A3 := (A2.bl hb3).alloc (.cells #[.slice sp1 n1 cap1, .int .i64 B, .int .i64 D] 24)
  have I3 := Arr.new w3 24 #[.slice sp1 n1 cap1, .int .i64 B, .int .i64 D]
  have M3 := (hM1.below (ab w3 (.cells #[.slice sp1 n1 cap1, .int .i64 B, .int .i64 D] 24))).here
  clear B2 hb3 A2 a0 a1 hM1
  generalize w3.alloc (.cells #[.slice sp1 n1 cap1, .int .i64 B, .int .i64 D] 24) = U3 at *
  generalize w3.heap.size = i1 at *
  have a0 := A3.cell 0
  have a1 := A3.cell 1
  go_upto_region 5 with (go_at_call 15; go_must (refine (h15.out U3 B3).mono ?_; rintro e w4 ⟨sp2, n2, cap2, rfl, hM2, hb4⟩))
  have B4 := (B3.trans (hb4.mono B3.size)).alloc (B3.trans (hb4.mono B3.size)).size (.cells #[.slice sp2 n2 cap2, .int .i64 B, .int .i64 D] 24)
  have A4 := (A3.bl hb4).alloc (.cells #[.slice sp2 n2 cap2, .int .i64 B, .int .i64 D] 24)
  have E1 := (I3.bl hb4).alloc (.cells #[.slice sp2 n2 cap2, .int .i64 B, .int .i64 D] 24)
  have E2 := Arr.new w4 24 #[.slice sp2 n2 cap2, .int .i64 B, .int .i64 D]
  have M1 := ((M3.below hb4).here.below (ab w4 (.cells #[.slice sp2 n2 cap2, .int .i64 B, .int .i64 D] 24))).here
  have M2 := (hM2.below (ab w4 (.cells #[.slice sp2 n2 cap2, .int .i64 B, .int .i64 D] 24))).here
  clear B3 hb4 A3 I3 M3 a0 a1 hM2 h15
  generalize w4.alloc (.cells #[.slice sp2 n2 cap2, .int .i64 B, .int .i64 D] 24) = U4 at *
  generalize w4.heap.size = i2 at *
  obtain rfl : n1 = n2 := M1.len.out.trans M2.len.out.symm
  have hns := M1.small
  have a0 := E1.cell 0
  have a1 := E1.cell 1
  have a2 := E1.cell 2
  have e0 := E2.cell 0
  have e1 := E2.cell 1
  have e2 := E2.cell 2
  go_upto_region 7 with fail
  clear a0 a1 a2 e0 e1 e2
  go_wp2_with fail
  go_loopw [13] (fun v wr => ∃ (j : Nat), v = .int .i64 (j : Int) ∧ j ≤ n1 ∧ Below U4.heap.size U4 wr)
    (fun v _ => n1 - (intOf v).toNat)
  case atStart => exact ⟨0, rfl, by omega, Below.refl _ _⟩
  case round =>
    obtain ⟨j, rfl, hj, HW⟩ := hrel
    have a0 := (E1.bl HW).cell 0
    by_cases hlt : j < n1
    · have hI : (j : Int) < n1 := by omega
      obtain ⟨g1, o1, hsp1, hg1, hc1⟩ := M1.at0 (by omega)
      obtain ⟨g2, o2, hsp2, hg2, hc2⟩ := M2.at0 (by omega)
      subst hsp1
      subst hsp2
      go_upto_region 10 with fail
      clear a0
      refine wp_region_held_drew (S := fun u => Below U4.heap.size U4 u) (by kernel_rfl) (dw1 HW) (fun hHeld => ?_)
      refine wpAnyH_take (i := 0) (oi := ⟨_, _, _, _, _, _⟩) (v := ?_) rfl (by kernel_rfl) (by kernel_rfl) (by kernel_rfl) (fun _ _ _ h => h) (Or.inl ⟨by rfl, ?_⟩) (by assumption) ?_
      rotate_left
      · intro u hSw
        go_simp
        try (with_reducible rfl)
      try simp only [Act.put, List.setIfInBounds_toArray, List.set_cons_zero, List.set_cons_succ]
      refine wpAnyH_take (i := 1) (oi := ⟨_, _, _, _, _, _⟩) (v := ?_) rfl (by kernel_rfl) (by kernel_rfl) (by kernel_rfl) (fun _ _ _ h => h) (Or.inl ⟨by rfl, ?_⟩) (by assumption) ?_
      rotate_left
      · intro u hSw
        have a0 := (E1.bl hSw).cell 0
        go_simp
        try (with_reducible rfl)
      try simp only [Act.put, List.setIfInBounds_toArray, List.set_cons_zero, List.set_cons_succ]
      refine wpAnyH_take (i := 2) (oi := ⟨_, _, _, _, _, _⟩) (v := ?_) rfl (by kernel_rfl) (by kernel_rfl) (by kernel_rfl) (fun _ _ _ h => h) (Or.inl ⟨by rfl, ?_⟩) (by assumption) ?_
      rotate_left
      · intro u hSw
        go_simp
        try (with_reducible rfl)
      try simp only [Act.put, List.setIfInBounds_toArray, List.set_cons_zero, List.set_cons_succ]
      refine wpAnyH_take (i := 3) (oi := ⟨_, _, _, _, _, _⟩) (v := ?_) rfl (by kernel_rfl) (by kernel_rfl) (by kernel_rfl) (fun _ _ _ h => h) (Or.inl ⟨by rfl, ?_⟩) (by assumption) ?_
      rotate_left
      · intro u hSw
        go_simp
        try (with_reducible rfl)
      try simp only [Act.put, List.setIfInBounds_toArray, List.set_cons_zero, List.set_cons_succ]
      refine wpAnyH_take (i := 4) (oi := ⟨_, _, _, _, _, _⟩) (v := ?_) rfl (by kernel_rfl) (by kernel_rfl) (by kernel_rfl) (fun _ _ _ h => h) (Or.inl ⟨by rfl, ?_⟩) (by assumption) ?_
      rotate_left
      · intro u hSw
        have cx := (hSw.cell (p := ⟨g1, o1 + j, none⟩) hg1).trans (hc1 j hlt)
        go_simp
        try (with_reducible rfl)
      try simp only [Act.put, List.setIfInBounds_toArray, List.set_cons_zero, List.set_cons_succ]
      refine wpAnyH_take (i := 5) (oi := ⟨_, _, _, _, _, _⟩) (v := ?_) rfl (by kernel_rfl) (by kernel_rfl) (by kernel_rfl) (fun _ _ _ h => h) (Or.inl ⟨by rfl, ?_⟩) (by assumption) ?_
      rotate_left
      · intro u hSw
        go_simp
        try (with_reducible rfl)
      try simp only [Act.put, List.setIfInBounds_toArray, List.set_cons_zero, List.set_cons_succ]
      refine wpAnyH_take (i := 6) (oi := ⟨_, _, _, _, _, _⟩) (v := ?_) rfl (by kernel_rfl) (by kernel_rfl) (by kernel_rfl) (fun _ _ _ h => h) (Or.inl ⟨by rfl, ?_⟩) (by assumption) ?_
      rotate_left
      · intro u hSw
        have a0 := (E2.bl hSw).cell 0
        go_simp
        try (with_reducible rfl)
      try simp only [Act.put, List.setIfInBounds_toArray, List.set_cons_zero, List.set_cons_succ]
      refine wpAnyH_take (i := 7) (oi := ⟨_, _, _, _, _, _⟩) (v := ?_) rfl (by kernel_rfl) (by kernel_rfl) (by kernel_rfl) (fun _ _ _ h => h) (Or.inl ⟨by rfl, ?_⟩) (by assumption) ?_
      rotate_left
      · intro u hSw
        go_simp
        try (with_reducible rfl)
      try simp only [Act.put, List.setIfInBounds_toArray, List.set_cons_zero, List.set_cons_succ]
      refine wpAnyH_take (i := 8) (oi := ⟨_, _, _, _, _, _⟩) (v := ?_) rfl (by kernel_rfl) (by kernel_rfl) (by kernel_rfl) (fun _ _ _ h => h) (Or.inl ⟨by rfl, ?_⟩) (by assumption) ?_
      rotate_left
      · intro u hSw
        go_simp
        try (with_reducible rfl)
      try simp only [Act.put, List.setIfInBounds_toArray, List.set_cons_zero, List.set_cons_succ]
      refine wpAnyH_take (i := 9) (oi := ⟨_, _, _, _, _, _⟩) (v := ?_) rfl (by kernel_rfl) (by kernel_rfl) (by kernel_rfl) (fun _ _ _ h => h) (Or.inl ⟨by rfl, ?_⟩) (by assumption) ?_
      rotate_left
      · intro u hSw
        have cx := (hSw.cell (p := ⟨g2, o2 + j, none⟩) hg2).trans (hc2 j hlt)
        go_simp
        try (with_reducible rfl)
      try simp only [Act.put, List.setIfInBounds_toArray, List.set_cons_zero, List.set_cons_succ]
      refine wpAnyH_take (i := 10) (oi := ⟨_, _, _, _, _, _⟩) (v := ?_) rfl (by kernel_rfl) (by kernel_rfl) (by kernel_rfl) (fun _ _ _ h => h) (Or.inl ⟨by rfl, ?_⟩) (by assumption) ?_
      rotate_left
      · intro u hSw
        go_simp
        try (with_reducible rfl)
      try simp only [Act.put, List.setIfInBounds_toArray, List.set_cons_zero, List.set_cons_succ]
      refine wpAnyH_done (by kernel_rfl) ?_ _
      go_wp2_with fail
      go_roundw
      case rel => exact ⟨j + 1, by go_num, by omega, hHeld⟩
      case measure => simp [intOf]; omega
    · obtain rfl : j = n1 := by omega
      have hI : ¬ (j : Int) < j := by omega
      have BW := B4.trans (HW.mono B4.size)
      have FW := A4.bl HW
      have F1 := E1.bl HW
      have hml := M1.len
      clear E1 E2 M1 M2 A4 B4 hlt
      rcases hcs.out with ⟨rfl, hps, rfl⟩ | ⟨rfl, hps, rfl, m, hpm, hbg⟩ | ⟨rfl, hio, rfl, hiB, hiD⟩
      · obtain rfl : j = 0 := hml.out
        rw [hps] at h16
        clear hcs h17 hml
        go_wp2_with (first
          | (go_at_call 12; go_must (refine (hao.out _).mono ?_; rintro e w5 ⟨rfl, hb5⟩; have B5 := BW.trans (hb5.mono BW.size); have F5 := FW.bl hb5; have F15 := F1.bl hb5; have q0 := F5.cell 0; have q1 := F5.cell 1; clear a0))
          | (go_at_call 16; go_must (refine (h16.out w5 B5).mono ?_; rintro e w6 ⟨rfl, hb6⟩; have B6 := B5.trans (hb6.mono B5.size); have F6 := F15.bl hb6; have a0 := F6.cell 0; clear q0 q1)))
        go_ret
        exact ⟨rfl, B6⟩
      · obtain rfl : j = 0 := hml.out
        rw [hps] at h16
        have h17 := hid (fun U hU => h17.out U hU m hpm hbg)
        clear hcs hml
        go_wp2_with (first
          | (go_at_call 12; go_must (refine (hao.out _).mono ?_; rintro e w5 ⟨rfl, hb5⟩; have B5 := BW.trans (hb5.mono BW.size); have F5 := FW.bl hb5; have F15 := F1.bl hb5; have q0 := F5.cell 0; have q1 := F5.cell 1; clear a0))
          | (go_at_call 16; go_must (refine (h16.out w5 B5).mono ?_; rintro e w6 ⟨rfl, hb6⟩; have B6 := B5.trans (hb6.mono B5.size); have F6 := F5.bl hb6; have F16 := F15.bl hb6; clear q0 q1; have q0 := F6.cell 0; have q1 := F6.cell 1))
          | (go_at_call 17; go_must (refine (h17.out w6 B6).mono ?_; rintro e w7 ⟨rfl, hb7⟩; have B7 := B6.trans (hb7.mono B6.size); have F7 := F16.bl hb7; have a0 := F7.cell 0; clear q0 q1)))
        go_ret
        exact ⟨rfl, B7⟩
      · rw [← hml.out] at hio
        have h18 := hid (fun U => may18_any sp1 j cap1 B D U hns hiB hiD)
        rw [hio] at h18
        clear hcs hml hio h16 h17
        go_wp2_with (first
          | (go_at_call 12; go_must (refine (hao.out _).mono ?_; rintro e w5 ⟨rfl, hb5⟩; have B5 := BW.trans (hb5.mono BW.size); have F5 := FW.bl hb5; have F15 := F1.bl hb5; clear a0; have a0 := F15.cell 0; have a1 := F15.cell 1; have a2 := F15.cell 2))
          | (go_at_call 18; go_must (refine (h18.out w5).mono ?_; rintro e w6 ⟨rfl, hb6⟩; have B6 := B5.trans (hb6.mono B5.size); have F6 := F5.bl hb6; have F16 := F15.bl hb6; clear a0 a1 a2; have q1 := F6.cell 1; have a2 := F16.cell 2)))
        go_ret
        exact ⟨rfl, B6⟩
end Go.Proofs.Ytimmiidkjpbffaa
