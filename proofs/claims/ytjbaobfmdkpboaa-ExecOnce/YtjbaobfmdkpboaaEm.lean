/- Layer exec: the law ExecOnce. -/
import Derived.Test.YtjbaobfmdkpboaaEm0
namespace Go.Proofs.Ytjbaobfmdkpboaa
set_option linter.unusedSectionVars false
set_option maxHeartbeats 1000000
open Go.RowKit
set_option maxRecDepth 100000
set_option linter.unusedVariables false
set_option linter.unusedSimpArgs false

variable [DecidableEq Ac] [DecidableEq Ou] [DecidableEq Mg]
set_option maxHeartbeats 4000000 in
theorem once_walk (ps : List Ac) (sp : Option Addr) (n cap : Nat) (os : List Ou) (sb : Option Addr) (nb cb : Nat) (L : List Int) (w : World) (hS : SS w.heap.size w ps sp n cap os) (hL : BS w.heap.size w sb nb cb L) :
    Calls Try.prog 6 #[.agg (stA ps sp n cap), .slice sb nb cb] w fun e w' => e = .returned (.bool true) ∧ Below w.heap.size w w' := by
  have h1 := hS.a32.out
  have h2 := hS.l32
  have hok := hS.ok.out
  have hz30 := zeroValue30
  have hzsz : (stA zs none 0 0).size = 1089 := stA_size zs_len zs_l32
  generalize stA zs none 0 0 = Z at hz30 hzsz
  have z27 := zv27
  have hmz := Mg.size mg0_ok
  have hmo := rdM_ok hL.bts
  have A0 := Arr.new w 30 (stA ps sp n cap)
  have B0 := alloc_bel' w (.cells (stA ps sp n cap) 30)
  have hD := Hid.mk' (fun u h h' => delta_x ps w.heap.size sp n cap os sb nb cb L w.heap.size u h h')
  have hRd := Hid.mk' (fun u h => refRead_any sb nb cb w.heap.size L u h)
  obtain ⟨hq1, hq3, hq4⟩ := xP_ok (os := os) hL.bts h1 hS.ok.out hS.outs.ok
  have hq2 : ∀ a ∈ xP ps os L, a.lk.length = 32 := fun a ha => (hq3 a ha).l32
  unfold DX at hD
  unfold RPost at hRd
  go_enter Try.func6, Try.ntmps6
  cases hd : xD ps os L with
  | false =>
    rw [hd] at hD
    have hee : Hid (xE ps os = 2 ∨ xE ps os = 0) := Hid.mk' (by unfold xE; split <;> simp)
    clear hd
    generalize xP ps os L = Q at *
    generalize xO ps os L = O at *
    generalize rdM L = m at *
    generalize rdE L = g at *
    rcases hee.out with he | he
    · rw [he] at hD
      clear hee he
      go_upto_region 2 with (first
        | (refine atL 30 (.tmp 2) ?_; refine ld30 (by rfl) _ (by rfl) w.heap.size 30 (by rfl) ps sp n cap h1 h2 A0 ?_)
        | (go_at_call 8; go_must (refine (hD.out _ (hS.below B0) (hL.below B0)).mono ?_; rintro r w1 ⟨s1, n1, c1, rfl, S1, -, hb1⟩))
        | (refine atS 30 (.tmp 5) (.tmp 17) ?_; refine st30n (by rfl) _ _ (by rfl) w1 w1.heap.size rfl hzsz Q s1 n1 c1 (by rfl) (by rfl) hq1 hq2 ?_))
      have hz1 : w.heap.size + 1 ≤ w1.heap.size := by have := hb1.size; simpa using this
      have bb1 := alloc_bel' w1 (.cells (stA Q s1 n1 c1) 30)
      have A1 := (A0.below hb1 A0.lt).alloc (.cells (stA Q s1 n1 c1) 30)
      have T1 := Arr.new w1 30 (stA Q s1 n1 c1)
      have B1 := (B0.trans (hb1.mono (by simp))).alloc (by omega) (.cells (stA Q s1 n1 c1) 30)
      have S1' := S1.below bb1
      have hW1 : w1.heap.size < (w1.alloc (.cells (stA Q s1 n1 c1) 30)).heap.size := by simp
      generalize w1.alloc (.cells (stA Q s1 n1 c1) 30) = W1 at *
      generalize w1.heap.size = G1 at *
      clear A0 B0 hb1 bb1 S1
      go_upto_region 3 with (first
        | (go_at_call 18; go_must (refine (hRd.out _ (hL.below B1)).mono ?_; rintro r w2 ⟨rfl, hb2⟩))
        | (refine atS 44 (.tmp 8) (.tmp 23) ?_; refine st27n (by rfl) _ _ (by rfl) w2 w2.heap.size rfl hmz m (by rfl) (by rfl) hmo ?_))
      have hz2 := hb2.size
      have bb2 := alloc_bel' w2 (.cells m.arr 44)
      have A2 := (A1.below hb2 A1.lt).alloc (.cells m.arr 44)
      have T2 := (T1.below hb2 T1.lt).alloc (.cells m.arr 44)
      have M2 := Arr.new w2 44 m.arr
      have B2 := (B1.trans (hb2.mono B1.size)).alloc (Nat.le_trans B1.size hz2) (.cells m.arr 44)
      have S12 := (S1'.below (hb2.mono (by omega))).below (bb2.mono (by omega))
      have hW2 : w2.heap.size < (w2.alloc (.cells m.arr 44)).heap.size := by simp
      generalize w2.alloc (.cells m.arr 44) = W2 at *
      generalize w2.heap.size = GM at *
      clear A1 T1 B1 hb2 bb2 S1'
      have c0 := mg_c0 M2
      go_wp2_with (first
        | go_skip
        | (go_at_call 13; go_must (refine (anchored_any _).mono ?_; rintro r w3 ⟨rfl, hb3⟩; have B3 := B2.trans (hb3.mono B2.size))))
      go_ret
      exact ⟨rfl, B3⟩
    · rw [he] at hD
      clear hee he
      go_upto_region 2 with (first
        | (refine atL 30 (.tmp 2) ?_; refine ld30 (by rfl) _ (by rfl) w.heap.size 30 (by rfl) ps sp n cap h1 h2 A0 ?_)
        | (go_at_call 8; go_must (refine (hD.out _ (hS.below B0) (hL.below B0)).mono ?_; rintro r w1 ⟨s1, n1, c1, rfl, S1, -, hb1⟩))
        | (refine atS 30 (.tmp 5) (.tmp 17) ?_; refine st30n (by rfl) _ _ (by rfl) w1 w1.heap.size rfl hzsz Q s1 n1 c1 (by rfl) (by rfl) hq1 hq2 ?_))
      have hz1 : w.heap.size + 1 ≤ w1.heap.size := by have := hb1.size; simpa using this
      have bb1 := alloc_bel' w1 (.cells (stA Q s1 n1 c1) 30)
      have A1 := (A0.below hb1 A0.lt).alloc (.cells (stA Q s1 n1 c1) 30)
      have T1 := Arr.new w1 30 (stA Q s1 n1 c1)
      have B1 := (B0.trans (hb1.mono (by simp))).alloc (by omega) (.cells (stA Q s1 n1 c1) 30)
      have S1' := S1.below bb1
      have hW1 : w1.heap.size < (w1.alloc (.cells (stA Q s1 n1 c1) 30)).heap.size := by simp
      generalize w1.alloc (.cells (stA Q s1 n1 c1) 30) = W1 at *
      generalize w1.heap.size = G1 at *
      clear A0 B0 hb1 bb1 S1
      go_upto_region 3 with (first
        | (go_at_call 18; go_must (refine (hRd.out _ (hL.below B1)).mono ?_; rintro r w2 ⟨rfl, hb2⟩))
        | (refine atS 44 (.tmp 8) (.tmp 23) ?_; refine st27n (by rfl) _ _ (by rfl) w2 w2.heap.size rfl hmz m (by rfl) (by rfl) hmo ?_))
      have hz2 := hb2.size
      have bb2 := alloc_bel' w2 (.cells m.arr 44)
      have A2 := (A1.below hb2 A1.lt).alloc (.cells m.arr 44)
      have T2 := (T1.below hb2 T1.lt).alloc (.cells m.arr 44)
      have M2 := Arr.new w2 44 m.arr
      have B2 := (B1.trans (hb2.mono B1.size)).alloc (Nat.le_trans B1.size hz2) (.cells m.arr 44)
      have S12 := (S1'.below (hb2.mono (by omega))).below (bb2.mono (by omega))
      have hW2 : w2.heap.size < (w2.alloc (.cells m.arr 44)).heap.size := by simp
      generalize w2.alloc (.cells m.arr 44) = W2 at *
      generalize w2.heap.size = GM at *
      clear A1 T1 B1 hb2 bb2 S1'
      have c0 := mg_c0 M2
      go_wp2_with (first
        | go_skip
        | (go_at_call 13; go_must (refine (anchored_any _).mono ?_; rintro r w3 ⟨rfl, hb3⟩; have B3 := B2.trans (hb3.mono B2.size))))
      go_ret
      exact ⟨rfl, B3⟩
  | true =>
    obtain ⟨hma, he, hr0, hac⟩ := did_some hd
    have hmy := rdE_may hr0
    have hkeep := act_keeps hmo hmy h1 hok hma hac
    rw [hd, he] at hD
    rw [hr0] at hRd
    have hdl2 : Hid (dlt (xP ps os L) (xO ps os L) L = act (xP ps os L) (xO ps os L) (rdM L)) := Hid.mk' (by unfold dlt; rw [if_pos hr0])
    have hD2 := Hid.mk' (fun N sp n cap u h h' => delta_x (xP ps os L) N sp n cap (xO ps os L) sb nb cb L w.heap.size u h h')
    unfold DX at hD2
    by_cases hk : (rdM L).kd = 1
    · clear hd he hr0 hac hkeep hdl2 hD2
      generalize xP ps os L = Q at *
      generalize xO ps os L = O at *
      generalize rdM L = m at *
      go_upto_region 2 with (first
        | (refine atL 30 (.tmp 2) ?_; refine ld30 (by rfl) _ (by rfl) w.heap.size 30 (by rfl) ps sp n cap h1 h2 A0 ?_)
        | (go_at_call 8; go_must (refine (hD.out _ (hS.below B0) (hL.below B0)).mono ?_; rintro r w1 ⟨s1, n1, c1, rfl, S1, -, hb1⟩))
        | (refine atS 30 (.tmp 5) (.tmp 17) ?_; refine st30n (by rfl) _ _ (by rfl) w1 w1.heap.size rfl hzsz Q s1 n1 c1 (by rfl) (by rfl) hq1 hq2 ?_))
      have hz1 : w.heap.size + 1 ≤ w1.heap.size := by have := hb1.size; simpa using this
      have bb1 := alloc_bel' w1 (.cells (stA Q s1 n1 c1) 30)
      have A1 := (A0.below hb1 A0.lt).alloc (.cells (stA Q s1 n1 c1) 30)
      have T1 := Arr.new w1 30 (stA Q s1 n1 c1)
      have B1 := (B0.trans (hb1.mono (by simp))).alloc (by omega) (.cells (stA Q s1 n1 c1) 30)
      have S1' := S1.below bb1
      have hW1 : w1.heap.size < (w1.alloc (.cells (stA Q s1 n1 c1) 30)).heap.size := by simp
      generalize w1.alloc (.cells (stA Q s1 n1 c1) 30) = W1 at *
      generalize w1.heap.size = G1 at *
      clear A0 B0 hb1 bb1 S1
      go_upto_region 3 with (first
        | (go_at_call 18; go_must (refine (hRd.out _ (hL.below B1)).mono ?_; rintro r w2 ⟨rfl, hb2⟩))
        | (refine atS 44 (.tmp 8) (.tmp 23) ?_; refine st27n (by rfl) _ _ (by rfl) w2 w2.heap.size rfl hmz m (by rfl) (by rfl) hmo ?_))
      have hz2 := hb2.size
      have bb2 := alloc_bel' w2 (.cells m.arr 44)
      have A2 := (A1.below hb2 A1.lt).alloc (.cells m.arr 44)
      have T2 := (T1.below hb2 T1.lt).alloc (.cells m.arr 44)
      have M2 := Arr.new w2 44 m.arr
      have B2 := (B1.trans (hb2.mono B1.size)).alloc (Nat.le_trans B1.size hz2) (.cells m.arr 44)
      have S12 := (S1'.below (hb2.mono (by omega))).below (bb2.mono (by omega))
      have hW2 : w2.heap.size < (w2.alloc (.cells m.arr 44)).heap.size := by simp
      generalize w2.alloc (.cells m.arr 44) = W2 at *
      generalize w2.heap.size = GM at *
      clear A1 T1 B1 hb2 bb2 S1'
      have c0 := mg_c0 M2
      rw [hk] at c0
      clear hk
      go_wp2_with (first
        | go_skip
        | (go_at_call 13; go_must (refine (anchored_any _).mono ?_; rintro r w3 ⟨rfl, hb3⟩; have B3 := B2.trans (hb3.mono B2.size))))
      go_ret
      exact ⟨rfl, B3⟩
    · obtain ⟨ho1, a, b, ha, hb, hbn, han⟩ := act_once hmo h1 hok hk hac
      obtain ⟨e1, e2, e3, e4⟩ := did_none (L := L) hkeep.1 (by rw [hdl2.out]; exact ho1)
      rw [e1, e2, e3, e4] at hD2
      have hsame := Hid.mk' (smB_self (xP ps os L) (xO ps os L))
      have hkd : ((rdM L).kd == 1) = false := by simp [hk]
      have hf32 : (rdM L).fr < 32 := by have := may_kinds hmo hmy; omega
      have hf0 := hmo.f0
      clear hd he hr0 hac hkeep hdl2 ho1 e1 e2 e3 e4 hma hk
      generalize xP ps os L = Q at *
      generalize xO ps os L = O at *
      generalize rdM L = m at *
      obtain ⟨i, hi⟩ : ∃ i : Nat, Hid (m.fr = (i : Int)) := ⟨m.fr.toNat, Hid.mk' (by omega)⟩
      have hi32 : i < 32 := by have := hi.out; omega
      have hI : (i : Int) < 32 := by omega
      rw [hi.out, Int.toNat_natCast] at ha hb
      replace ha := Hid.mk' ha
      replace hb := Hid.mk' hb
      have hn0 := (hok a (List.mem_of_getElem? ha.out)).n0
      obtain ⟨x, hx⟩ : ∃ x, Hid (b.non = x) := ⟨_, rfl⟩
      have hwx : IntKind.u64.wrap (a.non + 1) = x := by rw [wrap64_of (by omega) han, ← hbn, hx.out]
      have hxx : (x == x) = true := by simp
      clear hbn han
      go_upto_region 2 with (first
        | (refine atL 30 (.tmp 2) ?_; refine ld30 (by rfl) _ (by rfl) w.heap.size 30 (by rfl) ps sp n cap h1 h2 A0 ?_)
        | (go_at_call 8; go_must (refine (hD.out _ (hS.below B0) (hL.below B0)).mono ?_; rintro r w1 ⟨s1, n1, c1, rfl, S1, -, hb1⟩))
        | (refine atS 30 (.tmp 5) (.tmp 17) ?_; refine st30n (by rfl) _ _ (by rfl) w1 w1.heap.size rfl hzsz Q s1 n1 c1 (by rfl) (by rfl) hq1 hq2 ?_))
      have hz1 : w.heap.size + 1 ≤ w1.heap.size := by have := hb1.size; simpa using this
      have bb1 := alloc_bel' w1 (.cells (stA Q s1 n1 c1) 30)
      have A1 := (A0.below hb1 A0.lt).alloc (.cells (stA Q s1 n1 c1) 30)
      have T1 := Arr.new w1 30 (stA Q s1 n1 c1)
      have B1 := (B0.trans (hb1.mono (by simp))).alloc (by omega) (.cells (stA Q s1 n1 c1) 30)
      have S1' := S1.below bb1
      have hW1 : w1.heap.size < (w1.alloc (.cells (stA Q s1 n1 c1) 30)).heap.size := by simp
      generalize w1.alloc (.cells (stA Q s1 n1 c1) 30) = W1 at *
      generalize w1.heap.size = G1 at *
      clear A0 B0 hb1 bb1 S1
      go_upto_region 3 with (first
        | (go_at_call 18; go_must (refine (hRd.out _ (hL.below B1)).mono ?_; rintro r w2 ⟨rfl, hb2⟩))
        | (refine atS 44 (.tmp 8) (.tmp 23) ?_; refine st27n (by rfl) _ _ (by rfl) w2 w2.heap.size rfl hmz m (by rfl) (by rfl) hmo ?_))
      have hz2 := hb2.size
      have bb2 := alloc_bel' w2 (.cells m.arr 44)
      have A2 := (A1.below hb2 A1.lt).alloc (.cells m.arr 44)
      have T2 := (T1.below hb2 T1.lt).alloc (.cells m.arr 44)
      have M2 := Arr.new w2 44 m.arr
      have B2 := (B1.trans (hb2.mono B1.size)).alloc (Nat.le_trans B1.size hz2) (.cells m.arr 44)
      have S12 := (S1'.below (hb2.mono (by omega))).below (bb2.mono (by omega))
      have hW2 : w2.heap.size < (w2.alloc (.cells m.arr 44)).heap.size := by simp
      generalize w2.alloc (.cells m.arr 44) = W2 at *
      generalize w2.heap.size = GM at *
      clear A1 T1 B1 hb2 bb2 S1'
      have c0 := mg_c0 M2
      go_upto_region 6 with (first
        | go_skip
        | (refine atL 30 (.tmp 5) ?_; refine ld30 (by rfl) _ (by rfl) G1 30 (by rfl) Q s1 n1 c1 hq1 hq2 T2 ?_)
        | (go_at_call 8; go_must (refine (hD2.out _ _ _ _ _ S12 (hL.below B2)).mono ?_; rintro r w3 ⟨s3, n3, c3, rfl, S3, -, hb3⟩))
        | (refine atS 30 (.tmp 10) (.tmp 45) ?_; refine st30n (by rfl) _ _ (by rfl) w3 w3.heap.size rfl hzsz Q s3 n3 c3 (by rfl) (by rfl) hq1 hq2 ?_))
      have hz3 := hb3.size
      have bb3 := alloc_bel' w3 (.cells (stA Q s3 n3 c3) 30)
      have A3 := ((A2.below hb3 A2.lt).alloc (.cells (stA Q s3 n3 c3) 30)).drew
      have T3 := ((T2.below hb3 T2.lt).alloc (.cells (stA Q s3 n3 c3) 30)).drew
      have M3 := ((M2.below hb3 M2.lt).alloc (.cells (stA Q s3 n3 c3) 30)).drew
      have V3 := (Arr.new w3 30 (stA Q s3 n3 c3)).drew
      have B3 := ((B2.trans (hb3.mono B2.size)).alloc (Nat.le_trans B2.size hz3) (.cells (stA Q s3 n3 c3) 30)).drew
      have S13 := ((S12.below (hb3.mono (by omega))).below (bb3.mono (by omega))).below ((drew_bel _).mono (by simp; omega))
      have S33 := (S3.below bb3).below ((drew_bel _).mono (by simp))
      have hW3 : w3.heap.size < (w3.alloc (.cells (stA Q s3 n3 c3) 30)).drew.heap.size := by rw [drew_size]; simp
      clear A2 T2 M2 B2 S12 hb3 bb3 S3 c0
      refine wp_region_held_drew (S := fun u => Below w.heap.size w u ∧ Arr u w.heap.size 30 (stA ps sp n cap) ∧ Arr u G1 30 (stA Q s1 n1 c1) ∧ Arr u w3.heap.size 30 (stA Q s3 n3 c3) ∧ Arr u GM 44 m.arr) (by kernel_rfl) (⟨B3, A3, T3, V3, M3⟩) (fun hHeld => ?_)
      generalize (w3.alloc (.cells (stA Q s3 n3 c3) 30)).drew = U at *
      generalize w3.heap.size = G3 at *
      refine wpAnyH_ready (rs := [0]) (by kernel_rfl) (by simp) ?_
      refine AllReadyH.cons (o := ⟨_, _, _, _, _, _⟩) rfl (fun K hK => ?_) AllReadyH.nil
      go_simp
      refine (anchored_any _).mono ?_; rintro r u4 ⟨rfl, hb4⟩; have B4 := B3.trans (hb4.mono B3.size); have A4 := A3.below hb4 A3.lt; have T4 := T3.below hb4 T3.lt; have V4 := V3.below hb4 V3.lt; have M4 := M3.below hb4 M3.lt; have S14 := S13.below (hb4.mono (by omega)); have S34 := S33.below (hb4.mono (by omega))
      go_wp2_with fail
      refine hK.out _ _ ⟨B4, A4, T4, V4, M4⟩ (fun hHeld => ?_)
      clear hK K
      try simp only [Act.put, List.setIfInBounds_toArray, List.set_cons_zero, List.set_cons_succ]
      refine wpAnyH_take (i := 1) (oi := ⟨_, _, _, _, _, _⟩) (v := ?_) rfl (by kernel_rfl) (by kernel_rfl) (by kernel_rfl) (fun _ _ _ h => h) (Or.inl ⟨by rfl, ?_⟩) (by assumption) ?_
      rotate_left
      · intro u hSw
        go_simp
        try (with_reducible rfl)
      try simp only [Act.put, List.setIfInBounds_toArray, List.set_cons_zero, List.set_cons_succ]
      refine wpAnyH_take (i := 2) (oi := ⟨_, _, _, _, _, _⟩) (v := ?_) rfl (by kernel_rfl) (by kernel_rfl) (by kernel_rfl) (fun _ _ _ h => h) (Or.inl ⟨by rfl, ?_⟩) (by assumption) ?_
      rotate_left
      · intro u hSw
        go_simp
        try (with_reducible rfl)
      try simp only [Act.put, List.setIfInBounds_toArray, List.set_cons_zero, List.set_cons_succ]
      refine wpAnyH_take (i := 3) (oi := ⟨_, _, _, _, _, _⟩) (v := ?_) rfl (by kernel_rfl) (by kernel_rfl) (by kernel_rfl) (fun _ _ _ h => h) (Or.inl ⟨by rfl, ?_⟩) (by assumption) ?_
      rotate_left
      · intro u hSw
        go_simp
        try (with_reducible rfl)
      try simp only [Act.put, List.setIfInBounds_toArray, List.set_cons_zero, List.set_cons_succ]
      refine wpAnyH_take (i := 4) (oi := ⟨_, _, _, _, _, _⟩) (v := ?_) rfl (by kernel_rfl) (by kernel_rfl) (by kernel_rfl) (fun _ _ _ h => h) (Or.inl ⟨by rfl, ?_⟩) (by assumption) ?_
      rotate_left
      · intro u hSw
        go_simp
        try (with_reducible rfl)
      try simp only [Act.put, List.setIfInBounds_toArray, List.set_cons_zero, List.set_cons_succ]
      refine wpAnyH_take (i := 5) (oi := ⟨_, _, _, _, _, _⟩) (v := ?_) rfl (by kernel_rfl) (by kernel_rfl) (by kernel_rfl) (fun _ _ _ h => h) (Or.inl ⟨by rfl, ?_⟩) (by assumption) ?_
      rotate_left
      · intro u hSw
        go_simp
        try (with_reducible rfl)
      try simp only [Act.put, List.setIfInBounds_toArray, List.set_cons_zero, List.set_cons_succ]
      refine wpAnyH_take (i := 6) (oi := ⟨_, _, _, _, _, _⟩) (v := ?_) rfl (by kernel_rfl) (by kernel_rfl) (by kernel_rfl) (fun _ _ _ h => h) (Or.inl ⟨by rfl, ?_⟩) (by assumption) ?_
      rotate_left
      · intro u hSw
        go_simp
        try (with_reducible rfl)
      try simp only [Act.put, List.setIfInBounds_toArray, List.set_cons_zero, List.set_cons_succ]
      refine wpAnyH_take (i := 7) (oi := ⟨_, _, _, _, _, _⟩) (v := ?_) rfl (by kernel_rfl) (by kernel_rfl) (by kernel_rfl) (fun _ _ _ h => h) (Or.inl ⟨by rfl, ?_⟩) (by assumption) ?_
      rotate_left
      · intro u hSw
        go_simp
        try (with_reducible rfl)
      try simp only [Act.put, List.setIfInBounds_toArray, List.set_cons_zero, List.set_cons_succ]
      refine wpAnyH_take (i := 8) (oi := ⟨_, _, _, _, _, _⟩) (v := ?_) rfl (by kernel_rfl) (by kernel_rfl) (by kernel_rfl) (fun _ _ _ h => h) (Or.inl ⟨by rfl, ?_⟩) (by assumption) ?_
      rotate_left
      · intro u hSw
        go_simp
        try (with_reducible rfl)
      try simp only [Act.put, List.setIfInBounds_toArray, List.set_cons_zero, List.set_cons_succ]
      refine wpAnyH_take (i := 9) (oi := ⟨_, _, _, _, _, _⟩) (v := ?_) rfl (by kernel_rfl) (by kernel_rfl) (by kernel_rfl) (fun _ _ _ h => h) (Or.inl ⟨by rfl, ?_⟩) (by assumption) ?_
      rotate_left
      · intro u hSw
        go_simp
        try (with_reducible rfl)
      try simp only [Act.put, List.setIfInBounds_toArray, List.set_cons_zero, List.set_cons_succ]
      refine wpAnyH_take (i := 10) (oi := ⟨_, _, _, _, _, _⟩) rfl (by kernel_rfl) (by kernel_rfl) (by kernel_rfl) (fun _ _ _ h => h) (y30 (by rfl) (.tmp 5) rfl G1 30 rfl Q s1 n1 c1 hq1 hq2 (fun u hu => hu.2.2.1)) (by assumption) ?_
      try simp only [Act.put, List.setIfInBounds_toArray, List.set_cons_zero, List.set_cons_succ]
      refine wpAnyH_take (i := 11) (oi := ⟨_, _, _, _, _, _⟩) rfl (by kernel_rfl) (by kernel_rfl) (by kernel_rfl) (fun _ _ _ h => h) (y30 (by rfl) (.tmp 10) rfl G3 30 rfl Q s3 n3 c3 hq1 hq2 (fun u hu => hu.2.2.2.1)) (by assumption) ?_
      try simp only [Act.put, List.setIfInBounds_toArray, List.set_cons_zero, List.set_cons_succ]
      refine wpAnyH_ready (rs := [12]) (by kernel_rfl) (by simp) ?_
      refine AllReadyH.cons (o := ⟨_, _, _, _, _, _⟩) rfl (fun K hK => ?_) AllReadyH.nil
      go_simp
      refine (refSsame_any Q _ s1 n1 c1 O Q _ s3 n3 c3 O _ S14 S34).mono ?_; rw [hsame.out]; rintro r u5 ⟨rfl, hb5⟩; have B5 := B4.trans (hb5.mono B4.size); have A5 := A4.below hb5 A4.lt; have T5 := T4.below hb5 T4.lt; have V5 := V4.below hb5 V4.lt; have M5 := M4.below hb5 M4.lt
      go_wp2_with fail
      refine hK.out _ _ ⟨B5, A5, T5, V5, M5⟩ (fun hHeld => ?_)
      clear hK K
      try simp only [Act.put, List.setIfInBounds_toArray, List.set_cons_zero, List.set_cons_succ]
      refine wpAnyH_take (i := 13) (oi := ⟨_, _, _, _, _, _⟩) (v := ?_) rfl (by kernel_rfl) (by kernel_rfl) (by kernel_rfl) (fun _ _ _ h => h) (Or.inl ⟨by rfl, ?_⟩) (by assumption) ?_
      rotate_left
      · intro u hSw
        go_simp
        try (with_reducible rfl)
      try simp only [Act.put, List.setIfInBounds_toArray, List.set_cons_zero, List.set_cons_succ]
      refine wpAnyH_take (i := 14) (oi := ⟨_, _, _, _, _, _⟩) (v := ?_) rfl (by kernel_rfl) (by kernel_rfl) (by kernel_rfl) (fun _ _ _ h => h) (Or.inl ⟨by rfl, ?_⟩) (by assumption) ?_
      rotate_left
      · intro u hSw
        go_simp
        try (with_reducible rfl)
      try simp only [Act.put, List.setIfInBounds_toArray, List.set_cons_zero, List.set_cons_succ]
      refine wpAnyH_take (i := 15) (oi := ⟨_, _, _, _, _, _⟩) (v := ?_) rfl (by kernel_rfl) (by kernel_rfl) (by kernel_rfl) (fun _ _ _ h => h) (Or.inl ⟨by rfl, ?_⟩) (by assumption) ?_
      rotate_left
      · intro u hSw
        go_simp
        try (with_reducible rfl)
      try simp only [Act.put, List.setIfInBounds_toArray, List.set_cons_zero, List.set_cons_succ]
      refine wpAnyH_take (i := 16) (oi := ⟨_, _, _, _, _, _⟩) (v := ?_) rfl (by kernel_rfl) (by kernel_rfl) (by kernel_rfl) (fun _ _ _ h => h) (Or.inl ⟨by rfl, ?_⟩) (by assumption) ?_
      rotate_left
      · intro u hSw
        have cc := mg_c1 hSw.2.2.2.2
        rw [hi.out] at cc
        go_simp
        try (with_reducible rfl)
      try simp only [Act.put, List.setIfInBounds_toArray, List.set_cons_zero, List.set_cons_succ]
      refine wpAnyH_take (i := 17) (oi := ⟨_, _, _, _, _, _⟩) (v := ?_) rfl (by kernel_rfl) (by kernel_rfl) (by kernel_rfl) (fun _ _ _ h => h) (Or.inl ⟨by rfl, ?_⟩) (by assumption) ?_
      rotate_left
      · intro u hSw
        go_simp
        try (with_reducible rfl)
      try simp only [Act.put, List.setIfInBounds_toArray, List.set_cons_zero, List.set_cons_succ]
      refine wpAnyH_take (i := 18) (oi := ⟨_, _, _, _, _, _⟩) (v := ?_) rfl (by kernel_rfl) (by kernel_rfl) (by kernel_rfl) (fun _ _ _ h => h) (Or.inl ⟨by rfl, ?_⟩) (by assumption) ?_
      rotate_left
      · intro u hSw
        go_simp
        try (with_reducible rfl)
      try simp only [Act.put, List.setIfInBounds_toArray, List.set_cons_zero, List.set_cons_succ]
      refine wpAnyH_take (i := 19) (oi := ⟨_, _, _, _, _, _⟩) (v := ?_) rfl (by kernel_rfl) (by kernel_rfl) (by kernel_rfl) (fun _ _ _ h => h) (Or.inl ⟨by rfl, ?_⟩) (by assumption) ?_
      rotate_left
      · intro u hSw
        go_simp
        try (with_reducible rfl)
      try simp only [Act.put, List.setIfInBounds_toArray, List.set_cons_zero, List.set_cons_succ]
      refine wpAnyH_take (i := 20) (oi := ⟨_, _, _, _, _, _⟩) (v := ?_) rfl (by kernel_rfl) (by kernel_rfl) (by kernel_rfl) (fun _ _ _ h => h) (Or.inl ⟨by rfl, ?_⟩) (by assumption) ?_
      rotate_left
      · intro u hSw
        have cc := ac_c1 (hSw.2.2.1.stAt hq2 hb.out)
        rw [hx.out] at cc
        go_simp
        try (with_reducible rfl)
      try simp only [Act.put, List.setIfInBounds_toArray, List.set_cons_zero, List.set_cons_succ]
      refine wpAnyH_take (i := 21) (oi := ⟨_, _, _, _, _, _⟩) (v := ?_) rfl (by kernel_rfl) (by kernel_rfl) (by kernel_rfl) (fun _ _ _ h => h) (Or.inl ⟨by rfl, ?_⟩) (by assumption) ?_
      rotate_left
      · intro u hSw
        go_simp
        try (with_reducible rfl)
      try simp only [Act.put, List.setIfInBounds_toArray, List.set_cons_zero, List.set_cons_succ]
      refine wpAnyH_take (i := 22) (oi := ⟨_, _, _, _, _, _⟩) (v := ?_) rfl (by kernel_rfl) (by kernel_rfl) (by kernel_rfl) (fun _ _ _ h => h) (Or.inl ⟨by rfl, ?_⟩) (by assumption) ?_
      rotate_left
      · intro u hSw
        have cc := mg_c1 hSw.2.2.2.2
        rw [hi.out] at cc
        go_simp
        try (with_reducible rfl)
      try simp only [Act.put, List.setIfInBounds_toArray, List.set_cons_zero, List.set_cons_succ]
      refine wpAnyH_take (i := 23) (oi := ⟨_, _, _, _, _, _⟩) (v := ?_) rfl (by kernel_rfl) (by kernel_rfl) (by kernel_rfl) (fun _ _ _ h => h) (Or.inl ⟨by rfl, ?_⟩) (by assumption) ?_
      rotate_left
      · intro u hSw
        go_simp
        try (with_reducible rfl)
      try simp only [Act.put, List.setIfInBounds_toArray, List.set_cons_zero, List.set_cons_succ]
      refine wpAnyH_take (i := 24) (oi := ⟨_, _, _, _, _, _⟩) (v := ?_) rfl (by kernel_rfl) (by kernel_rfl) (by kernel_rfl) (fun _ _ _ h => h) (Or.inl ⟨by rfl, ?_⟩) (by assumption) ?_
      rotate_left
      · intro u hSw
        go_simp
        try (with_reducible rfl)
      try simp only [Act.put, List.setIfInBounds_toArray, List.set_cons_zero, List.set_cons_succ]
      refine wpAnyH_take (i := 25) (oi := ⟨_, _, _, _, _, _⟩) (v := ?_) rfl (by kernel_rfl) (by kernel_rfl) (by kernel_rfl) (fun _ _ _ h => h) (Or.inl ⟨by rfl, ?_⟩) (by assumption) ?_
      rotate_left
      · intro u hSw
        go_simp
        try (with_reducible rfl)
      try simp only [Act.put, List.setIfInBounds_toArray, List.set_cons_zero, List.set_cons_succ]
      refine wpAnyH_take (i := 26) (oi := ⟨_, _, _, _, _, _⟩) (v := ?_) rfl (by kernel_rfl) (by kernel_rfl) (by kernel_rfl) (fun _ _ _ h => h) (Or.inl ⟨by rfl, ?_⟩) (by assumption) ?_
      rotate_left
      · intro u hSw
        have cc := ac_c1 (hSw.2.1.stAt h2 ha.out)
        go_simp
        try (with_reducible rfl)
      try simp only [Act.put, List.setIfInBounds_toArray, List.set_cons_zero, List.set_cons_succ]
      refine wpAnyH_take (i := 27) (oi := ⟨_, _, _, _, _, _⟩) (v := ?_) rfl (by kernel_rfl) (by kernel_rfl) (by kernel_rfl) (fun _ _ _ h => h) (Or.inl ⟨by rfl, ?_⟩) (by assumption) ?_
      rotate_left
      · intro u hSw
        go_simp
        try (with_reducible rfl)
      try simp only [Act.put, List.setIfInBounds_toArray, List.set_cons_zero, List.set_cons_succ]
      refine wpAnyH_take (i := 28) (oi := ⟨_, _, _, _, _, _⟩) (v := ?_) rfl (by kernel_rfl) (by kernel_rfl) (by kernel_rfl) (fun _ _ _ h => h) (Or.inl ⟨by rfl, ?_⟩) (by assumption) ?_
      rotate_left
      · intro u hSw
        go_simp
        try (with_reducible rfl)
      try simp only [Act.put, List.setIfInBounds_toArray, List.set_cons_zero, List.set_cons_succ]
      refine wpAnyH_take (i := 29) (oi := ⟨_, _, _, _, _, _⟩) (v := ?_) rfl (by kernel_rfl) (by kernel_rfl) (by kernel_rfl) (fun _ _ _ h => h) (Or.inl ⟨by rfl, ?_⟩) (by assumption) ?_
      rotate_left
      · intro u hSw
        go_simp
        try (with_reducible rfl)
      try simp only [Act.put, List.setIfInBounds_toArray, List.set_cons_zero, List.set_cons_succ]
      refine wpAnyH_take (i := 30) (oi := ⟨_, _, _, _, _, _⟩) (v := ?_) rfl (by kernel_rfl) (by kernel_rfl) (by kernel_rfl) (fun _ _ _ h => h) (Or.inl ⟨by rfl, ?_⟩) (by assumption) ?_
      rotate_left
      · intro u hSw
        go_simp
        try (with_reducible rfl)
      try simp only [Act.put, List.setIfInBounds_toArray, List.set_cons_zero, List.set_cons_succ]
      refine wpAnyH_done (by kernel_rfl) ?_ _
      go_wp2_with fail
      go_ret
      exact ⟨rfl, B5⟩
end Go.Proofs.Ytjbaobfmdkpboaa
