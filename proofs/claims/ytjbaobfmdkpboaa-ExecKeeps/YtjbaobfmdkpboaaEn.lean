/- Layer exec: the law ExecKeeps. -/
import Derived.Test.YtjbaobfmdkpboaaEm0
namespace Go.Proofs.Ytjbaobfmdkpboaa
set_option linter.unusedSectionVars false
set_option maxHeartbeats 1000000
open Go.RowKit
set_option maxRecDepth 100000
set_option linter.unusedVariables false
set_option linter.unusedSimpArgs false

variable [DecidableEq Ac] [DecidableEq Ou] [DecidableEq Mg]
theorem gI_of {L : List Int} (h : rdE L = 0) : gI L = if (rdM L).kd = 1 then (rdM L).am else 0 := by
  unfold gI
  by_cases hk : (rdM L).kd = 1
  · rw [if_pos ⟨h, hk⟩, if_pos hk]
  · rw [if_neg (fun x => hk x.2), if_neg hk]
theorem gO_of {L : List Int} (h : rdE L = 0) : gO L = if (rdM L).kd = 3 then (rdM L).am else 0 := by
  unfold gO
  by_cases hk : (rdM L).kd = 3
  · rw [if_pos ⟨h, hk⟩, if_pos hk]
  · rw [if_neg (fun x => hk x.2), if_neg hk]
set_option maxHeartbeats 4000000 in
theorem keeps_no (ps : List Ac) (sp : Option Addr) (n cap : Nat) (os : List Ou) (sb : Option Addr) (nb cb : Nat) (L : List Int) (w : World) (hS : SS w.heap.size w ps sp n cap os) (hL : BS w.heap.size w sb nb cb L) (hma : may ps os.length = false) :
    Calls Try.prog 5 #[.agg (stA ps sp n cap), .slice sb nb cb] w fun e w' => e = .returned (.bool true) ∧ Below w.heap.size w w' := by
  have h1 := hS.a32.out
  have h2 := hS.l32
  have hok := hS.ok.out
  have hnsm := hS.outs.small
  have hlen := hS.outs.len
  have hz30 := zeroValue30
  have hzsz : (stA zs none 0 0).size = 1089 := stA_size zs_len zs_l32
  generalize stA zs none 0 0 = Z at hz30 hzsz
  have A0 := Arr.new w 30 (stA ps sp n cap)
  have B0 := alloc_bel' w (.cells (stA ps sp n cap) 30)
  have hD := Hid.mk' (fun u h h' => delta_x ps w.heap.size sp n cap os sb nb cb L w.heap.size u h h')
  obtain ⟨hq1, hq3, hq4⟩ := xP_ok (os := os) hL.bts h1 hS.ok.out hS.outs.ok
  have hq2 : ∀ a ∈ xP ps os L, a.lk.length = 32 := fun a ha => (hq3 a ha).l32
  unfold DX at hD
  obtain ⟨e1, e2⟩ := not_may (L := L) hma
  rw [e1, e2] at hD
  have hM := Hid.mk' (fun u => by have h := refMay_any ps sp n cap u h1 hok hnsm; rw [hlen.out, hma, ← hlen.out] at h; exact h)
  clear e1 e2 hma
  generalize xP ps os L = Q at *
  generalize xO ps os L = O at *
  go_enter Try.func5, Try.ntmps5
  go_upto_region 2 with (first
    | (refine atL 30 (.tmp 2) ?_; refine ld30 (by rfl) _ (by rfl) w.heap.size 30 (by rfl) ps sp n cap h1 h2 A0 ?_)
    | (go_at_call 8; go_must (refine (hD.out _ (hS.below B0) (hL.below B0)).mono ?_; rintro r w1 ⟨s1, n1, c1, rfl, S1, -, hb1⟩))
    | (refine atS 30 (.tmp 5) (.tmp 19) ?_; refine st30n (by rfl) _ _ (by rfl) w1 w1.heap.size rfl hzsz Q s1 n1 c1 (by rfl) (by rfl) hq1 hq2 ?_))
  have hz1 : w.heap.size + 1 ≤ w1.heap.size := by have := hb1.size; simpa using this
  have bb1 := alloc_bel' w1 (.cells (stA Q s1 n1 c1) 30)
  have A1 := (A0.below hb1 A0.lt).alloc (.cells (stA Q s1 n1 c1) 30)
  have T1 := Arr.new w1 30 (stA Q s1 n1 c1)
  have B1 := (B0.trans (hb1.mono (by simp))).alloc (by omega) (.cells (stA Q s1 n1 c1) 30)
  have S1' := S1.below bb1
  have hn1 := S1.outs.len
  have hn1s := S1.outs.small
  have hW1 : w1.heap.size < (w1.alloc (.cells (stA Q s1 n1 c1) 30)).heap.size := by simp
  generalize w1.alloc (.cells (stA Q s1 n1 c1) 30) = W1 at *
  generalize w1.heap.size = G1 at *
  clear A0 B0 hb1 bb1 S1
  go_wp2_with (first
    | go_skip
    | (refine atL 30 (.tmp 2) ?_; refine ld30 (by rfl) _ (by rfl) w.heap.size 30 (by rfl) ps sp n cap h1 h2 A1 ?_)
    | (go_at_call 16; go_must (refine (hM.out _).mono ?_; rintro r w2 ⟨rfl, hb2⟩; have B2 := B1.trans (hb2.mono B1.size)))
    | (go_at_call 13; go_must (refine (anchored_any _).mono ?_; rintro r w3 ⟨rfl, hb3⟩; have B3 := B2.trans (hb3.mono B2.size))))
  go_ret
  exact ⟨rfl, B3⟩
set_option maxHeartbeats 4000000 in
theorem keeps_still (ps : List Ac) (sp : Option Addr) (n cap : Nat) (os : List Ou) (sb : Option Addr) (nb cb : Nat) (L : List Int) (w : World) (hS : SS w.heap.size w ps sp n cap os) (hL : BS w.heap.size w sb nb cb L) (hma : may ps os.length = true) (hd : xD ps os L = false) :
    Calls Try.prog 5 #[.agg (stA ps sp n cap), .slice sb nb cb] w fun e w' => e = .returned (.bool true) ∧ Below w.heap.size w w' := by
  have h1 := hS.a32.out
  have h2 := hS.l32
  have hok := hS.ok.out
  have hnsm := hS.outs.small
  have hlen := hS.outs.len
  have hz30 := zeroValue30
  have hzsz : (stA zs none 0 0).size = 1089 := stA_size zs_len zs_l32
  generalize stA zs none 0 0 = Z at hz30 hzsz
  have A0 := Arr.new w 30 (stA ps sp n cap)
  have B0 := alloc_bel' w (.cells (stA ps sp n cap) 30)
  have hD := Hid.mk' (fun u h h' => delta_x ps w.heap.size sp n cap os sb nb cb L w.heap.size u h h')
  obtain ⟨hq1, hq3, hq4⟩ := xP_ok (os := os) hL.bts h1 hS.ok.out hS.outs.ok
  have hq2 : ∀ a ∈ xP ps os L, a.lk.length = 32 := fun a ha => (hq3 a ha).l32
  unfold DX at hD
  obtain ⟨e1, e2, e3⟩ := did_false (L := L) hma hd
  rw [hd, e3] at hD
  have hmq : may (xP ps os L) (xO ps os L).length = true := by rw [e1, e2]; exact hma
  have hM := Hid.mk' (fun u => by have h := refMay_any ps sp n cap u h1 hok hnsm; rw [hlen.out, hma, ← hlen.out] at h; exact h)
  have hMq := Hid.mk' (fun sp n cap u (hn : n = (xO ps os L).length) (hsm : n ≤ 140737488355328) => by have h := refMay_any (xP ps os L) sp n cap u hq1 hq3 hsm; rw [hn, hmq, ← hn] at h; exact h)
  have hsame : Hid (smB ps os (xP ps os L) (xO ps os L) = true) := Hid.mk' (by rw [e1, e2]; exact smB_self ps os)
  clear e1 e2 e3 hma hmq hd
  generalize xP ps os L = Q at *
  generalize xO ps os L = O at *
  have tok : Hid (0 = 0) := Hid.mk' rfl
  go_enter Try.func5, Try.ntmps5
  go_upto_region 2 with (first
    | (refine atL 30 (.tmp 2) ?_; refine ld30 (by rfl) _ (by rfl) w.heap.size 30 (by rfl) ps sp n cap h1 h2 A0 ?_)
    | (go_at_call 8; go_must (refine (hD.out _ (hS.below B0) (hL.below B0)).mono ?_; rintro r w1 ⟨s1, n1, c1, rfl, S1, -, hb1⟩))
    | (refine atS 30 (.tmp 5) (.tmp 19) ?_; refine st30n (by rfl) _ _ (by rfl) w1 w1.heap.size rfl hzsz Q s1 n1 c1 (by rfl) (by rfl) hq1 hq2 ?_))
  have hz1 : w.heap.size + 1 ≤ w1.heap.size := by have := hb1.size; simpa using this
  have bb1 := alloc_bel' w1 (.cells (stA Q s1 n1 c1) 30)
  have A1 := (A0.below hb1 A0.lt).alloc (.cells (stA Q s1 n1 c1) 30)
  have T1 := Arr.new w1 30 (stA Q s1 n1 c1)
  have B1 := (B0.trans (hb1.mono (by simp))).alloc (by omega) (.cells (stA Q s1 n1 c1) 30)
  have S1' := S1.below bb1
  have hn1 := S1.outs.len
  have hn1s := S1.outs.small
  have hW1 : w1.heap.size < (w1.alloc (.cells (stA Q s1 n1 c1) 30)).heap.size := by simp
  generalize w1.alloc (.cells (stA Q s1 n1 c1) 30) = W1 at *
  generalize w1.heap.size = G1 at *
  clear A0 B0 hb1 bb1 S1
  go_upto_region 6 with (first
    | go_skip
    | (refine atL 30 (.tmp 2) ?_; refine ld30 (by rfl) _ (by rfl) w.heap.size 30 (by rfl) ps sp n cap h1 h2 A1 ?_)
    | (go_at_call 16; (first
      | (have hzz := tok; clear tok hzz; refine (hM.out _).mono ?_; rintro r w2 ⟨rfl, hb2⟩; have B2 := B1.trans (hb2.mono B1.size); have T2 := T1.below hb2 T1.lt)
      | (refine (hMq.out s1 n1 c1 _ hn1.out hn1s).mono ?_; rintro r w3 ⟨rfl, hb3⟩; have B3 := B2.trans (hb3.mono B2.size))))
    | (refine atL 30 (.tmp 5) ?_; refine ld30g (by rfl) _ (by rfl) G1 30 (by rfl) Q s1 n1 c1 hq1 hq2 T2 ?_))
  have hb13 := hb2.trans (hb3.mono hb2.size)
  have hz13 := hb13.size
  have A3 := A1.below hb13 A1.lt
  have T3 := T1.below hb13 T1.lt
  have S13 := S1'.below (hb13.mono (by omega))
  clear A1 T1 T2 S1' B1 B2 hb2 hb3 hb13
  go_wp2_with (first
    | go_skip
    | (go_at_call 13; go_must (refine (anchored_any _).mono ?_; rintro r w4 ⟨rfl, hb4⟩; have hz4 := hb4.size; have B4 := B3.trans (hb4.mono B3.size); have A4 := A3.below hb4 A3.lt; have T4 := T3.below hb4 T3.lt; have S14 := S13.below (hb4.mono (by omega))))
    | (refine atL 30 (.tmp 2) ?_; refine ld30g (by rfl) _ (by rfl) w.heap.size 30 (by rfl) ps sp n cap h1 h2 A4 ?_)
    | (refine atL 30 (.tmp 5) ?_; refine ld30g (by rfl) _ (by rfl) G1 30 (by rfl) Q s1 n1 c1 hq1 hq2 T4 ?_)
    | (go_at_call 12; go_must (refine (refSsame_any ps _ sp n cap os Q _ s1 n1 c1 O _ (hS.below B4) S14).mono ?_; rw [hsame.out]; rintro r w5 ⟨rfl, hb5⟩; have B5 := B4.trans (hb5.mono B4.size))))
  go_ret
  exact ⟨rfl, B5⟩
set_option maxHeartbeats 8000000 in
theorem keeps_did (ps : List Ac) (sp : Option Addr) (n cap : Nat) (os : List Ou) (sb : Option Addr) (nb cb : Nat) (L : List Int) (w : World) (hS : SS w.heap.size w ps sp n cap os) (hL : BS w.heap.size w sb nb cb L) (hd : xD ps os L = true) :
    Calls Try.prog 5 #[.agg (stA ps sp n cap), .slice sb nb cb] w fun e w' => e = .returned (.bool true) ∧ Below w.heap.size w w' := by
  have h1 := hS.a32.out
  have h2 := hS.l32
  have hok := hS.ok.out
  have hnsm := hS.outs.small
  have hlen := hS.outs.len
  have hz30 := zeroValue30
  have hzsz : (stA zs none 0 0).size = 1089 := stA_size zs_len zs_l32
  generalize stA zs none 0 0 = Z at hz30 hzsz
  have A0 := Arr.new w 30 (stA ps sp n cap)
  have B0 := alloc_bel' w (.cells (stA ps sp n cap) 30)
  have hD := Hid.mk' (fun u h h' => delta_x ps w.heap.size sp n cap os sb nb cb L w.heap.size u h h')
  obtain ⟨hq1, hq3, hq4⟩ := xP_ok (os := os) hL.bts h1 hS.ok.out hS.outs.ok
  have hq2 : ∀ a ∈ xP ps os L, a.lk.length = 32 := fun a ha => (hq3 a ha).l32
  unfold DX at hD
  have hmo := rdM_ok hL.bts
  obtain ⟨hma, he, hr0, hac⟩ := did_some hd
  have hmy := rdE_may hr0
  obtain ⟨hmq, hsum, hou⟩ := act_keeps hmo hmy h1 hok hma hac
  have hn32 := may_le hma
  rw [hd, he] at hD
  have hM := Hid.mk' (fun u => by have h := refMay_any ps sp n cap u h1 hok hnsm; rw [hlen.out, hma, ← hlen.out] at h; exact h)
  have hMq := Hid.mk' (fun sp n cap u (hn : n = (xO ps os L).length) (hsm : n ≤ 140737488355328) => by have h := refMay_any (xP ps os L) sp n cap u hq1 hq3 hsm; rw [hn, hmq, ← hn] at h; exact h)
  have hTs := Hid.mk' (fun u => by have h := refTotal_any ps sp n cap u h1 hok; rw [ttV_sum hok hma] at h; exact h)
  have hTq := Hid.mk' (fun sp n cap u => by have h := refTotal_any (xP ps os L) sp n cap u hq1 hq3; rw [ttV_sum hq3 hmq] at h; exact h)
  have hG := Hid.mk' (fun u h => gain_any sb nb cb L w.heap.size u h)
  have hp1 := (may_sum hok).1 hma
  have hp2 := (may_sum hq3).1 hmq
  have hp3 := sm_nn ps hok
  have hp4 := sm_nn _ hq3
  have hgi := gI_of hr0
  have hgo := gO_of hr0
  have ha0 := hmo.a0
  have hkk := may_kinds hmo hmy
  have hsum2 : Hid (sm (xP ps os L) = sm ps + gI L - gO L ∧ 0 ≤ gI L ∧ 0 ≤ gO L ∧ sm ps + gI L ≤ 4611686018427387904) := Hid.mk' (by
    rw [← hgi, ← hgo] at hsum
    have : 0 ≤ gI L := by rw [hgi]; split <;> omega
    have h3 : 0 ≤ gO L := by rw [hgo]; split <;> omega
    have h4 : gI L = 0 ∨ gO L = 0 := by
      rw [hgi, hgo]
      by_cases h : (rdM L).kd = 1
      · right; rw [if_neg (by omega)]
      · left; rw [if_neg h]
    exact ⟨hsum, this, h3, by omega⟩)
  have hpre : Hid (∀ (j : Nat) X, os[j]? = some X → (xO ps os L)[j]? = some X) := Hid.mk' (fun j X h => by
    rcases hou with ⟨e, -⟩ | ⟨-, e⟩
    · rw [e]; exact h
    · rw [e, List.getElem?_append_left (List.getElem?_eq_some_iff.1 h).1]; exact h)
  have hcase : Hid (((xO ps os L).length = os.length ∧ gO L = 0) ∨ ((xO ps os L).length = os.length + 1 ∧ ∃ X, (xO ps os L)[os.length]? = some X ∧ X.am = gO L)) := Hid.mk' (by
    rcases hou with ⟨e, hk⟩ | ⟨hk, e⟩
    · exact .inl ⟨by rw [e], by rw [hgo, if_neg hk]⟩
    · refine .inr ⟨by rw [e, List.length_append]; rfl, ⟨(rdM L).tw, (rdM L).am⟩, ?_, by rw [hgo, if_pos hk]⟩
      rw [e, List.getElem?_append_right (Nat.le_refl _), Nat.sub_self]; rfl)
  clear hma he hr0 hac hmy hmq hsum hou hgi hgo ha0 hkk hd hmo
  generalize xP ps os L = Q at *
  generalize xO ps os L = O at *
  generalize gI L = gi at *
  generalize gO L = go at *
  generalize sm ps = x at *
  generalize sm Q = y at *
  obtain ⟨hs1, hs2, hs3, hs4⟩ := hsum2.out
  have hwr1 : IntKind.u64.wrap (x + gi) = x + gi := wrap64_of (by omega) (by omega)
  have hwr2 : IntKind.u64.wrap (x + gi - go) = y := by rw [← hs1]; exact wrap64_of (by omega) (by omega)
  have hyy : (y == y) = true := by simp
  clear hs1 hs2 hs3 hs4 hsum2
  have tok : Hid (0 = 0) := Hid.mk' rfl
  go_enter Try.func5, Try.ntmps5
  go_upto_region 2 with (first
    | (refine atL 30 (.tmp 2) ?_; refine ld30 (by rfl) _ (by rfl) w.heap.size 30 (by rfl) ps sp n cap h1 h2 A0 ?_)
    | (go_at_call 8; go_must (refine (hD.out _ (hS.below B0) (hL.below B0)).mono ?_; rintro r w1 ⟨s1, n1, c1, rfl, S1, -, hb1⟩))
    | (refine atS 30 (.tmp 5) (.tmp 19) ?_; refine st30n (by rfl) _ _ (by rfl) w1 w1.heap.size rfl hzsz Q s1 n1 c1 (by rfl) (by rfl) hq1 hq2 ?_))
  have hz1 : w.heap.size + 1 ≤ w1.heap.size := by have := hb1.size; simpa using this
  have bb1 := alloc_bel' w1 (.cells (stA Q s1 n1 c1) 30)
  have A1 := (A0.below hb1 A0.lt).alloc (.cells (stA Q s1 n1 c1) 30)
  have T1 := Arr.new w1 30 (stA Q s1 n1 c1)
  have B1 := (B0.trans (hb1.mono (by simp))).alloc (by omega) (.cells (stA Q s1 n1 c1) 30)
  have S1' := S1.below bb1
  have hn1 := S1.outs.len
  have hn1s := S1.outs.small
  have hW1 : w1.heap.size < (w1.alloc (.cells (stA Q s1 n1 c1) 30)).heap.size := by simp
  generalize w1.alloc (.cells (stA Q s1 n1 c1) 30) = W1 at *
  generalize w1.heap.size = G1 at *
  clear A0 B0 hb1 bb1 S1
  go_upto_region 8 with (first
    | go_skip
    | (refine atL 30 (.tmp 2) ?_; refine ld30 (by rfl) _ (by rfl) w.heap.size 30 (by rfl) ps sp n cap h1 h2 A1 ?_)
    | (go_at_call 16; (first
      | (have hzz := tok; clear tok hzz; refine (hM.out _).mono ?_; rintro r w2 ⟨rfl, hb2⟩; have B2 := B1.trans (hb2.mono B1.size); have T2 := T1.below hb2 T1.lt)
      | (refine (hMq.out s1 n1 c1 _ hn1.out hn1s).mono ?_; rintro r w3 ⟨rfl, hb3⟩; have B3 := B2.trans (hb3.mono B2.size))))
    | (refine atL 30 (.tmp 5) ?_; refine ld30g (by rfl) _ (by rfl) G1 30 (by rfl) Q s1 n1 c1 hq1 hq2 T2 ?_))
  have hb13 := hb2.trans (hb3.mono hb2.size)
  have hz13 := hb13.size
  have A3 := A1.below hb13 A1.lt
  have T3 := T1.below hb13 T1.lt
  have S13 := S1'.below (hb13.mono (by omega))
  clear A1 T1 T2 S1' B1 B2 hb2 hb3 hb13
  have tok2 : Hid (0 = 0) := Hid.mk' rfl
  have hn32' : n ≤ 32 := by have := hlen.out; omega
  go_upto_region 11 with (first
    | (refine atL 30 (.tmp 2) ?_; refine ld30 (by rfl) _ (by rfl) w.heap.size 30 (by rfl) ps sp n cap h1 h2 A3 ?_)
    | (refine atL 30 (.tmp 5) ?_; refine ld30 (by rfl) _ (by rfl) G1 30 (by rfl) Q s1 n1 c1 hq1 hq2 T4 ?_)
    | (go_at_call 17; (first
      | (have hzz := tok2; clear tok2 hzz; refine (hTs.out _).mono ?_; rintro r w4 ⟨rfl, hb4⟩; have B4 := B3.trans (hb4.mono B3.size); have T4 := T3.below hb4 T3.lt)
      | (refine (hTq.out s1 n1 c1 _).mono ?_; rintro r w5 ⟨rfl, hb5⟩; have B5 := B4.trans (hb5.mono B4.size))))
    | (go_at_call 10; go_must (refine (hG.out _ (hL.below B5)).mono ?_; rintro r w6 ⟨rfl, hb6⟩; have B6 := B5.trans (hb6.mono B5.size))))
  have hb36 := (hb4.trans (hb5.mono hb4.size)).trans (hb6.mono (Nat.le_trans hb4.size hb5.size))
  have hz36 := hb36.size
  have A6 := A3.below hb36 A3.lt
  have T6 := T3.below hb36 T3.lt
  have S16 := S13.below (hb36.mono (by omega))
  have SS6 := hS.below B6
  clear A3 T3 T4 S13 B3 B4 B5 hb4 hb5 hb6 hb36
  have cS := A6.stOut h1 h2
  have cT := T6.stOut hq1 hq2
  have hnn : Hid (n ≤ n1 ∧ n1 ≤ n + 1) := Hid.mk' (by
    rw [hn1.out, hlen.out]
    rcases hcase.out with ⟨e, -⟩ | ⟨e, -⟩ <;> rw [e] <;> omega)
  have hl1 : decide ((n1 : Int) < n) = false := decide_eq_false (by have := hnn.out; omega)
  have hl1' : ¬ ((n1 : Int) < n) := by have := hnn.out; omega
  have hl2 : decide ((n : Int) + 1 < n1) = false := decide_eq_false (by have := hnn.out; omega)
  have hwn : IntKind.i64.wrap ((n : Int) + 1) = (n : Int) + 1 := by rw [IntKind.wrap_i64]; omega
  go_upto_region 14 with (first | go_skip)
  clear cS cT hl1 hl1' hl2
  go_wp2_with fail
  go_loopw [14] (fun q wr => ∃ j : Nat, q = .int .i64 (j : Int) ∧ j ≤ n ∧ Below w6.heap.size w6 wr) (fun q _ => n - (intOf q).toNat)
  case atStart => exact ⟨0, rfl, by omega, Below.refl _ _⟩
  case round =>
    obtain ⟨j, rfl, hj, hbl⟩ := hrel
    have hszr := hbl.size
    have A7 := A6.below hbl A6.lt
    have T7 := T6.below hbl T6.lt
    have S17 := S16.below (hbl.mono (by omega))
    have B7 := B6.trans (hbl.mono B6.size)
    have S07 := hS.below B7
    have cS := A7.stOut h1 h2
    have cT := T7.stOut hq1 hq2
    by_cases hlt : j < n
    · have hI : (j : Int) < n := by omega
      have hI1 : (j : Int) < n1 := by have := hnn.out; omega
      obtain ⟨g, off, rfl, hgN, hR⟩ := S07.outs.at0 (by omega)
      obtain ⟨g', off', rfl, hgN', hR'⟩ := S17.outs.at0 (by have := hnn.out; omega)
      obtain ⟨X, hX⟩ : ∃ X, os[j]? = some X := ⟨os[j]'(by rw [← hlen.out]; exact hlt), List.getElem?_eq_getElem _⟩
      have r1 := hR j X hX
      have r2 := hR' j X (hpre.out j X hX)
      have hgl : g < wr.heap.size := by have := B7.size; omega
      have hgl' : g' < wr.heap.size := by omega
      have hne := run_neq53 X X
      rw [decide_eq_true rfl] at hne
      replace hX := Hid.mk' hX
      clear hR hR'
      go_wp2_with fail
      refine wp_region_held_drew (S := fun u => Below wr.heap.size wr u) (by kernel_rfl) ((Below.refl _ _).drew) (fun hHeld => ?_)
      refine wpAnyH_take (i := 0) (oi := ⟨_, _, _, _, _, _⟩) (v := ?_) rfl (by kernel_rfl) (by kernel_rfl) (by kernel_rfl) (fun _ _ _ h => h) (Or.inl ⟨by rfl, ?_⟩) (by assumption) ?_
      rotate_left
      · intro u hSw
        go_simp
        try (with_reducible rfl)
      try simp only [Act.put, List.setIfInBounds_toArray, List.set_cons_zero, List.set_cons_succ]
      refine wpAnyH_take (i := 1) (oi := ⟨_, _, _, _, _, _⟩) (v := ?_) rfl (by kernel_rfl) (by kernel_rfl) (by kernel_rfl) (fun _ _ _ h => h) (Or.inl ⟨by rfl, ?_⟩) (by assumption) ?_
      rotate_left
      · intro u hSw
        have cc := (hSw.cell (p := ⟨w.heap.size, 1088, none⟩) A7.lt).trans cS
        go_simp
        try (with_reducible rfl)
      try simp only [Act.put, List.setIfInBounds_toArray, List.set_cons_zero, List.set_cons_succ]
      refine wpAnyH_take (i := 2) (oi := ⟨_, _, _, _, _, _⟩) (v := ?_) rfl (by kernel_rfl) (by kernel_rfl) (by kernel_rfl) (fun _ _ _ h => h) (Or.inl ⟨by rfl, ?_⟩) (by assumption) ?_
      rotate_left
      · intro u hSw
        go_simp
        try (with_reducible rfl)
      try simp only [Act.put, List.setIfInBounds_toArray, List.set_cons_zero, List.set_cons_succ]
      refine wpAnyH_take (i := 3) (oi := ⟨_, _, _, _, _, _⟩) (v := ?_) rfl (by kernel_rfl) (by kernel_rfl) (by kernel_rfl) (fun _ _ _ h => h) (Or.inl ⟨by rfl, ?_⟩) (by assumption) ?_
      rotate_left
      · intro u hSw
        go_simp
        try (with_reducible rfl)
      try simp only [Act.put, List.setIfInBounds_toArray, List.set_cons_zero, List.set_cons_succ]
      refine wpAnyH_take (i := 4) (oi := ⟨_, _, _, _, _, _⟩) rfl (by kernel_rfl) (by kernel_rfl) (by kernel_rfl) (fun _ _ _ h => h) (y53 (by rfl) (.tmp 91) rfl g (off + j * 2) rfl X (fun u hu => range_below r1 hu hgl)) (by assumption) ?_
      try simp only [Act.put, List.setIfInBounds_toArray, List.set_cons_zero, List.set_cons_succ]
      refine wpAnyH_take (i := 5) (oi := ⟨_, _, _, _, _, _⟩) (v := ?_) rfl (by kernel_rfl) (by kernel_rfl) (by kernel_rfl) (fun _ _ _ h => h) (Or.inl ⟨by rfl, ?_⟩) (by assumption) ?_
      rotate_left
      · intro u hSw
        go_simp
        try (with_reducible rfl)
      try simp only [Act.put, List.setIfInBounds_toArray, List.set_cons_zero, List.set_cons_succ]
      refine wpAnyH_take (i := 6) (oi := ⟨_, _, _, _, _, _⟩) (v := ?_) rfl (by kernel_rfl) (by kernel_rfl) (by kernel_rfl) (fun _ _ _ h => h) (Or.inl ⟨by rfl, ?_⟩) (by assumption) ?_
      rotate_left
      · intro u hSw
        have cc := (hSw.cell (p := ⟨G1, 1088, none⟩) T7.lt).trans cT
        go_simp
        try (with_reducible rfl)
      try simp only [Act.put, List.setIfInBounds_toArray, List.set_cons_zero, List.set_cons_succ]
      refine wpAnyH_take (i := 7) (oi := ⟨_, _, _, _, _, _⟩) (v := ?_) rfl (by kernel_rfl) (by kernel_rfl) (by kernel_rfl) (fun _ _ _ h => h) (Or.inl ⟨by rfl, ?_⟩) (by assumption) ?_
      rotate_left
      · intro u hSw
        go_simp
        try (with_reducible rfl)
      try simp only [Act.put, List.setIfInBounds_toArray, List.set_cons_zero, List.set_cons_succ]
      refine wpAnyH_take (i := 8) (oi := ⟨_, _, _, _, _, _⟩) (v := ?_) rfl (by kernel_rfl) (by kernel_rfl) (by kernel_rfl) (fun _ _ _ h => h) (Or.inl ⟨by rfl, ?_⟩) (by assumption) ?_
      rotate_left
      · intro u hSw
        go_simp
        try (with_reducible rfl)
      try simp only [Act.put, List.setIfInBounds_toArray, List.set_cons_zero, List.set_cons_succ]
      refine wpAnyH_take (i := 9) (oi := ⟨_, _, _, _, _, _⟩) rfl (by kernel_rfl) (by kernel_rfl) (by kernel_rfl) (fun _ _ _ h => h) (y53 (by rfl) (.tmp 96) rfl g' (off' + j * 2) rfl X (fun u hu => range_below r2 hu hgl')) (by assumption) ?_
      try simp only [Act.put, List.setIfInBounds_toArray, List.set_cons_zero, List.set_cons_succ]
      refine wpAnyH_take (i := 10) (oi := ⟨_, _, _, _, _, _⟩) (v := ?_) rfl (by kernel_rfl) (by kernel_rfl) (by kernel_rfl) (fun _ _ _ h => h) (Or.inl ⟨by rfl, ?_⟩) (by assumption) ?_
      rotate_left
      · intro u hSw
        go_simp
        try (with_reducible rfl)
      try simp only [Act.put, List.setIfInBounds_toArray, List.set_cons_zero, List.set_cons_succ]
      refine wpAnyH_done (by kernel_rfl) ?_ _
      go_wp2_with fail
      go_roundw
      case rel => exact ⟨j + 1, by go_num, by omega, hbl.drew⟩
      case measure => simp [intOf]; omega
    · obtain rfl : j = n := by omega
      have hI : ¬ (j : Int) < j := by omega
      rcases hcase.out with ⟨e, eg⟩ | ⟨e, X, hX, eg⟩
      · obtain rfl : n1 = j := by rw [hn1.out, e, hlen.out]
        have hii : ((n1 : Int) == n1) = true := by simp
        have hgz : (go != 0) = false := by rw [eg]; rfl
        replace eg := Hid.mk' eg
        go_upto_region 20 with (first | go_skip)
        go_wp2_with (first
          | go_skip
          | (go_at_call 13; go_must (refine (anchored_any _).mono ?_; rintro r w8 ⟨rfl, hb8⟩; have B8 := B7.trans (hb8.mono B7.size))))
        go_ret
        exact ⟨rfl, B8⟩
      · have en : n1 = j + 1 := by rw [hn1.out, e, hlen.out]
        subst en
        have hgt : decide ((j : Int) < (j : Int) + 1) = true := decide_eq_true (by omega)
        have hgt' : (j : Int) < (j : Int) + 1 := by omega
        obtain ⟨g', off', rfl, hgN', hR'⟩ := S17.outs.at0 (by omega)
        rw [← hlen.out] at hX
        have c9 := ou_c1 (hR' j X hX)
        rw [eg] at c9
        have hne : (go != go) = false := by simp
        have hii : (((j : Int) + 1) == (j : Int)) = false := beq_eq_false_iff_ne.2 (by omega)
        clear hR'
        replace hX := Hid.mk' hX
        replace eg := Hid.mk' eg
        go_upto_region 20 with (first | go_skip)
        go_wp2_with (first
          | go_skip
          | (go_at_call 13; go_must (refine (anchored_any _).mono ?_; rintro r w8 ⟨rfl, hb8⟩; have B8 := B7.trans (hb8.mono B7.size))))
        go_ret
        exact ⟨rfl, B8⟩
theorem keeps_walk (ps : List Ac) (sp : Option Addr) (n cap : Nat) (os : List Ou) (sb : Option Addr) (nb cb : Nat) (L : List Int) (w : World) (hS : SS w.heap.size w ps sp n cap os) (hL : BS w.heap.size w sb nb cb L) :
    Calls Try.prog 5 #[.agg (stA ps sp n cap), .slice sb nb cb] w fun e w' => e = .returned (.bool true) ∧ Below w.heap.size w w' := by
  cases hma : may ps os.length with
  | false => exact keeps_no ps sp n cap os sb nb cb L w hS hL hma
  | true =>
    cases hd : xD ps os L with
    | false => exact keeps_still ps sp n cap os sb nb cb L w hS hL hma hd
    | true => exact keeps_did ps sp n cap os sb nb cb L w hS hL hd
end Go.Proofs.Ytjbaobfmdkpboaa
