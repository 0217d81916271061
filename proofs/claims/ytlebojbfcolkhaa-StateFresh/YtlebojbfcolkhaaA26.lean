/- Sg, Sh, Si. -/
import Derived.Test.YtlebojbfcolkhaaA28
import Derived.Test.YtlebojbfcolkhaaA21
import Derived.Test.YtlebojbfcolkhaaPi
import Derived.Test.YtlebojbfcolkhaaA20
/- Layer state, the document's answer: leaves. -/
namespace Go.Proofs.Ytlebojbfcolkhaa
open Go.RowKit
set_option maxRecDepth 100000
set_option linter.unusedVariables false
set_option linter.unusedSimpArgs false

theorem al_next {ps : List Ac} {j : Nat} {a : Ac} (h : ps[j]? = some a) : (al ps).take (j + 1) = (al ps).take j ++ [lf (acb a)] := by
  rw [List.take_add_one]; congr 1; simp [al, h]
theorem ol_next {ps : List Ou} {j : Nat} {a : Ou} (h : ps[j]? = some a) : (ol ps).take (j + 1) = (ol ps).take j ++ [lf (oub a)] := by
  rw [List.take_add_one]; congr 1; simp [ol, h]
/-- What the document's leaves answers. -/
def RLPost (ps : List Ac) (n : Nat) (os : List Ou) (w : World) (e : Ending) (w' : World) : Prop :=
  ∃ s1 c1 s2 c2, e = .returned (.tuple #[.slice s1 32 c1, .slice s2 n c2]) ∧ HS w'.heap.size w' s1 32 c1 (al ps) ∧ HS w'.heap.size w' s2 n c2 (ol os) ∧ Below w.heap.size w w'
set_option maxHeartbeats 2000000 in
theorem refLeaves_any (ps : List Ac) (N : Nat) (sp : Option Addr) (n cap : Nat) (os : List Ou) (w : World) (hS : SS N w ps sp n cap os) (hn : n ≤ 32) :
    Calls Try.prog 50 #[.agg (stA ps sp n cap)] w (RLPost ps n os w) := by
  have hS := hS.here
  have h1 := hS.a32.out
  have h2 := hS.l32
  have A0 := Arr.new w 30 (stA ps sp n cap)
  have hb0 := alloc_bel' w (.cells (stA ps sp n cap) 30)
  have hs0 : (w.alloc (.cells (stA ps sp n cap) 30)).heap.size = w.heap.size + 1 := by simp
  have hal32 : Hid (∀ x ∈ al ps, x.length = 32) := Hid.mk' (fun x hx => by
    obtain ⟨e, he, rfl⟩ := List.mem_map.1 hx
    exact lf_len _)
  have hol32 : Hid (∀ x ∈ ol os, x.length = 32) := Hid.mk' (fun x hx => by
    obtain ⟨e, he, rfl⟩ := List.mem_map.1 hx
    exact lf_len _)
  go_enter Try.func50, Try.ntmps50
  go_upto_region 3 with fail
  generalize w.alloc (.cells (stA ps sp n cap) 30) = W0 at *
  go_loopw [4, 6] (fun v q wr => ∃ j : Nat, q = .int .i64 (j : Int) ∧ j ≤ 32 ∧ Below W0.heap.size W0 wr ∧ wr.ownsRow W0.heap.size 24 32 v j (flat32 ((al ps).take j)))
    (fun _ q _ => 32 - (intOf q).toNat)
  case atStart => exact ⟨0, rfl, by omega, Below.refl _ _, World.ownsRow_nil _ _ _ _⟩
  case round =>
    obtain ⟨j, rfl, hj, hbl, hO⟩ := hrel
    have hszr := hbl.size
    by_cases hlt : j < 32
    · have hI : (j : Int) < 32 := by omega
      obtain ⟨a, ha⟩ : ∃ a, ps[j]? = some a := ⟨ps[j]'(by omega), List.getElem?_eq_getElem _⟩
      have hao := hS.ok.out a (List.mem_of_getElem? ha)
      have ha32 := hao.l32
      have hRa := (A0.below hbl (by omega)).stAt h2 ha
      have hnx := Hid.mk' (al_next ha)
      clear ha
      have hl32 := lf_len (acb a)
      go_upto_region 4 with (first
        | (refine ld26 (by rfl) _ (by rfl) w.heap.size (j * 34) (by rfl) a ha32 hRa ?_)
        | (go_at_call 29; go_must (refine (refAcBytes_any a _ hao).mono ?_; rintro e u1 ⟨v1, rfl, hown1, hb1⟩; have B1 := hbl.trans (hb1.mono hbl.size); have O1 := own_same hO (fun k hk => hb1.block k (hO.lt k hk).2); obtain ⟨s1, k1, rfl, hS1, -⟩ := own_bs hown1 (acb_bts hao) (by omega)))
        | (go_at_call 36; go_must (refine (refLeaf_bs s1 48 k1 _ (acb a) _ hS1.toBS (by omega)).mono ?_; rintro e u2 ⟨rfl, hb2⟩; have B2 := B1.trans (hb2.mono B1.size); have O2 := own_same O1 (fun k hk => hb2.block k (O1.lt k hk).2); have hs2 := B2.size))
        | (refine b1L (by rfl) _ (by rfl) (lf (acb a)) (by rfl) hl32 ?_)
        | (at_builtin; go_must (refine ag24 (by rfl) (.tmp 12) (.tmp 19) (by rfl) W0.heap.size j _ _ (lf (acb a)) (by rfl) (O2.alloc _) u2.heap.size 1 (by rfl) (Arr.new u2 24 (h8 (lf (acb a)))) hl32 (by omega) (by simp; omega) ?_; intro v' w6 hO6 hG6; have hbl6 := (B2.alloc (by omega) _).grown hG6 (by simp; omega) (fun k e => own_ge O2 k e))))
      go_wp2_with fail
      go_roundw
      case rel => exact ⟨j + 1, by go_num, by omega, hbl6, by rw [hnx.out]; exact hO6⟩
      case measure => simp [intOf]; omega
    · have hjI : (j : Int) = 32 := by omega
      simp only [hjI]
      clear hjI
      obtain rfl : j = 32 := by omega
      have ht : Hid ((al ps).take 32 = al ps) := Hid.mk' (List.take_of_length_le (by rw [al_len, h1]; exact Nat.le_refl _))
      rw [ht.out] at hO
      obtain ⟨s6, c6, rfl, hH6, hg6⟩ := own_hs hO hal32.out (by rw [al_len, h1]) (by omega)
      have B1 : Below w.heap.size w wr := hb0.trans (hbl.mono (by omega))
      have cO := (A0.below hbl (by omega)).stOut h1 h2
      have hA1 := A0.below hbl (by omega)
      clear hO ht hg6 A0
      obtain ⟨W1, hW1⟩ : ∃ W1, W1 = wr := ⟨_, rfl⟩
      subst hW1
      go_upto_region 7 with fail
      go_loopw [5, 7] (fun v q wr => ∃ j : Nat, q = .int .i64 (j : Int) ∧ j ≤ n ∧ Below W1.heap.size W1 wr ∧ wr.ownsRow W1.heap.size 24 32 v j (flat32 ((ol os).take j)))
        (fun _ q _ => n - (intOf q).toNat)
      case atStart => exact ⟨0, rfl, by omega, Below.refl _ _, World.ownsRow_nil _ _ _ _⟩
      case round =>
        obtain ⟨j, rfl, hj, hbl2, hO⟩ := hrel
        have hszr2 := hbl2.size
        have cO2 := (hA1.below hbl2 (by omega)).stOut h1 h2
        by_cases hlt : j < n
        · have hI : (j : Int) < n := by omega
          obtain ⟨go, oo, rfl, hgo0, hRo⟩ := hS.outs.at0 (by omega)
          obtain ⟨a, ha⟩ : ∃ q, os[j]? = some q := ⟨os[j]'(by rw [← hS.outs.len.out]; exact hlt), List.getElem?_eq_getElem _⟩
          have rO := range_below (hRo j a ha) (B1.trans (hbl2.mono B1.size)) hgo0
          have hnx := Hid.mk' (ol_next ha)
          clear ha hRo
          have hl32 := lf_len (oub a)
          go_upto_region 8 with (first
            | (refine ld53 (by rfl) _ (by rfl) go (oo + j * 2) (by rfl) a rO ?_)
            | (go_at_call 31; go_must (refine (refOuBytes_any a _).mono ?_; rintro e u1 ⟨v1, rfl, hown1, hb1⟩; have B2 := hbl2.trans (hb1.mono hbl2.size); have O1 := own_same hO (fun k hk => hb1.block k (hO.lt k hk).2); obtain ⟨s1, k1, rfl, hS1, -⟩ := own_bs hown1 (oub_bts a) (by omega)))
            | (go_at_call 36; go_must (refine (refLeaf_bs s1 16 k1 _ (oub a) _ hS1.toBS (by omega)).mono ?_; rintro e u2 ⟨rfl, hb2⟩; have B3 := B2.trans (hb2.mono B2.size); have O2 := own_same O1 (fun k hk => hb2.block k (O1.lt k hk).2); have hs2 := B3.size))
            | (refine b1L (by rfl) _ (by rfl) (lf (oub a)) (by rfl) hl32 ?_)
            | (at_builtin; go_must (refine ag24 (by rfl) (.tmp 28) (.tmp 36) (by rfl) W1.heap.size j _ _ (lf (oub a)) (by rfl) (O2.alloc _) u2.heap.size 1 (by rfl) (Arr.new u2 24 (h8 (lf (oub a)))) hl32 (by omega) (by simp; omega) ?_; intro v' w6 hO6 hG6; have hbl6 := (B3.alloc (by omega) _).grown hG6 (by simp; omega) (fun k e => own_ge O2 k e))))
          go_wp2_with fail
          go_roundw
          case rel => exact ⟨j + 1, by go_num, by omega, hbl6, by rw [hnx.out]; exact hO6⟩
          case measure => simp [intOf]; omega
        · obtain rfl : j = n := by omega
          have hI : ¬ (j : Int) < j := by omega
          have ht : Hid ((ol os).take j = ol os) := Hid.mk' (List.take_of_length_le (by rw [ol_len, ← hS.outs.len.out]; exact Nat.le_refl _))
          rw [ht.out] at hO
          obtain ⟨s7, c7, rfl, hH7, hg7⟩ := own_hs hO hol32.out (by rw [ol_len]; exact hS.outs.len.out) (by omega)
          go_wp2_with fail
          go_ret2
          exact ⟨s6, c6, s7, c7, rfl, (hH6.below hbl2).here, hH7, B1.trans (hbl2.mono B1.size)⟩
end Go.Proofs.Ytlebojbfcolkhaa
/- Layer state, the document's answer: Root, Prove, ProveOut. -/
namespace Go.Proofs.Ytlebojbfcolkhaa
open Go.RowKit
set_option maxRecDepth 100000
set_option linter.unusedVariables false
set_option linter.unusedSimpArgs false

theorem r5 {ls : List (List Int)} (h : ls.length ≤ 32) : rE 5 ls.length = 0 ∧ rR 5 ls = tr 5 ls := by
  have e : rE 5 ls.length = 0 := by
    unfold rE
    rw [if_pos ⟨by omega, by omega⟩, if_pos (show ls.length ≤ 2 ^ Int.toNat 5 from h)]
  refine ⟨e, ?_⟩
  unfold rR
  rw [if_pos e]; rfl
theorem refRoot5 (N : Nat) (sp : Option Addr) (n cap : Nat) (ls : List (List Int)) (w : World) (hS : HS N w sp n cap ls) (hn : n ≤ 32) :
    Calls Try.prog 51 #[.int .i64 5, .slice sp n cap] w fun e w' => e = .returned (.tuple #[.agg (h8 (tr 5 ls)), .int .i64 0]) ∧ Below w.heap.size w w' := by
  have h := refRoot_any 5 N sp n cap ls w hS
  have hl : ls.length ≤ 32 := by rw [← hS.len.out]; exact hn
  rw [(r5 hl).1, (r5 hl).2] at h
  exact h
set_option maxHeartbeats 2000000 in
theorem refSroot_ok (ps : List Ac) (N : Nat) (sp : Option Addr) (n cap : Nat) (os : List Ou) (w : World) (hS : SS N w ps sp n cap os) (hm : may ps n = true) :
    Calls Try.prog 12 #[.agg (stA ps sp n cap)] w fun e w' => e = .returned (.tuple #[.agg (h8 (rtS ps os)), .int .i64 0]) ∧ Below w.heap.size w w' := by
  have h1 := hS.a32.out
  have h2 := hS.l32
  have hok := hS.ok.out
  have hn32 := may_le hm
  have hnl := hS.outs.len
  have hS := hS.here
  have A0 := (Arr.new w 30 (stA ps sp n cap)).alloc (.cells (h8 Z32) 24)
  have Z0 := Arr.new (w.alloc (.cells (stA ps sp n cap) 30)) 24 (h8 Z32)
  rw [World.size_alloc] at Z0
  have B0 := (alloc_bel' w (.cells (stA ps sp n cap) 30)).alloc (by simp) (.cells (h8 Z32) 24)
  have hM := refMay_any ps sp n cap ((w.alloc (.cells (stA ps sp n cap) 30)).alloc (.cells (h8 Z32) 24)) h1 hok (by omega)
  rw [hm] at hM
  have hA32 := tr5_len (al_32 ps)
  have hO32 := tr5_len (ol_32 os)
  have hR : (rtS ps os).length = 32 := rtS_len ps os
  have hRe : Hid (rtS ps os = jn (tr 5 (al ps)) (tr 5 (ol os)) n) := Hid.mk' (by unfold rtS; rw [hnl.out])
  have hwn : (n : Int) % 18446744073709551616 = n := by omega
  replace hM := Hid.mk' hM
  go_enter Try.func12, Try.ntmps12
  go_upto_region 3 with (first
    | (refine ld30 (by rfl) _ (by rfl) w.heap.size 30 (by rfl) ps sp n cap h1 h2 A0 ?_)
    | (go_at_call 14; go_must (refine hM.out.mono ?_; rintro e w1 ⟨rfl, hbM⟩)))
  have B1 := B0.trans (hbM.mono B0.size)
  have A1 := A0.below hbM A0.lt
  have Z1 := Z0.below hbM Z0.lt
  clear A0 B0 Z0 hM hm hbM
  go_upto_region 4 with (first
    | (refine ld30 (by rfl) _ (by rfl) w.heap.size 30 (by rfl) ps sp n cap h1 h2 A1 ?_)
    | (go_at_call 50; go_must (refine (refLeaves_any ps _ sp n cap os _ (hS.below B1) hn32).mono ?_; rintro e w2 ⟨s1, c1, s2, c2, rfl, hH1, hH2, hb2⟩; have B2 := B1.trans (hb2.mono B1.size); have Z2 := Z1.below hb2 Z1.lt)))
  go_upto_region 5 with (first
    | (go_at_call 51; go_must (refine (refRoot5 _ s1 32 c1 _ _ hH1 (by omega)).mono ?_; rintro e w3 ⟨rfl, hb3⟩))
    | (refine st24n (by rfl) _ _ (by rfl) w3 w3.heap.size rfl (by rfl) (tr 5 (al ps)) (by rfl) (by rfl) hA32 ?_))
  have B3 := (B2.trans (hb3.mono B2.size)).alloc (Nat.le_trans B2.size hb3.size) (.cells (h8 (tr 5 (al ps))) 24)
  have Z3 := (Z2.below hb3 Z2.lt).alloc (.cells (h8 (tr 5 (al ps))) 24)
  have X3 := Arr.new w3 24 (h8 (tr 5 (al ps)))
  have hH3 := (hH2.below hb3).below ((alloc_bel' w3 (.cells (h8 (tr 5 (al ps))) 24)).mono hb3.size)
  have hgx : w.heap.size + 1 < w3.heap.size := (Z2.below hb3 Z2.lt).lt
  obtain ⟨gx, hgxe⟩ : ∃ g, g = w3.heap.size := ⟨_, rfl⟩
  rw [← hgxe] at X3 hgx ⊢
  clear hgxe
  generalize w3.alloc (.cells (h8 (tr 5 (al ps))) 24) = W3 at *
  go_upto_region 6 with (first
    | (go_at_call 51; go_must (refine (refRoot5 _ s2 n c2 _ _ hH3 hn32).mono ?_; rintro e w4 ⟨rfl, hb4⟩))
    | (refine st24n (by rfl) _ _ (by rfl) w4 w4.heap.size rfl (by rfl) (tr 5 (ol os)) (by rfl) (by rfl) hO32 ?_))
  have B4 := (B3.trans (hb4.mono B3.size)).alloc (Nat.le_trans B3.size hb4.size) (.cells (h8 (tr 5 (ol os))) 24)
  have Z4 := (Z3.below hb4 Z3.lt).alloc (.cells (h8 (tr 5 (ol os))) 24)
  have X4 := (X3.below hb4 X3.lt).alloc (.cells (h8 (tr 5 (ol os))) 24)
  have Y4 := Arr.new w4 24 (h8 (tr 5 (ol os)))
  obtain ⟨gy, hgye⟩ : ∃ g, g = w4.heap.size := ⟨_, rfl⟩
  rw [← hgye] at Y4 ⊢
  clear hgye
  generalize w4.alloc (.cells (h8 (tr 5 (ol os))) 24) = W4 at *
  have hJ := joined_any (tr 5 (al ps)) (tr 5 (ol os)) n W4 hA32 hO32
  rw [← hRe.out] at hJ
  clear hRe
  generalize tr 5 (al ps) = T1 at *
  generalize tr 5 (ol os) = T2 at *
  obtain ⟨R, hRR⟩ : ∃ R, R = rtS ps os := ⟨_, rfl⟩
  rw [← hRR] at hJ hR
  replace hRR := Hid.mk' hRR
  go_wp2_with (first
    | (refine ld24 (by rfl) _ (by rfl) gx 0 (by rfl) T1 hA32 X4.range ?_)
    | (refine ld24 (by rfl) _ (by rfl) gy 0 (by rfl) T2 hO32 Y4.range ?_)
    | (go_at_call 40; go_must (refine hJ.mono ?_; rintro e w5 ⟨rfl, hb5⟩; have B5 := B4.trans (hb5.mono B4.size); have Z5 := Z4.below hb5 Z4.lt))
    | (refine st24 (by rfl) _ _ (by rfl) (w.heap.size + 1) R Z32 (by rfl) (by rfl) hR Z32_len Z5 ?_))
  exact bodyPost_ret (v := .tuple #[.agg (h8 R), .int .i64 0]) (resP Try.results12 rfl rfl hR (Z5.setRow _)) rfl ⟨by rw [hRR.out], below_setRow B5 (by omega) _⟩
theorem refSroot_no (ps : List Ac) (sp : Option Addr) (n cap : Nat) (w : World) (h1 : ps.length = 32) (hok : ∀ a ∈ ps, AcOK a) (hn : n ≤ 140737488355328) (hm : may ps n = false) :
    Calls Try.prog 12 #[.agg (stA ps sp n cap)] w fun e w' => e = .returned (.tuple #[.agg (h8 Z32), .int .i64 2]) ∧ Below w.heap.size w w' := by
  have h2 : ∀ a ∈ ps, a.lk.length = 32 := fun a ha => (hok a ha).l32
  have A0 := (Arr.new w 30 (stA ps sp n cap)).alloc (.cells (h8 Z32) 24)
  have Z0 := Arr.new (w.alloc (.cells (stA ps sp n cap) 30)) 24 (h8 Z32)
  rw [World.size_alloc] at Z0
  have B0 := (alloc_bel' w (.cells (stA ps sp n cap) 30)).alloc (by simp) (.cells (h8 Z32) 24)
  have hM := refMay_any ps sp n cap ((w.alloc (.cells (stA ps sp n cap) 30)).alloc (.cells (h8 Z32) 24)) h1 hok hn
  rw [hm] at hM
  go_enter Try.func12, Try.ntmps12
  go_wp2_with (first
    | (refine ld30 (by rfl) _ (by rfl) w.heap.size 30 (by rfl) ps sp n cap h1 h2 A0 ?_)
    | (go_at_call 14; go_must (refine hM.mono ?_; rintro e w1 ⟨rfl, hbM⟩; have Z1 := Z0.below hbM Z0.lt))
    | (refine st24 (by rfl) _ _ (by rfl) (w.heap.size + 1) Z32 Z32 (by rfl) (by rfl) Z32_len Z32_len Z1 ?_))
  exact bodyPost_ret (v := .tuple #[.agg (h8 Z32), .int .i64 2]) (resP Try.results12 rfl rfl Z32_len (Z1.setRow _)) rfl ⟨rfl, below_setRow (B0.trans (hbM.mono B0.size)) (by omega) _⟩
theorem refSroot_any (ps : List Ac) (N : Nat) (sp : Option Addr) (n cap : Nat) (os : List Ou) (w : World) (hS : SS N w ps sp n cap os) :
    Calls Try.prog 12 #[.agg (stA ps sp n cap)] w fun e w' => e = .returned (.tuple #[.agg (h8 (rtV ps os)), .int .i64 (rtE ps os)]) ∧ Below w.heap.size w w' := by
  have hl := hS.outs.len.out
  cases hm : may ps n with
  | true =>
    have e1 : rtV ps os = rtS ps os := by unfold rtV; rw [← hl, if_pos hm]
    have e2 : rtE ps os = 0 := by unfold rtE; rw [← hl, if_pos hm]
    rw [e1, e2]; exact refSroot_ok ps N sp n cap os w hS hm
  | false =>
    have e1 : rtV ps os = Z32 := by unfold rtV; rw [← hl, hm]; rfl
    have e2 : rtE ps os = 2 := by unfold rtE; rw [← hl, hm]; rfl
    rw [e1, e2]; exact refSroot_no ps sp n cap w hS.a32.out hS.ok.out hS.outs.small hm
end Go.Proofs.Ytlebojbfcolkhaa
/- Layer state, the document's answer: Prove, ProveOut. -/
namespace Go.Proofs.Ytlebojbfcolkhaa
open Go.RowKit
set_option maxRecDepth 100000
set_option linter.unusedVariables false
set_option linter.unusedSimpArgs false

set_option maxHeartbeats 2000000 in
theorem refProve_ok (ps : List Ac) (N : Nat) (sp : Option Addr) (n cap : Nat) (os : List Ou) (i : Nat) (w : World) (hS : SS N w ps sp n cap os) (hm : may ps n = true) (hi : i < 32) :
    Calls Try.prog 18 #[.agg (stA ps sp n cap), .int .i64 i] w (WP 5 (pf 5 (al ps) i) (tr 5 (ol os)) n 0 w) := by
  have h1 := hS.a32.out
  have h2 := hS.l32
  have hok := hS.ok.out
  have hn32 := may_le hm
  have hS := hS.here
  have A0 := (Arr.new w 30 (stA ps sp n cap)).alloc (.cells (wtA none 0 0 Z32 0) 44)
  have Z0 := Arr.new (w.alloc (.cells (stA ps sp n cap) 30)) 44 (wtA none 0 0 Z32 0)
  rw [World.size_alloc] at Z0
  have B0 := (alloc_bel' w (.cells (stA ps sp n cap) 30)).alloc (by simp) (.cells (wtA none 0 0 Z32 0) 44)
  have hM := refMay_any ps sp n cap ((w.alloc (.cells (stA ps sp n cap) 30)).alloc (.cells (wtA none 0 0 Z32 0) 44)) h1 hok (by omega)
  rw [hm] at hM
  have hT32 := tr5_len (ol_32 os)
  have hwn : (n : Int) % 18446744073709551616 = n := by omega
  have hI0 : ¬ (i : Int) < 0 := by omega
  have hI1 : ¬ (i : Int) ≥ 32 := by omega
  replace hM := Hid.mk' hM
  go_enter Try.func18, Try.ntmps18
  go_upto_region 1 with fail
  go_upto_region 3 with (first
    | (refine ld30 (by rfl) _ (by rfl) w.heap.size 30 (by rfl) ps sp n cap h1 h2 A0 ?_)
    | (go_at_call 14; go_must (refine hM.out.mono ?_; rintro e w1 ⟨rfl, hbM⟩; have cO := (A0.below hbM A0.lt).stOut h1 h2)))
  have B1 := B0.trans (hbM.mono B0.size)
  have A1 := A0.below hbM A0.lt
  have Z1 := Z0.below hbM (by simp)
  clear A0 B0 Z0 hM hm hbM cO
  have hz1 := Z1.lt
  go_upto_region 4 with (first
    | (refine ld30 (by rfl) _ (by rfl) w.heap.size 30 (by rfl) ps sp n cap h1 h2 A1 ?_)
    | (go_at_call 50; go_must (refine (refLeaves_any ps _ sp n cap os _ (hS.below B1) hn32).mono ?_; rintro e w2 ⟨s1, c1, s2, c2, rfl, hH1, hH2, hb2⟩; have B2 := B1.trans (hb2.mono B1.size); have Z2 := Z1.below hb2 Z1.lt)))
  have hs2 := hb2.size
  go_upto_region 5 with (go_at_call 54; go_must (refine (refProof5 i hi _ s1 32 c1 _ _ hH1 (by omega)).mono ?_; rintro e w3 ⟨s3, c3, rfl, hH3, hO3, hb3⟩))
  have B3 := B2.trans (hb3.mono B2.size)
  have Z3 := Z2.below hb3 Z2.lt
  have hHr := (hH2).below hb3
  have hs3 := hb3.size
  clear hH1 hH2
  go_upto_region 6 with (first
    | (go_at_call 51; go_must (refine (refRoot5 _ s2 n c2 _ _ hHr hn32).mono ?_; rintro e w4 ⟨rfl, hb4⟩))
    | (refine st24n (by rfl) _ _ (by rfl) w4 w4.heap.size rfl (by rfl) (tr 5 (ol os)) (by rfl) (by rfl) hT32 ?_))
  have B4 := (B3.trans (hb4.mono B3.size)).alloc (Nat.le_trans B3.size hb4.size) (.cells (h8 (tr 5 (ol os))) 24)
  have Z4 := (Z3.below hb4 Z3.lt).alloc (.cells (h8 (tr 5 (ol os))) 24)
  have Y4 := Arr.new w4 24 (h8 (tr 5 (ol os)))
  have hH4 := (hH3.below hb4).below ((alloc_bel' w4 (.cells (h8 (tr 5 (ol os))) 24)).mono hb4.size)
  have hO4 := (own_same hO3 (fun k hk => hb4.block k (hO3.lt k hk).2)).alloc (.cells (h8 (tr 5 (ol os))) 24)
  have hs4 : w3.heap.size ≤ (w4.alloc (.cells (h8 (tr 5 (ol os))) 24)).heap.size := by have := hb4.size; simp; omega
  obtain ⟨gy, hgye⟩ : ∃ g, g = w4.heap.size := ⟨_, rfl⟩
  rw [← hgye] at Y4 ⊢
  clear hgye
  generalize w4.alloc (.cells (h8 (tr 5 (ol os))) 24) = W4 at *
  go_wp2_with (first
    | (refine ld24 (by rfl) _ (by rfl) gy 0 (by rfl) (tr 5 (ol os)) hT32 Y4.range ?_)
    | (refine bdT (by rfl) 44 _ (by rfl) (by rfl) (built44 s3 5 c3 n (tr 5 (ol os)) hT32) ?_)
    | (refine st44 (by rfl) _ _ (by rfl) (w.heap.size + 1) s3 5 c3 (tr 5 (ol os)) n zwt (by rfl) (by rfl) hT32 Z4 ?_))
  refine bodyPost_ret (v := .tuple #[.agg (wtA s3 5 c3 (tr 5 (ol os)) n), .int .i64 0]) (res44 Try.results18 rfl rfl hT32 (Z4.setRow _)) rfl ⟨s3, c3, rfl, ?_, ?_, below_setRow B4 (by omega) _⟩
  · have := hs_row hH4 (wtA s3 5 c3 (tr 5 (ol os)) n) (g := w.heap.size + 1) (fun b off e => by have := own_ge hO4 b (by rw [e]; rfl); omega)
    exact this.mono (by simp; omega)
  · refine own_mono (own_same hO4 (fun k hk => ?_)) (by omega)
    have hk2 := own_ge hO4 k hk
    exact setRow_other W4 (w.heap.size + 1) k _ (by omega)
set_option maxHeartbeats 2000000 in
theorem refProve_no (ps : List Ac) (sp : Option Addr) (n cap : Nat) (i : Int) (w : World) (h1 : ps.length = 32) (hok : ∀ a ∈ ps, AcOK a) (hn : n ≤ 140737488355328) (h : may ps n = false ∨ i < 0 ∨ i ≥ 32) :
    Calls Try.prog 18 #[.agg (stA ps sp n cap), .int .i64 i] w (WP 0 [] Z32 0 2 w) := by
  have h2 : ∀ a ∈ ps, a.lk.length = 32 := fun a ha => (hok a ha).l32
  have A0 := (Arr.new w 30 (stA ps sp n cap)).alloc (.cells (wtA none 0 0 Z32 0) 44)
  have Z0 := Arr.new (w.alloc (.cells (stA ps sp n cap) 30)) 44 (wtA none 0 0 Z32 0)
  rw [World.size_alloc] at Z0
  have B0 := (alloc_bel' w (.cells (stA ps sp n cap) 30)).alloc (by simp) (.cells (wtA none 0 0 Z32 0) 44)
  have hM := refMay_any ps sp n cap ((w.alloc (.cells (stA ps sp n cap) 30)).alloc (.cells (wtA none 0 0 Z32 0) 44)) h1 hok hn
  have fin : ∀ (w1 : World), Below ((w.alloc (.cells (stA ps sp n cap) 30)).alloc (.cells (wtA none 0 0 Z32 0) 44)).heap.size ((w.alloc (.cells (stA ps sp n cap) 30)).alloc (.cells (wtA none 0 0 Z32 0) 44)) w1 → WP 0 [] Z32 0 2 w (.returned (.tuple #[.agg (wtA none 0 0 Z32 0), .int .i64 2])) (w1.setRow (w.heap.size + 1) (wtA none 0 0 Z32 0)) := fun w1 hb => ⟨none, 0, rfl, HS.nil0 _ _, World.ownsRow_nil _ _ _ _, below_setRow (B0.trans (hb.mono B0.size)) (by omega) _⟩
  replace fin := Hid.mk' fin
  have hbf : w.heap.size + 1 < ((w.alloc (.cells (stA ps sp n cap) 30)).alloc (.cells (wtA none 0 0 Z32 0) 44)).heap.size := by simp
  cases hm : may ps n with
  | false =>
      rw [hm] at hM
      clear h hm
      replace hM := Hid.mk' hM
      go_enter Try.func18, Try.ntmps18
      go_upto_region 1 with fail
      go_wp2_with (first
        | (refine ld30 (by rfl) _ (by rfl) w.heap.size 30 (by rfl) ps sp n cap h1 h2 A0 ?_)
        | (go_at_call 14; go_must (refine hM.out.mono ?_; rintro e w1 ⟨rfl, hbM⟩; have Z1 := Z0.below hbM hbf))
        | (refine bdT (by rfl) 44 _ (by rfl) (by rfl) built44z ?_)
        | (refine st44 (by rfl) _ _ (by rfl) (w.heap.size + 1) none 0 0 Z32 0 zwt (by rfl) (by rfl) Z32_len Z1 ?_))
      exact bodyPost_ret (v := .tuple #[.agg (wtA none 0 0 Z32 0), .int .i64 2]) (res44 Try.results18 rfl rfl Z32_len (Z1.setRow _)) rfl (fin.out w1 hbM)
  | true =>
    rw [hm] at hM
    replace h : i < 0 ∨ i ≥ 32 := by rcases h with h | h; (rw [hm] at h; cases h); exact h
    clear hm
    replace hM := Hid.mk' hM
    by_cases hI : i < 0
    · clear h
      go_enter Try.func18, Try.ntmps18
      go_upto_region 1 with fail
      go_wp2_with (first
        | (refine ld30 (by rfl) _ (by rfl) w.heap.size 30 (by rfl) ps sp n cap h1 h2 A0 ?_)
        | (go_at_call 14; go_must (refine hM.out.mono ?_; rintro e w1 ⟨rfl, hbM⟩; have Z1 := Z0.below hbM hbf))
        | (refine bdT (by rfl) 44 _ (by rfl) (by rfl) built44z ?_)
        | (refine st44 (by rfl) _ _ (by rfl) (w.heap.size + 1) none 0 0 Z32 0 zwt (by rfl) (by rfl) Z32_len Z1 ?_))
      exact bodyPost_ret (v := .tuple #[.agg (wtA none 0 0 Z32 0), .int .i64 2]) (res44 Try.results18 rfl rfl Z32_len (Z1.setRow _)) rfl (fin.out w1 hbM)
    · have hI1 : i ≥ 32 := by omega
      clear h
      go_enter Try.func18, Try.ntmps18
      go_upto_region 1 with fail
      go_wp2_with (first
        | (refine ld30 (by rfl) _ (by rfl) w.heap.size 30 (by rfl) ps sp n cap h1 h2 A0 ?_)
        | (go_at_call 14; go_must (refine hM.out.mono ?_; rintro e w1 ⟨rfl, hbM⟩; have Z1 := Z0.below hbM hbf; have cO := (A0.below hbM A0.lt).stOut h1 h2))
        | (refine bdT (by rfl) 44 _ (by rfl) (by rfl) built44z ?_)
        | (refine st44 (by rfl) _ _ (by rfl) (w.heap.size + 1) none 0 0 Z32 0 zwt (by rfl) (by rfl) Z32_len Z1 ?_))
      exact bodyPost_ret (v := .tuple #[.agg (wtA none 0 0 Z32 0), .int .i64 2]) (res44 Try.results18 rfl rfl Z32_len (Z1.setRow _)) rfl (fin.out w1 hbM)
set_option maxHeartbeats 2000000 in
theorem refProveOut_ok (ps : List Ac) (N : Nat) (sp : Option Addr) (n cap : Nat) (os : List Ou) (i : Nat) (w : World) (hS : SS N w ps sp n cap os) (hm : may ps n = true) (hi : i < 32) (hin : i < n) :
    Calls Try.prog 20 #[.agg (stA ps sp n cap), .int .i64 i] w (WP 5 (pf 5 (ol os) i) (tr 5 (al ps)) n 0 w) := by
  have h1 := hS.a32.out
  have h2 := hS.l32
  have hok := hS.ok.out
  have hn32 := may_le hm
  have hS := hS.here
  have A0 := (Arr.new w 30 (stA ps sp n cap)).alloc (.cells (wtA none 0 0 Z32 0) 44)
  have Z0 := Arr.new (w.alloc (.cells (stA ps sp n cap) 30)) 44 (wtA none 0 0 Z32 0)
  rw [World.size_alloc] at Z0
  have B0 := (alloc_bel' w (.cells (stA ps sp n cap) 30)).alloc (by simp) (.cells (wtA none 0 0 Z32 0) 44)
  have hM := refMay_any ps sp n cap ((w.alloc (.cells (stA ps sp n cap) 30)).alloc (.cells (wtA none 0 0 Z32 0) 44)) h1 hok (by omega)
  rw [hm] at hM
  have hT32 := tr5_len (al_32 ps)
  have hwn : (n : Int) % 18446744073709551616 = n := by omega
  have hI0 : ¬ (i : Int) < 0 := by omega
  have hI1 : ¬ (i : Int) ≥ n := by omega
  replace hM := Hid.mk' hM
  go_enter Try.func20, Try.ntmps20
  go_upto_region 1 with fail
  go_upto_region 3 with (first
    | (refine ld30 (by rfl) _ (by rfl) w.heap.size 30 (by rfl) ps sp n cap h1 h2 A0 ?_)
    | (go_at_call 14; go_must (refine hM.out.mono ?_; rintro e w1 ⟨rfl, hbM⟩; have cO := (A0.below hbM A0.lt).stOut h1 h2)))
  have B1 := B0.trans (hbM.mono B0.size)
  have A1 := A0.below hbM A0.lt
  have Z1 := Z0.below hbM (by simp)
  clear A0 B0 Z0 hM hm hbM cO
  have hz1 := Z1.lt
  go_upto_region 4 with (first
    | (refine ld30 (by rfl) _ (by rfl) w.heap.size 30 (by rfl) ps sp n cap h1 h2 A1 ?_)
    | (go_at_call 50; go_must (refine (refLeaves_any ps _ sp n cap os _ (hS.below B1) hn32).mono ?_; rintro e w2 ⟨s1, c1, s2, c2, rfl, hH1, hH2, hb2⟩; have B2 := B1.trans (hb2.mono B1.size); have Z2 := Z1.below hb2 Z1.lt)))
  have hs2 := hb2.size
  go_upto_region 5 with (go_at_call 54; go_must (refine (refProof5 i hi _ s2 n c2 _ _ hH2 hn32).mono ?_; rintro e w3 ⟨s3, c3, rfl, hH3, hO3, hb3⟩))
  have B3 := B2.trans (hb3.mono B2.size)
  have Z3 := Z2.below hb3 Z2.lt
  have hHr := (hH1).below hb3
  have hs3 := hb3.size
  clear hH1 hH2
  go_upto_region 6 with (first
    | (go_at_call 51; go_must (refine (refRoot5 _ s1 32 c1 _ _ hHr (by omega)).mono ?_; rintro e w4 ⟨rfl, hb4⟩))
    | (refine st24n (by rfl) _ _ (by rfl) w4 w4.heap.size rfl (by rfl) (tr 5 (al ps)) (by rfl) (by rfl) hT32 ?_))
  have B4 := (B3.trans (hb4.mono B3.size)).alloc (Nat.le_trans B3.size hb4.size) (.cells (h8 (tr 5 (al ps))) 24)
  have Z4 := (Z3.below hb4 Z3.lt).alloc (.cells (h8 (tr 5 (al ps))) 24)
  have Y4 := Arr.new w4 24 (h8 (tr 5 (al ps)))
  have hH4 := (hH3.below hb4).below ((alloc_bel' w4 (.cells (h8 (tr 5 (al ps))) 24)).mono hb4.size)
  have hO4 := (own_same hO3 (fun k hk => hb4.block k (hO3.lt k hk).2)).alloc (.cells (h8 (tr 5 (al ps))) 24)
  have hs4 : w3.heap.size ≤ (w4.alloc (.cells (h8 (tr 5 (al ps))) 24)).heap.size := by have := hb4.size; simp; omega
  obtain ⟨gy, hgye⟩ : ∃ g, g = w4.heap.size := ⟨_, rfl⟩
  rw [← hgye] at Y4 ⊢
  clear hgye
  generalize w4.alloc (.cells (h8 (tr 5 (al ps))) 24) = W4 at *
  go_wp2_with (first
    | (refine ld24 (by rfl) _ (by rfl) gy 0 (by rfl) (tr 5 (al ps)) hT32 Y4.range ?_)
    | (refine bdT (by rfl) 44 _ (by rfl) (by rfl) (built44 s3 5 c3 n (tr 5 (al ps)) hT32) ?_)
    | (refine st44 (by rfl) _ _ (by rfl) (w.heap.size + 1) s3 5 c3 (tr 5 (al ps)) n zwt (by rfl) (by rfl) hT32 Z4 ?_))
  refine bodyPost_ret (v := .tuple #[.agg (wtA s3 5 c3 (tr 5 (al ps)) n), .int .i64 0]) (res44 Try.results20 rfl rfl hT32 (Z4.setRow _)) rfl ⟨s3, c3, rfl, ?_, ?_, below_setRow B4 (by omega) _⟩
  · have := hs_row hH4 (wtA s3 5 c3 (tr 5 (al ps)) n) (g := w.heap.size + 1) (fun b off e => by have := own_ge hO4 b (by rw [e]; rfl); omega)
    exact this.mono (by simp; omega)
  · refine own_mono (own_same hO4 (fun k hk => ?_)) (by omega)
    have hk2 := own_ge hO4 k hk
    exact setRow_other W4 (w.heap.size + 1) k _ (by omega)
set_option maxHeartbeats 2000000 in
theorem refProveOut_no (ps : List Ac) (sp : Option Addr) (n cap : Nat) (i : Int) (w : World) (h1 : ps.length = 32) (hok : ∀ a ∈ ps, AcOK a) (hn : n ≤ 140737488355328) (h : may ps n = false ∨ i < 0 ∨ i ≥ n) :
    Calls Try.prog 20 #[.agg (stA ps sp n cap), .int .i64 i] w (WP 0 [] Z32 0 2 w) := by
  have h2 : ∀ a ∈ ps, a.lk.length = 32 := fun a ha => (hok a ha).l32
  have A0 := (Arr.new w 30 (stA ps sp n cap)).alloc (.cells (wtA none 0 0 Z32 0) 44)
  have Z0 := Arr.new (w.alloc (.cells (stA ps sp n cap) 30)) 44 (wtA none 0 0 Z32 0)
  rw [World.size_alloc] at Z0
  have B0 := (alloc_bel' w (.cells (stA ps sp n cap) 30)).alloc (by simp) (.cells (wtA none 0 0 Z32 0) 44)
  have hM := refMay_any ps sp n cap ((w.alloc (.cells (stA ps sp n cap) 30)).alloc (.cells (wtA none 0 0 Z32 0) 44)) h1 hok hn
  have fin : ∀ (w1 : World), Below ((w.alloc (.cells (stA ps sp n cap) 30)).alloc (.cells (wtA none 0 0 Z32 0) 44)).heap.size ((w.alloc (.cells (stA ps sp n cap) 30)).alloc (.cells (wtA none 0 0 Z32 0) 44)) w1 → WP 0 [] Z32 0 2 w (.returned (.tuple #[.agg (wtA none 0 0 Z32 0), .int .i64 2])) (w1.setRow (w.heap.size + 1) (wtA none 0 0 Z32 0)) := fun w1 hb => ⟨none, 0, rfl, HS.nil0 _ _, World.ownsRow_nil _ _ _ _, below_setRow (B0.trans (hb.mono B0.size)) (by omega) _⟩
  replace fin := Hid.mk' fin
  have hbf : w.heap.size + 1 < ((w.alloc (.cells (stA ps sp n cap) 30)).alloc (.cells (wtA none 0 0 Z32 0) 44)).heap.size := by simp
  cases hm : may ps n with
  | false =>
      rw [hm] at hM
      clear h hm
      replace hM := Hid.mk' hM
      go_enter Try.func20, Try.ntmps20
      go_upto_region 1 with fail
      go_wp2_with (first
        | (refine ld30 (by rfl) _ (by rfl) w.heap.size 30 (by rfl) ps sp n cap h1 h2 A0 ?_)
        | (go_at_call 14; go_must (refine hM.out.mono ?_; rintro e w1 ⟨rfl, hbM⟩; have Z1 := Z0.below hbM hbf))
        | (refine bdT (by rfl) 44 _ (by rfl) (by rfl) built44z ?_)
        | (refine st44 (by rfl) _ _ (by rfl) (w.heap.size + 1) none 0 0 Z32 0 zwt (by rfl) (by rfl) Z32_len Z1 ?_))
      exact bodyPost_ret (v := .tuple #[.agg (wtA none 0 0 Z32 0), .int .i64 2]) (res44 Try.results20 rfl rfl Z32_len (Z1.setRow _)) rfl (fin.out w1 hbM)
  | true =>
    rw [hm] at hM
    replace h : i < 0 ∨ i ≥ n := by rcases h with h | h; (rw [hm] at h; cases h); exact h
    clear hm
    replace hM := Hid.mk' hM
    by_cases hI : i < 0
    · clear h
      go_enter Try.func20, Try.ntmps20
      go_upto_region 1 with fail
      go_wp2_with (first
        | (refine ld30 (by rfl) _ (by rfl) w.heap.size 30 (by rfl) ps sp n cap h1 h2 A0 ?_)
        | (go_at_call 14; go_must (refine hM.out.mono ?_; rintro e w1 ⟨rfl, hbM⟩; have Z1 := Z0.below hbM hbf))
        | (refine bdT (by rfl) 44 _ (by rfl) (by rfl) built44z ?_)
        | (refine st44 (by rfl) _ _ (by rfl) (w.heap.size + 1) none 0 0 Z32 0 zwt (by rfl) (by rfl) Z32_len Z1 ?_))
      exact bodyPost_ret (v := .tuple #[.agg (wtA none 0 0 Z32 0), .int .i64 2]) (res44 Try.results20 rfl rfl Z32_len (Z1.setRow _)) rfl (fin.out w1 hbM)
    · have hI1 : i ≥ n := by omega
      clear h
      go_enter Try.func20, Try.ntmps20
      go_upto_region 1 with fail
      go_wp2_with (first
        | (refine ld30 (by rfl) _ (by rfl) w.heap.size 30 (by rfl) ps sp n cap h1 h2 A0 ?_)
        | (go_at_call 14; go_must (refine hM.out.mono ?_; rintro e w1 ⟨rfl, hbM⟩; have Z1 := Z0.below hbM hbf; have cO := (A0.below hbM A0.lt).stOut h1 h2))
        | (refine bdT (by rfl) 44 _ (by rfl) (by rfl) built44z ?_)
        | (refine st44 (by rfl) _ _ (by rfl) (w.heap.size + 1) none 0 0 Z32 0 zwt (by rfl) (by rfl) Z32_len Z1 ?_))
      exact bodyPost_ret (v := .tuple #[.agg (wtA none 0 0 Z32 0), .int .i64 2]) (res44 Try.results20 rfl rfl Z32_len (Z1.setRow _)) rfl (fin.out w1 hbM)
end Go.Proofs.Ytlebojbfcolkhaa
