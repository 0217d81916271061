/- Layer oracle: from a root down an account is found. -/
import Derived.Test.YtbfelelngoonjaaX46
import Derived.Test.YtbfelelngoonjaaX42
import Derived.Test.YtbfelelngoonjaaX47
import Derived.Test.YtbfelelngoonjaaX33
import Derived.Test.YtbfelelngoonjaaX48
import Derived.Test.YtbfelelngoonjaaX14
namespace Go.Proofs.Ytbfelelngoonjaa
open Go.RowKit
set_option maxRecDepth 100000
set_option linter.unusedVariables false
set_option linter.unusedSimpArgs false


theorem ld26g {ops : Array Oper} {rest : List Oper} {o : Oper} {a : Act} {w : World} {Q : Exit → Act → World → Prop} (hgd : Region.wanted o (yielded ops a.tmps) = true) (x : Operand) (ho : o.op = .load 34 x)
    (b off : Nat) (hx : a.eval x = .pointer (some ⟨b, off, none⟩)) (e : Ac) (he : e.lk.length = 32) (hc : w.rangeAt b off e.cells)
    (h : wpList Try.prog ops Q rest (a.put o.dst (.agg e.arr)) w) : wpList Try.prog ops Q (o :: rest) a w :=
  wpList_want hgd fun _ hK => wp_load_mid 34 x ho b off hx e.cells _ hc Try.underlying34 rfl (by rw [Ac.len he]; exact size26) (hK _ _ h)
theorem acb_bts' {a : Ac} (h : Bts (0 :: acb a)) : Bts (acb a) := fun x hx => h x (List.mem_cons_of_mem _ hx)
set_option maxHeartbeats 8000000 in
theorem finds_walk (ps : List Ac) (sp : Option Addr) (n cap : Nat) (os : List Ou) (i : Int) (hi : 0 ≤ i ∧ i < 256) (w : World) (hS : SS w.heap.size w ps sp n cap os) :
    Calls Try.prog 5 #[.agg (stA ps sp n cap), .int .u8 i] w fun e w' => e = .returned (.bool true) ∧ Below w.heap.size w w' := by
  have h1 := hS.a32.out
  have h2 := hS.l32
  have hok := hS.ok
  have hnl := hS.outs.len
  have hsmall := hS.outs.small
  have B0 := alloc_bel' w (.cells (stA ps sp n cap) 38)
  have A0 := Arr.new w 38 (stA ps sp n cap)
  have S0 := hS.below B0
  have hz0 : (w.alloc (.cells (stA ps sp n cap) 38)).heap.size = w.heap.size + 1 := by simp
  clear hS
  go_enter Try.func5, Try.ntmps5
  go_upto_region 1 with fail
  generalize w.alloc (.cells (stA ps sp n cap) 38) = wA at *
  have hz0' : w.heap.size < wA.heap.size := by omega
  replace hz0 := hid hz0
  have O0 := Orc.new wA
  have BO : Below wA.heap.size wA ((wA.alloc (.map #[] 0)).alloc (.cells #[.map (some wA.heap.size), .slice none 0 0] 68)) := (alloc_bel' wA _).alloc (by simp) _
  have hzO : ((wA.alloc (.map #[] 0)).alloc (.cells #[.map (some wA.heap.size), .slice none 0 0] 68)).heap.size = wA.heap.size + 2 := by simp
  go_upto_region 2 with (go_at_call 7; go_must (refine (new_any wA).mono ?_; rintro e w1 ⟨rfl, rfl⟩))
  generalize (wA.alloc (.map #[] 0)).alloc (.cells #[.map (some wA.heap.size), .slice none 0 0] 68) = W0 at *
  have hzO2 : wA.heap.size + 2 ≤ W0.heap.size := by omega
  replace hzO := hid hzO
  have A1 := A0.below BO (by omega)
  have B1 := B0.trans (BO.mono (by omega))
  have S1 := S0.below (BO.mono (by omega))
  have hnm : ∀ b, b < wA.heap.size → ¬ omut (wA.heap.size + 1) wA.heap.size (fun _ => .slice none 0 0) (.slice none 0 0) b := by
    rintro b hb (q | q | q | ⟨k, q⟩)
    · omega
    · omega
    · simp [Value.ownBlock] at q
    · simp [Value.ownBlock] at q
  have hlearn := hid (olearn_any _ _ _ _ _ _ ps _ sp n cap os W0 O0 S1 (by omega) (by simp))
  obtain ⟨x, hx⟩ : ∃ x, x = rtE ps os := ⟨_, rfl⟩
  rw [← hx] at hlearn
  replace hx := hid hx
  clear A0 B0 S0 BO
  go_upto_region 3 with (first
    | (refine ld30 (by rfl) _ (by rfl) w.heap.size 38 (by rfl) ps sp n cap h1 h2 A1 ?_)
    | (go_at_call 10; go_must (refine hlearn.out.mono ?_; rintro r w2 ⟨rfl, f2, v2, es2, st2, hd2⟩)))
  have hb2 : Below wA.heap.size W0 w2 := st2.c.below (fun i hi => ⟨by omega, hnm i hi⟩)
  have A2 := A1.below hb2 (by omega)
  have B2 := B1.trans (hb2.mono (by omega))
  have S2 := S1.below (hb2.mono (by omega))
  have O2 := st2.o
  have hs2 := st2.c.size
  replace hd2 := hid hd2
  have hel : es2.length ≤ 200 := by
    have q := congrArg List.length hd2.out
    have q2 := ptl_len (dats []) (KBs ps os)
    have q3 := KBs_len os h1
    rw [dats_len] at q q2; simp at q2; omega
  clear hlearn A1 B1 S1 O0 hnm hb2 st2
  generalize wA.heap.size = gm at *
  have hMay := hid (refMay_any ps sp n cap w2 h1 hok.out hsmall)
  cases hm : may ps n with
  | false =>
    rw [hm] at hMay
    have hx2 : x = 2 := by rw [hx.out]; unfold rtE; rw [← hnl.out, hm]; rfl
    subst hx2
    go_wp2_with (first
      | (refine ld30 (by rfl) _ (by rfl) w.heap.size 38 (by rfl) ps sp n cap h1 h2 A2 ?_)
      | (go_at_call 19; go_must (refine hMay.out.mono ?_; rintro r w3 ⟨rfl, hb3⟩))
      | (go_at_call 6; go_must (refine (anchored_any w3).mono ?_; rintro e w4 ⟨rfl, hb4⟩)))
    go_ret
    exact ⟨rfl, (B2.trans (hb3.mono (by omega))).trans (hb4.mono (by have := hb3.size; omega))⟩
  | true =>
    rw [hm] at hMay
    have hx2 : x = 0 := by rw [hx.out]; unfold rtE; rw [← hnl.out, hm]; rfl
    have hrt : Hid (rtV ps os = rtS ps os) := hid (by unfold rtV; rw [← hnl.out, hm]; rfl)
    have hkb : Hid (KBs ps os = knB ps os) := hid (by unfold KBs; rw [← hnl.out, hm]; rfl)
    subst hx2
    have hn32 : n ≤ 32 := may_le hm
    have hknl : Hid ((knB ps os).length ≤ 200) := hid (by rw [knB_len h1 (by rw [← hnl.out]; exact hn32)]; have := hnl.out; omega)
    clear hm
    go_upto_region 5 with (first
      | (refine ld30 (by rfl) _ (by rfl) w.heap.size 38 (by rfl) ps sp n cap h1 h2 A2 ?_)
      | (go_at_call 19; go_must (refine hMay.out.mono ?_; rintro r w3 ⟨rfl, hb3⟩)))
    have A3 := A2.below hb3 A2.lt
    have B3 := B2.trans (hb3.mono (by omega))
    have S3 := S2.below (hb3.mono (by omega))
    have O3 := OrX.bel O2 hb3
    have hs3 := hb3.size
    have hK := hid (refKnown_any ps _ sp n cap os w3 S3)
    clear hMay A2 B2 S2 O2 hb3
    go_upto_region 6 with (first
      | (refine ld30 (by rfl) _ (by rfl) w.heap.size 38 (by rfl) ps sp n cap h1 h2 A3 ?_)
      | (go_at_call 20; go_must (refine hK.out.mono ?_; rintro r w4 ⟨vk, ek, rfl, hEk, hbs, hsm, hb4⟩; obtain ⟨sk, ck, rfl⟩ := hEk.sl)))
    have hekl : ek.length ≤ 200 := by
      have q := congrArg List.length hbs.out
      rw [List.length_map] at q
      have q2 := hkb.out
      unfold KBs at q2
      rw [q2] at q
      have := hknl.out; omega
    obtain ⟨sk', ck', hv', hES⟩ := hEk.es (by omega)
    have hF := hid (refFind_any sk ek.length ck ek _ w4 (by injection hv' with e1 e2 e3; rw [e1, e3]; exact hES))
    have A4 := A3.below hb4 A3.lt
    have B4 := B3.trans (hb4.mono (by omega))
    have S4 := S3.below (hb4.mono (by omega))
    have O4 := OrX.bel O3 hb4
    have hs4 := hb4.size
    have hbs : Hid (ek.map En.bs = knB ps os) := hid (by rw [hbs.out]; exact hkb.out)
    clear hK hES hv' hEk A3 B3 S3 O3 hb4
    generalize ek.length = ekn at *
    go_upto_region 7 with (go_at_call 21; go_must (refine hF.out.mono ?_; rintro r w5 ⟨fa, fb, fc, rfl, hfn, hb5⟩))
    have A5 := A4.below hb5 A4.lt
    have B5 := B4.trans (hb5.mono (by omega))
    have S5 := S4.below (hb5.mono (by omega))
    have O5 := OrX.bel O4 hb5
    have hs5 := hb5.size
    clear hF A4 B4 S4 O4 hb5
    cases fc with
    | true =>
      clear hfn hbs hsm
      go_wp2_with (go_at_call 6; go_must (refine (anchored_any w5).mono ?_; rintro e w6 ⟨rfl, hb6⟩))
      go_ret
      exact ⟨rfl, B5.trans (hb6.mono (by omega))⟩
    | false =>
      have hinj := fnd_inj hfn hbs.out hsm.out
      have hgt : ∀ b ∈ knB ps os, gt (dats es2) (shl b) = some b := fun b hb => by rw [hd2.out, hkb.out]; exact gt_ptl hb hinj
      have hN : Hid (∀ k q, k < 5 → (2 * q + 2) * 2 ^ k ≤ 32 → gt (dats es2) (ndA ps (k + 1) q) = some (1 :: (ndA ps k (2 * q) ++ ndA ps k (2 * q + 1)))) := hid (fun k q hk hq => by
        rw [ndA_up]; exact hgt _ (ndA_mem h1 hk hq))
      have hLf : Hid (∀ m a, ps[m]? = some a → gt (dats es2) (ndA ps 0 m) = some (0 :: acb a)) := hid (fun m a ha => by
        rw [ndA_leaf ha]
        refine hgt _ ?_
        unfold knB
        simp only [List.mem_append]
        exact .inl (.inl (.inl (.inl (List.mem_map.2 ⟨a, List.mem_of_getElem? ha, rfl⟩)))))
      obtain ⟨R, P1, C, O1, hRd, hR32, hP32, hC32, hO32, hgR, hgP⟩ : ∃ R P1 C O1 : List Int, R = rtV ps os ∧ R.length = 32 ∧ P1.length = 32 ∧ C.length = 32 ∧ O1.length = 32 ∧ gt (dats es2) R = some (1 :: (P1 ++ C)) ∧ gt (dats es2) P1 = some (1 :: (ndA ps 5 0 ++ O1)) := by
        have e5 : ndA ps 5 0 = tr 5 (al ps) := by unfold ndA; simp
        refine ⟨rtV ps os, pr (tr 5 (al ps)) (tr 5 (ol os)), cnt os.length, tr 5 (ol os), rfl, by rw [hrt.out]; exact rtS_len _ _, shl_len _, cnt_len _, tr_len 5 _ (ol_32 os), ?_, ?_⟩
        · rw [hrt.out]
          refine hgt _ ?_
          unfold knB
          simp
        · rw [e5]
          refine hgt _ ?_
          unfold knB
          simp
      have hroot := hid (refSroot_any ps _ sp n cap os w5 S5)
      rw [← hRd] at hroot
      have hgR := hid hgR
      have hgP := hid hgP
      clear hRd hgt hinj hfn hbs hsm hd2 hrt hkb hknl
      go_upto_region 10 with (first
        | (refine ld30 (by rfl) _ (by rfl) w.heap.size 38 (by rfl) ps sp n cap h1 h2 A5 ?_)
        | (go_at_call 22; go_must (refine hroot.out.mono ?_; rintro r w6 ⟨rfl, hb6⟩))
        | (refine st24n (by rfl) _ _ (by rfl) w6 w6.heap.size rfl (by rfl) R (by rfl) (by rfl) hR32 ?_))
      have b6 := hb6.alloc hb6.size (.cells (h8 R) 32)
      have G12 := Arr.new w6 32 (h8 R)
      have A6 := A5.below b6 A5.lt
      have B6 := B5.trans (b6.mono (by omega))
      have O6 := OrX.bel O5 b6
      have hs6 := b6.size
      have hz6 : (w6.alloc (.cells (h8 R) 32)).heap.size = w6.heap.size + 1 := by simp
      have hzz6 := hb6.size
      clear hroot hb6 b6 A5 B5 S5 O5
      generalize w6.alloc (.cells (h8 R) 32) = W6 at *
      have hz6' : w6.heap.size < W6.heap.size := by omega
      replace hz6 := hid hz6
      have hh1 := hid (half_any _ _ _ _ _ _ R P1 C 0 W6 O6 hR32 (by omega) hP32 hC32 hgR.out (.inl rfl))
      rw [if_pos rfl] at hh1
      go_upto_region 11 with (first
        | (refine ld24 (by rfl) (.tmp 12) (by rfl) w6.heap.size 0 (by rfl) R hR32 G12.range ?_)
        | (go_at_call 23; go_must (refine hh1.out.mono ?_; rintro r w7 ⟨rfl, hb7⟩))
        | (refine st24n (by rfl) _ _ (by rfl) w7 w7.heap.size rfl (by rfl) P1 (by rfl) (by rfl) hP32 ?_))
      have b7 := hb7.alloc hb7.size (.cells (h8 P1) 32)
      have G14 := Arr.new w7 32 (h8 P1)
      have A7 := A6.below b7 A6.lt
      have B7 := B6.trans (b7.mono (by omega))
      have O7 := OrX.bel O6 b7
      have hs7 := b7.size
      have hzz7 := hb7.size
      have hz7 : (w7.alloc (.cells (h8 P1) 32)).heap.size = w7.heap.size + 1 := by simp
      have hoff := OSt.off O6 hzz7
      clear hh1 hb7 b7 A6 B6 O6 G12
      generalize w7.alloc (.cells (h8 P1) 32) = W7 at *
      have hz7' : w7.heap.size < W7.heap.size := by omega
      replace hz7 := hid hz7
      have hA32 := ndA_len ps 5 0
      have hh2 := hid (half_any _ _ _ _ _ _ P1 (ndA ps 5 0) O1 0 W7 O7 hP32 (by omega) hA32 hO32 hgP.out (.inl rfl))
      rw [if_pos rfl] at hh2
      generalize hnA : ndA ps 5 0 = nA at *
      go_upto_region 14 with (first
        | (refine ld24 (by rfl) (.tmp 14) (by rfl) w7.heap.size 0 (by rfl) P1 hP32 G14.range ?_)
        | (go_at_call 23; go_must (refine hh2.out.mono ?_; rintro r w8 ⟨rfl, hb8⟩; have G8 := G14.below hb8 G14.lt))
        | (refine st24 (by rfl) (.tmp 14) (.tmp 62) (by rfl) w7.heap.size nA P1 (by rfl) (by rfl) hA32 hP32 G8 ?_))
      have hs8 := hb8.size
      have A8 := A7.below hb8 A7.lt
      have B8 := below_setRow (B7.trans (hb8.mono (by omega))) (g := w7.heap.size) (by omega) (h8 nA)
      have O8 : Orc _ _ _ (w8.setRow w7.heap.size (h8 nA)) f2 v2 es2 := OrX.chg (OrX.bel O7 hb8) (Chg.of_grown (gb_row w8 w7.heap.size (h8 nA))) (fun b q q' => by cases q'; exact q.elim hoff.1 hoff.2)
      have A9 : Arr (w8.setRow w7.heap.size (h8 nA)) w.heap.size 38 (stA ps sp n cap) := A8.setRowOther (k := w7.heap.size) (h8 nA) (by omega)
      have G9 : Arr (w8.setRow w7.heap.size (h8 nA)) w7.heap.size 32 (h8 nA) := G8.setRow _
      have hz9 : (w8.setRow w7.heap.size (h8 nA)).heap.size = w8.heap.size := by simp
      clear hh2 hb8 A7 B7 O7 G14 G8 A8
      generalize w8.setRow w7.heap.size (h8 nA) = W9 at *
      have hz9' : w7.heap.size < W9.heap.size := by omega
      replace hz9 := hid hz9
      have hg14w : w.heap.size < w7.heap.size := by omega
      generalize w7.heap.size = g14 at *
      obtain ⟨ii, rfl⟩ : ∃ ii : Nat, i = ii := ⟨i.toNat, by omega⟩
      obtain ⟨m, hm⟩ : ∃ m, m = ii % 32 := ⟨_, rfl⟩
      have hm32 : m < 32 := by omega
      have hmi : (ii : Int).tmod 32 = (m : Int) := by rw [hm]; exact (Int.ofNat_tmod ii 32).symm
      replace hm := hid hm
      go_upto_region 16 with fail
      go_loopw [15, 17] (fun t q wr => ∃ kk : Nat, t = .bool true ∧ q = .int .i64 ((kk : Int) - 1) ∧ kk ≤ 5 ∧ Below w.heap.size w wr ∧ Orc (gm + 2) (gm + 1) gm wr f2 v2 es2 ∧ Arr wr w.heap.size 38 (stA ps sp n cap) ∧ Arr wr g14 32 (h8 (ndA ps kk (m / 2 ^ kk))) ∧ g14 < wr.heap.size) (fun _ q _ => (intOf q + 1).toNat)
      case atStart => exact ⟨5, rfl, rfl, by omega, B8, O8, A9, by rw [show m / 2 ^ 5 = 0 by omega, hnA]; exact G9, hz9'⟩
      case round =>
        obtain ⟨kk, rfl, rfl, hkk, Bk, Ok, Ak, Gk, hgk⟩ := hrel
        clear B8 O8 A9 G9 hz9'
        have hn32' := ndA_len ps kk (m / 2 ^ kk)
        by_cases hk0 : kk = 0
        · subst hk0
          obtain ⟨a, ha⟩ : ∃ a, ps[m]? = some a := ⟨ps[m]'(by omega), List.getElem?_eq_getElem _⟩
          have hao := hok.out a (List.mem_of_getElem? ha)
          have ha32 := hao.l32
          have Gk : Arr wr g14 32 (h8 (ndA ps 0 m)) := by rw [show m / 2 ^ 0 = m by simp] at Gk; exact Gk
          have hn0 := ndA_len ps 0 m
          have hget := hid (oget_any _ _ _ _ _ _ (ndA ps 0 m) wr Ok hn0 (by omega))
          have hgp : Hid (∀ w w' r, GetP (dats es2) (ndA ps 0 m) w r w' → ∃ sp n cp, r = .returned (.tuple #[.slice sp n cp, .bool true]) ∧ BS w'.heap.size w' sp n cp (0 :: acb a) ∧ Below w.heap.size w w') := hid (fun w w' r h => by
            have := h.bs
            rw [hLf.out m a ha] at this; exact this)
          have hbt : Bts (0 :: acb a) := Bts.zero (acb_bts hao)
          have hmI : (m : Int) < 32 := by omega
          have hm0 : (0 : Int) ≤ m := by omega
          have hsk := Bk.size
          clear hN hLf
          go_upto_region 20 with (first
            | (refine ld24 (by rfl) (.tmp 14) (by rfl) g14 0 (by rfl) _ hn0 Gk.range ?_)
            | (go_at_call 12; go_must (refine (hget.out).mono ?_; rintro r w11 hr; obtain ⟨s11, n11, c11, rfl, hB11, hb11⟩ := hgp.out _ _ _ hr)))
          have A11 := Ak.below hb11 Ak.lt
          have B11 := Bk.trans (hb11.mono hsk)
          have hs11 := hb11.size
          clear hget hgp Ak Gk Ok hb11
          have hanc := hid (anchored_any w11)
          have RX : Hid (∀ u : World, Arr u w.heap.size 38 (stA ps sp n cap) → u.rangeAt w.heap.size (m * 34) a.cells) := hid (fun u hu => hu.stAt h2 ha)
          have hacb := hid (fun u => refAcBytes_any a u hao)
          clear ha hao
          go_wp2_with (first
            | (go_at_call 6; go_must (refine hanc.out.mono ?_; rintro e w12 ⟨rfl, hb12⟩; have A12 := A11.below hb12 A11.lt; have hs12 := hb12.size; have hlit : (w12.alloc (.cells #[.int .u8 0] 5)).ownsRow w12.heap.size 5 1 (.slice (some ⟨w12.heap.size, 0, none⟩) 1 1) 1 (by8 [0]) := World.ownsRow_lit _ _ _ (Nat.le_refl _) (by unfold maxLen; omega) rfl; have bl := alloc_bel' w12 (.cells #[.int .u8 0] 5); have A13 := A12.below bl A12.lt; have R13 := RX.out _ A13))
            | (refine ld26g (by rfl) _ (by rfl) w.heap.size (m * 34) (by rfl) a ha32 R13 ?_)
            | (go_at_call 24; go_must (refine (hacb.out _).mono ?_; rintro e w14 ⟨v14, rfl, hown14, hb14⟩; have hs14 := hb14.size; simp only [World.size_alloc] at hs14; have hlit14 := own_same hlit (fun k q => hb14.block k (own_lt hlit q)); have b14 := bl.trans (hb14.mono (by simp)); obtain ⟨s14, c14, rfl, hS14, hsp14⟩ := own_bs hown14 (acb_bts' hbt) (by omega)))
            | (at_builtin; refine append_bytes (by rfl) (.tmp 104) (.tmp 109) (by rfl) w12.heap.size _ 1 [0] (by rfl) hlit14 s14 48 c14 (acb a) (by rfl) hS14.len.out hS14.nil hS14.sl (by omega) (by omega) ?_; intro v15 w15 hown15 hg15; obtain ⟨s15, c15, rfl, hS15, hsp15⟩ := own_bs hown15 hbt (by omega); have b15 : Below w12.heap.size w12 w15 := b14.grown hg15 b14.size (fun k e => own_ge hlit14 k e); have hB15 := hB11.below (hb12.trans (b15.mono hs12)))
            | (go_at_call 15; go_must (refine (same01_any s11 s15 n11 (1 + 48) c11 c15 (0 :: acb a) (0 :: acb a) _ _ w15 hB15 hS15).mono ?_; rw [decide_eq_true (rfl : (0 :: acb a) = 0 :: acb a)]; rintro r w16 ⟨rfl, h16⟩; replace h16 := h16.symm; subst h16)))
          go_ret
          exact ⟨rfl, (B11.trans (hb12.mono (by omega))).trans (b15.mono (by omega))⟩
        · have hk5 : kk = 1 ∨ kk = 2 ∨ kk = 3 ∨ kk = 4 ∨ kk = 5 := by omega
          rcases hk5 with rfl | rfl | rfl | rfl | rfl
          · have Gk : Arr wr g14 32 (h8 (ndA ps 1 (m / 2))) := Gk
            obtain ⟨c, hc⟩ : ∃ c : Int, c = ((m / 1 % 2 : Nat) : Int) := ⟨_, rfl⟩
            have hc01 : c = 0 ∨ c = 1 := by omega
            have hbit : bits .and .i64 ((m : Int) / 1) 1 = c := by rw [i64_and1, hc]; omega
            have hbit2 : bits .and .i64 (m : Int) 1 = (m : Int) % 2 := i64_and1 _
            have hbit3 : (m : Int) % 2 = c := by rw [hc]; omega
            have hres : (if c = 0 then ndA ps 0 (2 * (m / 2)) else ndA ps 0 (2 * (m / 2) + 1)) = ndA ps 0 (m / 1) := by
              by_cases h0 : c = 0
              · rw [if_pos h0]; congr 1; omega
              · rw [if_neg h0]; congr 1; omega
            have hh := hid (half_any _ _ _ _ _ _ (ndA ps 1 (m / 2)) (ndA ps 0 (2 * (m / 2))) (ndA ps 0 (2 * (m / 2) + 1)) c wr Ok (ndA_len _ _ _) (by omega) (ndA_len _ _ _) (ndA_len _ _ _) (hN.out 0 (m / 2) (by omega) (by omega)) hc01)
            rw [hres] at hh
            have hsk := Bk.size
            have hnk := ndA_len ps 1 (m / 2)
            have hnk2 := ndA_len ps 0 (m / 1)
            have hoffk : ∀ b, b = g14 → ¬ omut (gm + 1) gm f2 v2 b ∧ ¬ oimm es2 b := fun b q => by subst q; exact hoff
            clear hc hres hc01
            generalize hE1 : ndA ps 1 (m / 2) = e1 at *
            generalize hE2 : ndA ps 0 (m / 1) = e2 at *
            go_upto_region 18 with fail
            go_wp2_with (first
              | (refine ld24 (by rfl) (.tmp 14) (by rfl) g14 0 (by rfl) e1 hnk Gk.range ?_)
              | (go_at_call 23; go_must (refine hh.out.mono ?_; rintro r w10 ⟨rfl, hb10⟩; have Gk2 := Gk.below hb10 Gk.lt))
              | (refine st24 (by rfl) (.tmp 14) (.tmp 83) (by rfl) g14 e2 e1 (by rfl) (by rfl) hnk2 hnk Gk2 ?_))
            go_roundw
            case rel =>
              have hs10 := hb10.size
              refine ⟨0, rfl, by rfl, by omega, below_setRow (Bk.trans (hb10.mono hsk)) (by omega) _, OrX.chg (OrX.bel Ok hb10) (Chg.of_grown (gb_row w10 g14 (h8 e2))) (fun b q q' => by cases q'; exact q.elim hoff.1 hoff.2), (Ak.below hb10 Ak.lt).setRowOther (k := g14) (h8 e2) (by omega), ?_, by simp; omega⟩
              show Arr _ g14 32 (h8 (ndA ps 0 (m / 1)))
              rw [hE2]; exact Gk2.setRow _
            case measure => simp [intOf]
          · have Gk : Arr wr g14 32 (h8 (ndA ps 2 (m / 4))) := Gk
            obtain ⟨c, hc⟩ : ∃ c : Int, c = ((m / 2 % 2 : Nat) : Int) := ⟨_, rfl⟩
            have hc01 : c = 0 ∨ c = 1 := by omega
            have hbit : bits .and .i64 ((m : Int) / 2) 1 = c := by rw [i64_and1, hc]; omega
            have hbit2 : bits .and .i64 (m : Int) 1 = (m : Int) % 2 := i64_and1 _
            have hbit3 : True := by trivial
            have hres : (if c = 0 then ndA ps 1 (2 * (m / 4)) else ndA ps 1 (2 * (m / 4) + 1)) = ndA ps 1 (m / 2) := by
              by_cases h0 : c = 0
              · rw [if_pos h0]; congr 1; omega
              · rw [if_neg h0]; congr 1; omega
            have hh := hid (half_any _ _ _ _ _ _ (ndA ps 2 (m / 4)) (ndA ps 1 (2 * (m / 4))) (ndA ps 1 (2 * (m / 4) + 1)) c wr Ok (ndA_len _ _ _) (by omega) (ndA_len _ _ _) (ndA_len _ _ _) (hN.out 1 (m / 4) (by omega) (by omega)) hc01)
            rw [hres] at hh
            have hsk := Bk.size
            have hnk := ndA_len ps 2 (m / 4)
            have hnk2 := ndA_len ps 1 (m / 2)
            have hoffk : ∀ b, b = g14 → ¬ omut (gm + 1) gm f2 v2 b ∧ ¬ oimm es2 b := fun b q => by subst q; exact hoff
            clear hc hres hc01
            generalize hE1 : ndA ps 2 (m / 4) = e1 at *
            generalize hE2 : ndA ps 1 (m / 2) = e2 at *
            go_upto_region 18 with fail
            go_wp2_with (first
              | (refine ld24 (by rfl) (.tmp 14) (by rfl) g14 0 (by rfl) e1 hnk Gk.range ?_)
              | (go_at_call 23; go_must (refine hh.out.mono ?_; rintro r w10 ⟨rfl, hb10⟩; have Gk2 := Gk.below hb10 Gk.lt))
              | (refine st24 (by rfl) (.tmp 14) (.tmp 83) (by rfl) g14 e2 e1 (by rfl) (by rfl) hnk2 hnk Gk2 ?_))
            go_roundw
            case rel =>
              have hs10 := hb10.size
              refine ⟨1, rfl, by rfl, by omega, below_setRow (Bk.trans (hb10.mono hsk)) (by omega) _, OrX.chg (OrX.bel Ok hb10) (Chg.of_grown (gb_row w10 g14 (h8 e2))) (fun b q q' => by cases q'; exact q.elim hoff.1 hoff.2), (Ak.below hb10 Ak.lt).setRowOther (k := g14) (h8 e2) (by omega), ?_, by simp; omega⟩
              show Arr _ g14 32 (h8 (ndA ps 1 (m / 2)))
              rw [hE2]; exact Gk2.setRow _
            case measure => simp [intOf]
          · have Gk : Arr wr g14 32 (h8 (ndA ps 3 (m / 8))) := Gk
            obtain ⟨c, hc⟩ : ∃ c : Int, c = ((m / 4 % 2 : Nat) : Int) := ⟨_, rfl⟩
            have hc01 : c = 0 ∨ c = 1 := by omega
            have hbit : bits .and .i64 ((m : Int) / 4) 1 = c := by rw [i64_and1, hc]; omega
            have hbit2 : bits .and .i64 (m : Int) 1 = (m : Int) % 2 := i64_and1 _
            have hbit3 : True := by trivial
            have hres : (if c = 0 then ndA ps 2 (2 * (m / 8)) else ndA ps 2 (2 * (m / 8) + 1)) = ndA ps 2 (m / 4) := by
              by_cases h0 : c = 0
              · rw [if_pos h0]; congr 1; omega
              · rw [if_neg h0]; congr 1; omega
            have hh := hid (half_any _ _ _ _ _ _ (ndA ps 3 (m / 8)) (ndA ps 2 (2 * (m / 8))) (ndA ps 2 (2 * (m / 8) + 1)) c wr Ok (ndA_len _ _ _) (by omega) (ndA_len _ _ _) (ndA_len _ _ _) (hN.out 2 (m / 8) (by omega) (by omega)) hc01)
            rw [hres] at hh
            have hsk := Bk.size
            have hnk := ndA_len ps 3 (m / 8)
            have hnk2 := ndA_len ps 2 (m / 4)
            have hoffk : ∀ b, b = g14 → ¬ omut (gm + 1) gm f2 v2 b ∧ ¬ oimm es2 b := fun b q => by subst q; exact hoff
            clear hc hres hc01
            generalize hE1 : ndA ps 3 (m / 8) = e1 at *
            generalize hE2 : ndA ps 2 (m / 4) = e2 at *
            go_upto_region 18 with fail
            go_wp2_with (first
              | (refine ld24 (by rfl) (.tmp 14) (by rfl) g14 0 (by rfl) e1 hnk Gk.range ?_)
              | (go_at_call 23; go_must (refine hh.out.mono ?_; rintro r w10 ⟨rfl, hb10⟩; have Gk2 := Gk.below hb10 Gk.lt))
              | (refine st24 (by rfl) (.tmp 14) (.tmp 83) (by rfl) g14 e2 e1 (by rfl) (by rfl) hnk2 hnk Gk2 ?_))
            go_roundw
            case rel =>
              have hs10 := hb10.size
              refine ⟨2, rfl, by rfl, by omega, below_setRow (Bk.trans (hb10.mono hsk)) (by omega) _, OrX.chg (OrX.bel Ok hb10) (Chg.of_grown (gb_row w10 g14 (h8 e2))) (fun b q q' => by cases q'; exact q.elim hoff.1 hoff.2), (Ak.below hb10 Ak.lt).setRowOther (k := g14) (h8 e2) (by omega), ?_, by simp; omega⟩
              show Arr _ g14 32 (h8 (ndA ps 2 (m / 4)))
              rw [hE2]; exact Gk2.setRow _
            case measure => simp [intOf]
          · have Gk : Arr wr g14 32 (h8 (ndA ps 4 (m / 16))) := Gk
            obtain ⟨c, hc⟩ : ∃ c : Int, c = ((m / 8 % 2 : Nat) : Int) := ⟨_, rfl⟩
            have hc01 : c = 0 ∨ c = 1 := by omega
            have hbit : bits .and .i64 ((m : Int) / 8) 1 = c := by rw [i64_and1, hc]; omega
            have hbit2 : bits .and .i64 (m : Int) 1 = (m : Int) % 2 := i64_and1 _
            have hbit3 : True := by trivial
            have hres : (if c = 0 then ndA ps 3 (2 * (m / 16)) else ndA ps 3 (2 * (m / 16) + 1)) = ndA ps 3 (m / 8) := by
              by_cases h0 : c = 0
              · rw [if_pos h0]; congr 1; omega
              · rw [if_neg h0]; congr 1; omega
            have hh := hid (half_any _ _ _ _ _ _ (ndA ps 4 (m / 16)) (ndA ps 3 (2 * (m / 16))) (ndA ps 3 (2 * (m / 16) + 1)) c wr Ok (ndA_len _ _ _) (by omega) (ndA_len _ _ _) (ndA_len _ _ _) (hN.out 3 (m / 16) (by omega) (by omega)) hc01)
            rw [hres] at hh
            have hsk := Bk.size
            have hnk := ndA_len ps 4 (m / 16)
            have hnk2 := ndA_len ps 3 (m / 8)
            have hoffk : ∀ b, b = g14 → ¬ omut (gm + 1) gm f2 v2 b ∧ ¬ oimm es2 b := fun b q => by subst q; exact hoff
            clear hc hres hc01
            generalize hE1 : ndA ps 4 (m / 16) = e1 at *
            generalize hE2 : ndA ps 3 (m / 8) = e2 at *
            go_upto_region 18 with fail
            go_wp2_with (first
              | (refine ld24 (by rfl) (.tmp 14) (by rfl) g14 0 (by rfl) e1 hnk Gk.range ?_)
              | (go_at_call 23; go_must (refine hh.out.mono ?_; rintro r w10 ⟨rfl, hb10⟩; have Gk2 := Gk.below hb10 Gk.lt))
              | (refine st24 (by rfl) (.tmp 14) (.tmp 83) (by rfl) g14 e2 e1 (by rfl) (by rfl) hnk2 hnk Gk2 ?_))
            go_roundw
            case rel =>
              have hs10 := hb10.size
              refine ⟨3, rfl, by rfl, by omega, below_setRow (Bk.trans (hb10.mono hsk)) (by omega) _, OrX.chg (OrX.bel Ok hb10) (Chg.of_grown (gb_row w10 g14 (h8 e2))) (fun b q q' => by cases q'; exact q.elim hoff.1 hoff.2), (Ak.below hb10 Ak.lt).setRowOther (k := g14) (h8 e2) (by omega), ?_, by simp; omega⟩
              show Arr _ g14 32 (h8 (ndA ps 3 (m / 8)))
              rw [hE2]; exact Gk2.setRow _
            case measure => simp [intOf]
          · have Gk : Arr wr g14 32 (h8 (ndA ps 5 (m / 32))) := Gk
            obtain ⟨c, hc⟩ : ∃ c : Int, c = ((m / 16 % 2 : Nat) : Int) := ⟨_, rfl⟩
            have hc01 : c = 0 ∨ c = 1 := by omega
            have hbit : bits .and .i64 ((m : Int) / 16) 1 = c := by rw [i64_and1, hc]; omega
            have hbit2 : bits .and .i64 (m : Int) 1 = (m : Int) % 2 := i64_and1 _
            have hbit3 : True := by trivial
            have hres : (if c = 0 then ndA ps 4 (2 * (m / 32)) else ndA ps 4 (2 * (m / 32) + 1)) = ndA ps 4 (m / 16) := by
              by_cases h0 : c = 0
              · rw [if_pos h0]; congr 1; omega
              · rw [if_neg h0]; congr 1; omega
            have hh := hid (half_any _ _ _ _ _ _ (ndA ps 5 (m / 32)) (ndA ps 4 (2 * (m / 32))) (ndA ps 4 (2 * (m / 32) + 1)) c wr Ok (ndA_len _ _ _) (by omega) (ndA_len _ _ _) (ndA_len _ _ _) (hN.out 4 (m / 32) (by omega) (by omega)) hc01)
            rw [hres] at hh
            have hsk := Bk.size
            have hnk := ndA_len ps 5 (m / 32)
            have hnk2 := ndA_len ps 4 (m / 16)
            have hoffk : ∀ b, b = g14 → ¬ omut (gm + 1) gm f2 v2 b ∧ ¬ oimm es2 b := fun b q => by subst q; exact hoff
            clear hc hres hc01
            generalize hE1 : ndA ps 5 (m / 32) = e1 at *
            generalize hE2 : ndA ps 4 (m / 16) = e2 at *
            go_upto_region 18 with fail
            go_wp2_with (first
              | (refine ld24 (by rfl) (.tmp 14) (by rfl) g14 0 (by rfl) e1 hnk Gk.range ?_)
              | (go_at_call 23; go_must (refine hh.out.mono ?_; rintro r w10 ⟨rfl, hb10⟩; have Gk2 := Gk.below hb10 Gk.lt))
              | (refine st24 (by rfl) (.tmp 14) (.tmp 83) (by rfl) g14 e2 e1 (by rfl) (by rfl) hnk2 hnk Gk2 ?_))
            go_roundw
            case rel =>
              have hs10 := hb10.size
              refine ⟨4, rfl, by rfl, by omega, below_setRow (Bk.trans (hb10.mono hsk)) (by omega) _, OrX.chg (OrX.bel Ok hb10) (Chg.of_grown (gb_row w10 g14 (h8 e2))) (fun b q q' => by cases q'; exact q.elim hoff.1 hoff.2), (Ak.below hb10 Ak.lt).setRowOther (k := g14) (h8 e2) (by omega), ?_, by simp; omega⟩
              show Arr _ g14 32 (h8 (ndA ps 4 (m / 16)))
              rw [hE2]; exact Gk2.setRow _
            case measure => simp [intOf]
end Go.Proofs.Ytbfelelngoonjaa
