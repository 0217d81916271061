/- V13, V15. -/
import Derived.Test.YtbfelelngoonjaaX39
import Derived.Test.YtbfelelngoonjaaX41
import Derived.Test.YtbfelelngoonjaaX40
/- Layer oracle: the document's Learn. -/
namespace Go.Proofs.Ytbfelelngoonjaa
open Go.RowKit
set_option maxRecDepth 100000
set_option linter.unusedVariables false
set_option linter.unusedSimpArgs false


set_option maxHeartbeats 2000000 in
theorem rlearn_any (base gt : Nat) (u : Value) (us : List En) (ps : List Ac) (N : Nat) (sp : Option Addr) (n cap : Nat) (os : List Ou) (w : World) (hR : Rfo base gt w u us) (hS : SS N w ps sp n cap os) (hbase : base ≤ w.heap.size) (hlen : us.length + 200 < 1000000000) :
    Calls Try.prog 11 #[.pointer (some ⟨gt, 0, none⟩), .agg (stA ps sp n cap)] w fun r w' => r = .returned (.int .i64 (rtE ps os)) ∧ ∃ u' us', RSt base gt u us w u' us' w' ∧ dats us' = ptl (dats us) (KBs ps os) := by
  have h1 := hS.a32.out
  have h2 := hS.l32
  have hS := hS.here
  have B0 := alloc_bel' w (.cells (stA ps sp n cap) 38)
  have A0 := Arr.new w 38 (stA ps sp n cap)
  have hK := hid (refKnown_any ps _ sp n cap os _ (hS.below B0))
  obtain ⟨x, hx⟩ : ∃ x, x = rtE ps os := ⟨_, rfl⟩
  have hxx : Hid (∀ w' r, RKPost ps os (w.alloc (.cells (stA ps sp n cap) 38)) r w' → ∃ b2 ax vk ek, w.heap.size + 1 ≤ b2 ∧ r = .returned (.tuple #[vk, .int .i64 x]) ∧ EO b2 ax w' vk ek ∧ ek.map En.bs = KBs ps os ∧ (∀ e ∈ ek, e.sm = shl e.bs) ∧ Below (w.heap.size + 1) (w.alloc (.cells (stA ps sp n cap) 38)) w') := hid (fun w' r h => by
    obtain ⟨b2, ax, vk, ek, q1, q2, q3, q4, q5, q6⟩ := h.kn
    rw [hx]
    exact ⟨b2, ax, vk, ek, by simpa using q1, q2, q3, q4.out, q5.out, by simpa using q6⟩)
  have hKL := KBs_len os h1
  rw [← hx]
  clear hx hS
  go_enter Try.func11, Try.ntmps11
  go_upto_region 3 with (first
    | (refine ld30 (by rfl) _ (by rfl) w.heap.size 38 (by rfl) ps sp n cap h1 h2 A0 ?_)
    | (go_at_call 20; go_must (refine hK.out.mono ?_; rintro r w1 hp; obtain ⟨b2, ax, vk, ek, hb2, rfl, hEk, hbs, hsm, hb1⟩ := hxx.out _ _ hp)))
  have B1 : Below w.heap.size w w1 := B0.trans (hb1.mono (by omega))
  have hs1 := hb1.size
  simp only [World.size_alloc] at hs1
  have hkl : ek.length = (KBs ps os).length := by rw [← hbs, List.length_map]
  obtain ⟨sk, ck, rfl⟩ := hEk.sl
  obtain ⟨m, hm⟩ : ∃ m, m = ek.length := ⟨_, rfl⟩
  rw [← hm] at hkl hEk ⊢
  have hmle : m ≤ 128 := by omega
  replace hkl := hid hkl
  have st1 := RSt.bel hR B1
  have hge := hid (fun (b : Nat) (q : rmut gt u b) => hR.mut_lt (.inl q))
  have hbs := hid hbs
  have hsm := hid hsm
  replace hm := hid hm
  clear hK hxx hb1 A0 B0 hR
  go_loopw [7] (fun q wr => ∃ (j : Nat) (u1 : Value) (us1 : List En), q = .int .i64 (j : Int) ∧ j ≤ m ∧ RSt base gt u us w u1 us1 wr ∧ Chg (rmut gt u) w1 wr ∧ (∀ b, rmut gt u1 b → rmut gt u b ∨ w1.heap.size ≤ b) ∧ Hid (dats us1 = ptl (dats us) ((KBs ps os).take j))) (fun q _ => m - (intOf q).toNat)
  case atStart => exact ⟨0, u, us, rfl, by omega, st1, Chg.refl _ _, fun b q => .inl q, hid (by simp [ptl])⟩
  case round =>
    obtain ⟨j, u1, us1, rfl, hj, stj, cj, mj, hd⟩ := hrel
    clear st1
    by_cases hlt : j < m
    · have hI : (j : Int) < m := by omega
      have hI0 : (0 : Int) ≤ j := by omega
      have hne : ∀ b, b2 ≤ b → ¬ rmut gt u b := fun b hb q => by have := hge.out b q; omega
      have Ej := hEk.chg cj (fun k hk => hne k (own_ge hEk.own k hk)) (fun e he b off q => hne b (hEk.ap e he b off q).1)
      obtain ⟨e, he⟩ : ∃ e, ek[j]? = some e := ⟨ek[j]'(by rw [← hm.out]; exact hlt), List.getElem?_eq_getElem _⟩
      obtain ⟨g, cg, hvg, hgl, hRe⟩ := Ej.get (by rw [← hm.out]; omega) he
      have hsk : sk = some ⟨g, 0, none⟩ := by injection hvg
      have hmem := List.mem_of_getElem? he
      have hok := Ej.ok e hmem
      have he32 := hok.s32
      have hkb : Hid ((KBs ps os).take (j + 1) = (KBs ps os).take j ++ [e.bs]) := hid (by
        rw [List.take_add_one, ← hbs.out, List.getElem?_map, he]; rfl)
      have hes : Hid (e.sm = shl e.bs) := hid (hsm.out e hmem)
      have hlen1 : us1.length < 1000000000 := by
        have q1 := congrArg List.length hd.out
        have q2 := ptl_len (dats us) ((KBs ps os).take j)
        have q3 : ((KBs ps os).take j).length ≤ 128 := Nat.le_trans (List.length_take_le' _ _) hKL
        rw [dats_len] at q1 q2; omega
      have hsW := stj.c.size
      have hsW1 := cj.size
      have hput := hid (rput_any base gt u1 us1 e.sm e.sp e.n e.cap e.bs _ wr.drew (stj.o.bel (Below.refl _ _).drew) he32 (hok.body.below (Below.refl _ _).drew) (by show base ≤ wr.heap.size; omega) hlen1)
      subst hsk
      clear he hmem hok Ej hvg hne
      go_upto_region 5 with fail
      refine rgn (fun u => u.rangeAt g (j * 33) e.cells) hRe (fun hS => ?_)
      refine tk 0 rfl ?_
      refine tk 1 rfl ?_
      refine tk 2 rfl ?_
      refine tk 3 rfl ?_
      refine tk 4 rfl ?_
      refine tl 5 rfl (y24 (by rfl) (.tmp 23) rfl g (j * 33 + 1) rfl e.sm he32 (fun u hu => range_sm hu)) ?_
      refine tk 6 rfl ?_
      refine tk 7 rfl ?_
      refine tk 8 rfl ?_
      refine tk 9 rfl ?_
      refine tl 10 rfl (y5c (by rfl) (.tmp 28) rfl g (j * 33) rfl e (fun u hu => hu)) ?_
      refine rd 11 rfl (fun K hK => ?_)
      go_simp
      refine hput.out.mono ?_
      rintro r w2 ⟨rfl, u2, us2, st2, hd2⟩
      have st3 := (RSt.bel stj.o ((Below.refl _ _).drew)).trans st2
      have hRe2 : w2.rangeAt g (j * 33) e.cells := fun i x hx => by
        rw [← hRe i x hx]
        refine World.cell?_of_block (st3.c.block g hgl ?_)
        intro q
        rcases mj g q with q | q
        · have := hge.out g q; have := own_ge hEk.own g rfl; omega
        · have := own_lt hEk.own (b := g) rfl; omega
      go_wp2_with fail
      refine ko hK hRe2 (fun hS => ?_)
      refine dn ?_
      clear hS hput hRe hRe2
      go_wp2_with fail
      go_roundw
      case rel =>
        refine ⟨j + 1, u2, us2, by go_num, by omega, stj.trans st3, cj.trans' st3.c (fun i hi q => (mj i q).resolve_right (by omega)), fun b q => ?_, hid (by rw [hd2, hkb.out, ptl_snoc, hd.out, ← hes.out])⟩
        rcases st3.m b q with q | q
        · exact mj b q
        · exact .inr (by omega)
      case measure => simp [intOf]; omega
    · obtain rfl : j = m := by omega
      have hI : ¬ (j : Int) < j := by omega
      have hfin : Hid (dats us1 = ptl (dats us) (KBs ps os)) := hid (by rw [hd.out, List.take_of_length_le (by rw [← hkl.out]; omega)])
      go_wp2_with fail
      go_ret
      exact ⟨rfl, u1, us1, stj, hfin.out⟩
end Go.Proofs.Ytbfelelngoonjaa
/- Layer oracle: the anchor. -/
namespace Go.Proofs.Ytbfelelngoonjaa
open Go.RowKit
set_option maxRecDepth 100000
set_option linter.unusedVariables false
set_option linter.unusedSimpArgs false


theorem one_zero : decide (shl [1] = Z32) = false := by kernel_rfl
theorem bs_lit {w : World} {g : Nat} {b : Int} (h : Arr w g 5 #[.int .u8 b]) (hb : 0 ≤ b ∧ b ≤ 255) : BS w.heap.size w (some ⟨g, 0, none⟩) 1 1 [b] :=
  ⟨rfl, (fun e => by cases e), Nat.le_refl _, by omega, by omega, fun h0 => ⟨g, 0, rfl, h.lt, fun t ht => by
    obtain rfl : t = 0 := by omega
    rw [h.cell]; simp [bat]⟩, fun x hx => by simp at hx; subst hx; exact hb⟩
theorem bs_new (w : World) : BS (w.alloc (.cells #[.int .u8 1] 5)).heap.size (w.alloc (.cells #[.int .u8 1] 5)) (some ⟨w.heap.size, 0, none⟩) 1 1 [1] := bs_lit (Arr.new w 5 _) (by omega)
/-- A new oracle. -/
theorem Orc.new (w : World) : Orc (w.heap.size + 2) (w.heap.size + 1) w.heap.size ((w.alloc (.map #[] 0)).alloc (.cells #[.map (some w.heap.size), .slice none 0 0] 68)) (fun _ => .slice none 0 0) (.slice none 0 0) [] := by
  have A := Arr.new (w.alloc (.map #[] 0)) 68 #[.map (some w.heap.size), .slice none 0 0]
  rw [World.size_alloc] at A
  refine ⟨A, (PM.new w).same ((alloc_bel' _ _).block _ (by simp)), EO.nil _ _ _, fun k => World.ownsRow_nil _ _ _ _, ⟨by omega, by omega, by omega⟩, ?_, ?_, ?_⟩
  · intro k b h; simp [Value.ownBlock] at h
  · intro k b h; simp [Value.ownBlock] at h
  · intro k k' b h; simp [Value.ownBlock] at h
theorem omut_lt2 {gO gm : Nat} {f : List Int → Value} {v : Value} {es : List En} {base b : Nat} {w : World} (h : Orc base gO gm w f v es) (hb : w.heap.size ≤ b) : ¬ omut gO gm f v b := fun q => by have := OrX.mut_lt h (.inl q); omega
theorem oadd_s {S L : List Int} (hS : S = shl L) (base gO gm : Nat) (f : List Int → Value) (v : Value) (es : List En) (sp : Option Addr) (n cap : Nat) (N : Nat) (w : World) (hO : Orc base gO gm w f v es) (hB : BS N w sp n cap L) (hap : 0 < n → ∀ b off, sp = some ⟨b, off, none⟩ → ¬ omut gO gm f v b) (hbase : base ≤ w.heap.size) (hlen : es.length < 1000000000) :
    Calls Try.prog 8 #[.pointer (some ⟨gO, 0, none⟩), .slice sp n cap] w fun r w' => r = .returned (.tuple #[.agg (h8 S), .int .i64 0]) ∧ ∃ f' v' es', OSt base gO gm f v es w f' v' es' w' ∧ dats es' = pt (dats es) L S := by
  subst hS
  exact oadd_any base gO gm f v es sp n cap L N w hO hB hap hbase hlen
theorem rsum_s {S L : List Int} (hS : S = shl L) (sp : Option Addr) (n cap : Nat) (N : Nat) (w : World) (hB : BS N w sp n cap L) : Calls Try.prog 13 #[.slice sp n cap] w fun e w' => e = .returned (.agg (h8 S)) ∧ Below w.heap.size w w' := by
  subst hS
  exact rsum_any sp n cap L N w hB
theorem anc1 (S : List Int) : pt (dats []) [1] S = [([1], S)] := by simp [pt, dats]
theorem anc2 (S : List Int) : pt [([1], S)] [1] S = [([1], S)] := by simp [pt]
theorem anc3 (S : List Int) : gt [([1], S)] S = some [1] := by simp [gt]
theorem anc4 (S : List Int) (h : decide (S = Z32) = false) : gt [([1], S)] Z32 = none := by
  have h' : ¬ S = Z32 := of_decide_eq_false h
  unfold gt
  rw [List.find?_cons_of_neg (by simpa using h')]
  rfl
set_option maxHeartbeats 1000000 in
theorem anchored_any (w : World) : Calls Try.prog 6 #[] w fun e w' => e = .returned (.bool true) ∧ Below w.heap.size w w' := by
  obtain ⟨S, hS, hne, hS32⟩ : ∃ S, S = shl [1] ∧ decide (S = Z32) = false ∧ S.length = 32 := ⟨_, rfl, one_zero, shl_len _⟩
  have hadd := hid (oadd_s hS)
  have hsum := hid (rsum_s hS)
  have hpt1 : Hid (∀ es : List En, dats es = pt (dats []) [1] S → dats es = [([1], S)]) := hid (fun es h => by rw [h, anc1])
  have hpt2 : Hid (∀ es es1 : List En, dats es1 = [([1], S)] → dats es = pt (dats es1) [1] S → dats es = [([1], S)]) := hid (fun es es1 h h' => by rw [h', h, anc2])
  have hg1 : Hid (∀ es : List En, dats es = [([1], S)] → gt (dats es) S = some [1]) := hid (fun es h => by rw [h, anc3])
  have hg2 : Hid (∀ es : List En, dats es = [([1], S)] → gt (dats es) Z32 = none) := hid (fun es h => by rw [h, anc4 S hne])
  clear hS hne
  have B0 : Below w.heap.size w ((w.alloc (.map #[] 0)).alloc (.cells #[.map (some w.heap.size), .slice none 0 0] 68)) := (alloc_bel' w _).alloc (by simp) _
  have O0 := Orc.new w
  have hsz0 : ((w.alloc (.map #[] 0)).alloc (.cells #[.map (some w.heap.size), .slice none 0 0] 68)).heap.size = w.heap.size + 2 := by simp
  go_enter Try.func6, Try.ntmps6
  go_upto_region 2 with (go_at_call 7; go_must (refine (new_any w).mono ?_; rintro e w1 ⟨rfl, rfl⟩))
  generalize (w.alloc (.map #[] 0)).alloc (.cells #[.map (some w.heap.size), .slice none 0 0] 68) = W0 at *
  have hszle : w.heap.size + 2 ≤ W0.heap.size := by omega
  replace hsz0 := hid hsz0
  have hA1 := hid (hadd.out _ _ _ _ _ _ _ 1 1 _ (W0.alloc (.cells #[.int .u8 1] 5)) (OrX.bel O0 (alloc_bel' W0 _)) (bs_new W0) (fun _ b off q => by cases q; exact omut_lt2 O0 (Nat.le_refl _)) (by simp; omega) (by simp))
  go_upto_region 3 with (first
    | (go_at_call 8; go_must (refine hA1.out.mono ?_; rintro e w1 ⟨rfl, f1, v1, es1, st1, hd1⟩))
    | (refine st24n (by rfl) _ _ (by rfl) w1 w1.heap.size rfl (by rfl) S (by rfl) (by rfl) hS32 ?_))
  replace hd1 := hid (hpt1.out _ hd1)
  have st1' := (OSt.bel O0 (alloc_bel' W0 (.cells #[.int .u8 1] 5))).trans st1
  have st2 := st1'.trans (OSt.bel st1'.o (alloc_bel' w1 (.cells (h8 S) 32)))
  have G2 := Arr.new w1 32 (h8 S)
  have hn1 : ¬ omut (w.heap.size + 1) w.heap.size f1 v1 w1.heap.size := omut_lt2 st1'.o (Nat.le_refl _)
  have hz1 := st1'.c.size
  have hz2 : (w1.alloc (.cells (h8 S) 32)).heap.size = w1.heap.size + 1 := by simp
  clear hA1 st1 st1'
  generalize w1.alloc (.cells (h8 S) 32) = W1 at *
  have hz2l : w1.heap.size < W1.heap.size := by omega
  have hn2 : ¬ omut (w.heap.size + 1) w.heap.size f1 v1 w1.heap.size := hn1
  replace hz2 := hid hz2
  have hlen1 : es1.length < 1000000000 := by have q := congrArg List.length hd1.out; rw [dats_len] at q; simp at q; omega
  have hA2 := hid (hadd.out _ _ _ _ _ _ _ 1 1 _ (W1.alloc (.cells #[.int .u8 1] 5)) (OrX.bel st2.o (alloc_bel' W1 _)) (bs_new W1) (fun _ b off q => by cases q; exact omut_lt2 st2.o (Nat.le_refl _)) (by simp; omega) hlen1)
  go_upto_region 4 with (first
    | (go_at_call 8; go_must (refine hA2.out.mono ?_; rintro e w2 ⟨rfl, f2, v2, es2, st3, hd2⟩))
    | (refine st24n (by rfl) _ _ (by rfl) w2 w2.heap.size rfl (by rfl) S (by rfl) (by rfl) hS32 ?_))
  replace hd2 := hid (hpt2.out _ _ hd1.out hd2)
  have st3' := (OSt.bel st2.o (alloc_bel' W1 (.cells #[.int .u8 1] 5))).trans st3
  have G2' := G2.chg st3'.c hn2
  have st4 := (st2.trans st3').trans (OSt.bel st3'.o (alloc_bel' w2 (.cells (h8 S) 32)))
  have G4 := Arr.new w2 32 (h8 S)
  have G2'' := G2'.alloc (.cells (h8 S) 32)
  have hz3 := st3'.c.size
  have hz4 : (w2.alloc (.cells (h8 S) 32)).heap.size = w2.heap.size + 1 := by simp
  clear hA2 st3 st3' st2 G2 G2'
  generalize w2.alloc (.cells (h8 S) 32) = W2 at *
  have hz4l : w2.heap.size < W2.heap.size := by omega
  replace hz4 := hid hz4
  have hlen2 : es2.length ≤ 1000000000 := by have q := congrArg List.length hd2.out; rw [dats_len] at q; simp at q; omega
  have hget1 := hid (oget_any _ _ _ _ _ _ S W2 st4.o hS32 hlen2)
  go_upto_region 5 with (first
    | (refine ld24 (by rfl) (.tmp 2) (by rfl) w1.heap.size 0 (by rfl) S hS32 G2''.range ?_)
    | (go_at_call 12; go_must (refine hget1.out.mono ?_; rintro r w3 ⟨sp3, n3, cp3, L3, hr3, hB3, hL3, hb3⟩; rw [hg1.out _ hd2.out] at hr3 hL3; subst hr3; simp only [Option.getD_some] at hL3; subst hL3; simp only [Option.isSome_some])))
  have st5 := st4.trans (OSt.bel st4.o hb3)
  have H2 := G2''.below hb3 G2''.lt
  have H4 := G4.below hb3 (by omega)
  have hzl3 := hb3.size
  have hget2 := hid (oget_any _ _ _ _ _ _ Z32 w3 st5.o Z32_len hlen2)
  have hbz : Try.prog.built 32 [] = some (h8 Z32) := by kernel_rfl
  clear hget1 st4 G2'' G4
  go_upto_region 6 with (first
    | (refine bdT (by rfl) 32 #[] (by rfl) (by rfl) hbz ?_)
    | (go_at_call 12; go_must (refine hget2.out.mono ?_; rintro r w4 ⟨sp4, n4, cp4, L4, hr4, -, -, hb4⟩; rw [hg2.out _ hd2.out] at hr4; subst hr4; simp only [Option.isSome_none])))
  have st6 := st5.trans (OSt.bel st5.o hb4)
  have K2 := H2.below hb4 H2.lt
  have K4 := H4.below hb4 H4.lt
  have BL := hB3.below hb4
  have hzl4 := hb4.size
  clear hget2 st5 H2 H4 hB3
  refine rgn (fun u => Arr u w1.heap.size 32 (h8 S) ∧ Arr u w2.heap.size 32 (h8 S)) ⟨K2.drew, K4.drew⟩ (fun hS => ?_)
  refine tk 0 rfl ?_
  refine tk 1 rfl ?_
  refine tk 2 rfl ?_
  refine tk 3 rfl ?_
  refine tk 4 rfl ?_
  refine tk 5 rfl ?_
  refine tk 6 rfl ?_
  refine tl 7 rfl (y24 (by rfl) (.tmp 2) rfl w1.heap.size 0 rfl S hS32 (fun u hu => hu.1.range)) ?_
  refine tl 8 rfl (y24 (by rfl) (.tmp 4) rfl w2.heap.size 0 rfl S hS32 (fun u hu => hu.2.range)) ?_
  refine tl 9 rfl (yEq (by rfl) (.tmp 42) (.tmp 43) rfl S S rfl rfl hS32 hS32 true (decide_eq_true rfl)) ?_
  refine tk 10 rfl ?_
  refine tk 11 rfl ?_
  refine tl 12 rfl (y24 (by rfl) (.tmp 2) rfl w1.heap.size 0 rfl S hS32 (fun u hu => hu.1.range)) ?_
  refine rd 13 rfl (fun K hK => ?_)
  go_simp
  go_wp2_with fail
  have U1 : Below w4.heap.size w4 (w4.drew.alloc (.cells #[.int .u8 1] 5)) := ((Below.refl _ _).drew).alloc (Nat.le_refl _) _
  have BN1 := bs_new w4.drew
  refine ko hK ⟨K2.below U1 K2.lt, K4.below U1 K4.lt⟩ (fun hS => ?_)
  refine rd 14 rfl (fun K hK => ?_)
  go_simp
  refine (hsum.out _ _ _ _ _ BN1).mono ?_
  rintro r w5 ⟨rfl, hb5⟩
  have U2 := U1.trans (hb5.mono U1.size)
  go_wp2_with fail
  refine ko hK ⟨K2.below U2 K2.lt, K4.below U2 K4.lt⟩ (fun hS => ?_)
  refine tl 15 rfl (yEq (by rfl) (.tmp 47) (.tmp 49) rfl S S rfl rfl hS32 hS32 true (decide_eq_true rfl)) ?_
  refine tk 16 rfl ?_
  refine tk 17 rfl ?_
  refine tk 18 rfl ?_
  refine tk 19 rfl ?_
  refine tk 20 rfl ?_
  refine tk 21 rfl ?_
  refine tk 22 rfl ?_
  refine tk 23 rfl ?_
  refine tk 24 rfl ?_
  refine tk 25 rfl ?_
  refine rd 26 rfl (fun K hK => ?_)
  go_simp
  go_wp2_with fail
  have U3 := U2.alloc U2.size (.cells #[.int .u8 1] 5)
  have BN3 := bs_new w5
  refine ko hK ⟨K2.below U3 K2.lt, K4.below U3 K4.lt⟩ (fun hS => ?_)
  refine rd 27 rfl (fun K hK => ?_)
  go_simp
  refine (same01_any sp3 (some ⟨w5.heap.size, 0, none⟩) n3 1 cp3 1 _ [1] _ _ _ (BL.below (U3.mono hzl4)) BN3).mono ?_
  rintro r w6 ⟨rfl, rfl⟩
  go_wp2_with fail
  refine ko hK hS (fun hS => ?_)
  refine tk 28 rfl ?_
  refine tk 29 rfl ?_
  refine tk 30 rfl ?_
  refine rd 31 rfl (fun K hK => ?_)
  go_simp
  refine (list_any _ _ _ _ _ _ _ (OrX.bel st6.o U3) (by have q := congrArg List.length hd2.out; rw [dats_len] at q; simp at q; omega)).mono ?_
  rintro r w7 ⟨ax, v7, ks, rfl, hE7, hd7, hb7⟩
  obtain ⟨s7, c7, rfl⟩ := hE7.sl
  have hk1 : ks.length = 1 := by have q := congrArg List.length (hd7.trans hd2.out); rw [dats_len] at q; simpa using q
  rw [hk1]
  have U4 := U3.trans (hb7.mono U3.size)
  clear hE7 hd7
  go_wp2_with fail
  refine ko hK ⟨K2.below U4 K2.lt, K4.below U4 K4.lt⟩ (fun hS => ?_)
  refine tk 32 rfl ?_
  refine tk 33 rfl ?_
  refine tk 34 rfl ?_
  refine rd 35 rfl (fun K hK => ?_)
  go_simp
  go_wp2_with fail
  refine ko hK hS (fun hS => ?_)
  refine dn ?_
  go_wp2_with fail
  go_ret
  refine ⟨rfl, ?_⟩
  exact B0.trans ((st6.c.below (fun i hi => ⟨by omega, fun q => by rcases q with q | q | q | ⟨k, q⟩; omega; omega; simp [Value.ownBlock] at q; simp [Value.ownBlock] at q⟩)).trans (U4.mono (by omega)))
end Go.Proofs.Ytbfelelngoonjaa
