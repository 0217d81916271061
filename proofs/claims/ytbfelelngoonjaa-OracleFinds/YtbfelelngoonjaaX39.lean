/- V8, V12. -/
import Derived.Test.YtbfelelngoonjaaX38
import Derived.Test.YtbfelelngoonjaaX27
/- Layer oracle: does it stand in the document's oracle? -/
namespace Go.Proofs.Ytbfelelngoonjaa
open Go.RowKit
set_option maxRecDepth 100000
set_option linter.unusedVariables false
set_option linter.unusedSimpArgs false


theorem yEq {ops : Array Oper} {S : World → Prop} {op : Oper} {a : Act} (hw : Region.wanted op (yielded ops a.tmps) = true) (x y : Operand) (ho : op.op = .binOp .eql 32 x y 32)
    (X Y : List Int) (hx : a.eval x = .agg (h8 X)) (hy : a.eval y = .agg (h8 Y)) (hX : X.length = 32) (hY : Y.length = 32) (t : Bool) (ht : decide (X = Y) = t) : YieldsIf Try.prog ops S op (.bool t) a :=
  .inl ⟨hw, fun w hw => by
    have cc := run_eqIn24 hX hY w
    rw [ht] at cc
    unfold execOp
    simp only [ho, hx, hy]
    go_simp⟩
/-- A slice of entries: where it lies, and the entry i. -/
theorem EO.get {base ax : Nat} {w : World} {v : Value} {es : List En} (h : EO base ax w v es) (hn : es.length ≤ 1000000000) {i : Nat} {e : En} (he : es[i]? = some e) : ∃ g cap, v = .slice (some ⟨g, 0, none⟩) es.length cap ∧ g < w.heap.size ∧ w.rangeAt g (i * 33) e.cells := by
  have hi := (List.getElem?_eq_some_iff.1 he).1
  obtain ⟨-, h' | ⟨g, cap, cur, rfl, hg, hh, hnc, hcm, hc, ht⟩⟩ := h.own
  · omega
  · refine ⟨g, cap, rfl, (Array.getElem?_eq_some_iff.1 hh).1, fun j u hu => ?_⟩
    have hj : j < 33 := by
      have := (List.getElem?_eq_some_iff.1 hu).1
      rw [En.len (h.s32 e (List.mem_of_getElem? he))] at this; exact this
    rw [cell_of_row w g _ cur 71 (0, 0) hh, ← Array.getElem?_toList, ← List.getElem?_take_of_lt (show i * 33 + j < es.length * 33 by omega), ht]
    exact flatE_at h.s32 he hu
theorem EO.sl {base ax : Nat} {w : World} {v : Value} {es : List En} (h : EO base ax w v es) : ∃ sp cap, v = .slice sp es.length cap := by
  rcases h.own.2 with ⟨h, h0⟩ | ⟨g, cap, cur, h, -⟩
  · exact ⟨none, 0, by rw [h, h0]⟩
  · exact ⟨_, _, h⟩
set_option maxHeartbeats 2000000 in
theorem rhas_any (base gt : Nat) (u : Value) (us : List En) (k : List Int) (sp : Option Addr) (n cap : Nat) (L : List Int) (N : Nat) (w : World) (hR : Rfo base gt w u us) (hk : k.length = 32) (hB : BS N w sp n cap L) (hlen : us.length ≤ 1000000000) :
    Calls Try.prog 52 #[.pointer (some ⟨gt, 0, none⟩), .agg (h8 k), .slice sp n cap] w fun r w' => (∃ z : Int, r = .returned (.int .i64 z) ∧ decide (z < 0) = !decide ((L, k) ∈ dats us)) ∧ Below w.heap.size w w' := by
  obtain ⟨b, hb⟩ : ∃ b, b = decide ((L, k) ∈ dats us) := ⟨_, rfl⟩
  rw [← hb]
  have hbT : Hid (∀ (i : Nat) (q : En), us[i]? = some q → q.sm = k → q.bs = L → b = true) := hid (fun i q h1 h2 h3 => by rw [hb]; exact decide_eq_true (List.mem_map.2 ⟨q, List.mem_of_getElem? h1, by simp [En.dat, h2, h3]⟩))
  have hbF : Hid ((∀ (i : Nat) (q : En), us[i]? = some q → q.sm = k → q.bs ≠ L) → b = false) := hid (fun h => by
    rw [hb]
    refine decide_eq_false (fun h' => ?_)
    obtain ⟨q, hq, hd⟩ := List.mem_map.1 h'
    obtain ⟨i, hi, he⟩ := List.getElem_of_mem hq
    exact h i q (by rw [← he]; exact List.getElem?_eq_getElem hi) (congrArg Prod.snd hd) (congrArg Prod.fst hd))
  clear hb
  have B0 := alloc_bel' w (.cells (h8 k) 32)
  have A0 := Arr.new w 32 (h8 k)
  have R0 := hR.bel B0
  have L0 := hB.here.below B0
  obtain ⟨sv, cv, rfl⟩ := hR.U.sl
  obtain ⟨m, hm⟩ : ∃ m, m = us.length := ⟨_, rfl⟩
  rw [← hm] at hlen R0
  have c1 := R0.A.cell 0
  simp at c1
  replace hm := hid hm
  clear hR hB
  go_enter Try.func52, Try.ntmps52
  go_upto_region 2 with fail
  generalize w.alloc (.cells (h8 k) 32) = W at *
  clear c1
  go_loopw [7] (fun q wr => ∃ j : Nat, q = .int .i64 (j : Int) ∧ j ≤ m ∧ Arr wr w.heap.size 32 (h8 k) ∧ Rfo base gt wr (.slice sv m cv) us ∧ BS w.heap.size wr sp n cap L ∧ Below w.heap.size w wr ∧ Hid (∀ (i : Nat) (q : En), i < j → us[i]? = some q → q.sm = k → q.bs ≠ L)) (fun q _ => m - (intOf q).toNat)
  case atStart => exact ⟨0, rfl, by omega, A0, R0, L0, B0, hid (fun i p hi => by omega)⟩
  case round =>
    obtain ⟨j, rfl, hj, A1, R1, L1, B1, hno⟩ := hrel
    clear A0 R0 L0 B0
    have c1 := R1.A.cell 0
    simp at c1
    by_cases hlt : j < m
    · have hI : (j : Int) < m := by omega
      have hI0 : (0 : Int) ≤ j := by omega
      obtain ⟨q, hq⟩ : ∃ q, us[j]? = some q := ⟨us[j]'(by rw [← hm.out]; exact hlt), List.getElem?_eq_getElem _⟩
      obtain ⟨g, cg, hvg, hgl, hRq⟩ := R1.U.get (by rw [← hm.out]; exact hlen) hq
      have hsv : sv = some ⟨g, 0, none⟩ := by injection hvg
      subst hsv
      have hok := R1.U.ok q (List.mem_of_getElem? hq)
      have hq32 := hok.s32
      have hT : Hid (q.sm = k → q.bs = L → b = true) := hid (hbT.out j q hq)
      have hN : Hid (¬ (q.sm = k ∧ q.bs = L) → ∀ (i : Nat) (p : En), i < j + 1 → us[i]? = some p → p.sm = k → p.bs ≠ L) := hid (fun h i p hi hp h1 h2 => by
        by_cases hij : i = j
        · subst hij; rw [hq] at hp; cases hp; exact h ⟨h1, h2⟩
        · exact hno.out i p (by omega) hp h1 h2)
      clear hq hvg
      by_cases hs : q.sm = k
      · have hd : decide (q.sm = k) = true := decide_eq_true hs
        go_upto_region 4 with fail
        refine rgn (fun u => Arr u w.heap.size 32 (h8 k) ∧ Arr u gt 28 #[.slice (some ⟨g, 0, none⟩) m cv] ∧ u.rangeAt g (j * 33) q.cells) ⟨A1.drew, R1.A.drew, hRq⟩ (fun hS => ?_)
        refine tk 0 rfl ?_
        refine tk 1 rfl ?_
        refine tk 2 rfl ?_
        refine tl 3 rfl (yL26 (by rfl) (.tmp 19) rfl gt 0 rfl _ _ _ (fun u hu => by simpa using hu.2.1.cell 0)) ?_
        refine tk 4 rfl ?_
        refine tk 5 rfl ?_
        refine tk 6 rfl ?_
        refine tl 7 rfl (y24 (by rfl) (.tmp 23) rfl g (j * 33 + 1) rfl q.sm hq32 (fun u hu => range_sm hu.2.2)) ?_
        refine tl 8 rfl (y24 (by rfl) (.tmp 4) rfl w.heap.size 0 rfl k hk (fun u hu => hu.1.range)) ?_
        refine tl 9 rfl (yEq (by rfl) (.tmp 24) (.tmp 25) rfl q.sm k rfl rfl hq32 hk _ hd) ?_
        refine tk 10 rfl ?_
        refine tk 11 rfl ?_
        refine tk 12 rfl ?_
        refine tk 13 rfl ?_
        refine tl 14 rfl (yL26 (by rfl) (.tmp 30) rfl gt 0 rfl _ _ _ (fun u hu => by simpa using hu.2.1.cell 0)) ?_
        refine tk 15 rfl ?_
        refine tk 16 rfl ?_
        refine tk 17 rfl ?_
        refine tl 18 rfl (y5c (by rfl) (.tmp 34) rfl g (j * 33) rfl q (fun u hu => hu.2.2)) ?_
        refine tk 19 rfl ?_
        refine rd 20 rfl (fun K hK => ?_)
        go_simp
        refine (same01_any q.sp sp q.n n q.cap cap q.bs L _ _ wr.drew (hok.body.below (Below.refl _ _).drew) (L1.below (Below.refl _ _).drew)).mono ?_
        rintro r w4 ⟨rfl, rfl⟩
        go_wp2_with fail
        refine ko hK hS (fun hS => ?_)
        refine tk 21 rfl ?_
        refine dn ?_
        replace A1 := A1.drew
        replace R1 := R1.bel (Below.refl _ _).drew
        replace L1 := L1.below ((Below.refl _ _).drew)
        replace B1 := B1.drew
        clear hS hRq hok c1
        generalize wr.drew = U1 at *
        by_cases hb : q.bs = L
        · rw [decide_eq_true hb]
          have hbt := hT.out hs hb
          subst hbt
          go_wp2_with fail
          go_ret
          exact ⟨⟨_, rfl, by simp⟩, B1⟩
        · rw [decide_eq_false hb]
          have hN2 := hid (hN.out (fun h => hb h.2))
          go_wp2_with fail
          go_roundw
          case rel => exact ⟨j + 1, by go_num, by omega, A1, R1, L1, B1, hN2⟩
          case measure => simp [intOf]; omega
      · have hd : decide (q.sm = k) = false := decide_eq_false hs
        go_upto_region 4 with fail
        refine rgn (fun u => Arr u w.heap.size 32 (h8 k) ∧ Arr u gt 28 #[.slice (some ⟨g, 0, none⟩) m cv] ∧ u.rangeAt g (j * 33) q.cells) ⟨A1.drew, R1.A.drew, hRq⟩ (fun hS => ?_)
        refine tk 0 rfl ?_
        refine tk 1 rfl ?_
        refine tk 2 rfl ?_
        refine tl 3 rfl (yL26 (by rfl) (.tmp 19) rfl gt 0 rfl _ _ _ (fun u hu => by simpa using hu.2.1.cell 0)) ?_
        refine tk 4 rfl ?_
        refine tk 5 rfl ?_
        refine tk 6 rfl ?_
        refine tl 7 rfl (y24 (by rfl) (.tmp 23) rfl g (j * 33 + 1) rfl q.sm hq32 (fun u hu => range_sm hu.2.2)) ?_
        refine tl 8 rfl (y24 (by rfl) (.tmp 4) rfl w.heap.size 0 rfl k hk (fun u hu => hu.1.range)) ?_
        refine tl 9 rfl (yEq (by rfl) (.tmp 24) (.tmp 25) rfl q.sm k rfl rfl hq32 hk _ hd) ?_
        refine tk 10 rfl ?_
        refine tl 11 rfl (Or.inr ⟨by rfl, rfl⟩) ?_
        refine tl 12 rfl (Or.inr ⟨by rfl, rfl⟩) ?_
        refine tl 13 rfl (Or.inr ⟨by rfl, rfl⟩) ?_
        refine tl 14 rfl (Or.inr ⟨by rfl, rfl⟩) ?_
        refine tl 15 rfl (Or.inr ⟨by rfl, rfl⟩) ?_
        refine tl 16 rfl (Or.inr ⟨by rfl, rfl⟩) ?_
        refine tl 17 rfl (Or.inr ⟨by rfl, rfl⟩) ?_
        refine tl 18 rfl (Or.inr ⟨by rfl, rfl⟩) ?_
        refine tl 19 rfl (Or.inr ⟨by rfl, rfl⟩) ?_
        refine tl 20 rfl (Or.inr ⟨by rfl, rfl⟩) ?_
        refine tk 21 rfl ?_
        refine dn ?_
        replace A1 := A1.drew
        replace R1 := R1.bel (Below.refl _ _).drew
        replace L1 := L1.below ((Below.refl _ _).drew)
        replace B1 := B1.drew
        clear hS hRq hok c1
        generalize wr.drew = U1 at *
        have hN2 := hid (hN.out (fun h => hs h.1))
        go_wp2_with fail
        go_roundw
        case rel => exact ⟨j + 1, by go_num, by omega, A1, R1, L1, B1, hN2⟩
        case measure => simp [intOf]; omega
    · obtain rfl : j = m := by omega
      have hI : ¬ (j : Int) < j := by omega
      have hbf : b = false := hbF.out (fun i q hq => hno.out i q (by rw [hm.out]; exact (List.getElem?_eq_some_iff.1 hq).1) hq)
      subst hbf
      go_wp2_with fail
      go_ret
      exact ⟨⟨_, rfl, by simp⟩, B1⟩
end Go.Proofs.Ytbfelelngoonjaa
/- Layer oracle: Learn. -/
namespace Go.Proofs.Ytbfelelngoonjaa
open Go.RowKit
set_option maxRecDepth 100000
set_option linter.unusedVariables false
set_option linter.unusedSimpArgs false


/-- Bytes put one behind the other. -/
def ptl (D : List (List Int × List Int)) (l : List (List Int)) : List (List Int × List Int) := l.foldl (fun D b => pt D b (shl b)) D
theorem ptl_snoc (D : List (List Int × List Int)) (l : List (List Int)) (b : List Int) : ptl D (l ++ [b]) = pt (ptl D l) b (shl b) := by simp [ptl]
theorem pt_len (D : List (List Int × List Int)) (b k : List Int) : (pt D b k).length ≤ D.length + 1 := by
  unfold pt; split <;> simp
theorem ptl_len (D : List (List Int × List Int)) (l : List (List Int)) : (ptl D l).length ≤ D.length + l.length := by
  induction l generalizing D with
  | nil => exact Nat.le_refl _
  | cons b r ih =>
    have h1 := ih (pt D b (shl b))
    have h2 := pt_len D b (shl b)
    show (ptl (pt D b (shl b)) r).length ≤ _
    simp only [List.length_cons]; omega
/-- What a state teaches. -/
def KBs (ps : List Ac) (os : List Ou) : List (List Int) := if may ps os.length = true then knB ps os else []
theorem KBs_len {ps : List Ac} (os : List Ou) (h1 : ps.length = 32) : (KBs ps os).length ≤ 128 := by
  unfold KBs
  split
  · rename_i h
    have := may_le h
    rw [knB_len h1 this]; omega
  · simp
theorem dats_len (es : List En) : (dats es).length = es.length := by simp [dats]
theorem olearn_nil (ps : List Ac) (N : Nat) (sp : Option Addr) (n cap : Nat) (os : List Ou) (w : World) (hS : SS N w ps sp n cap os) :
    Calls Try.prog 10 #[.pointer none, .agg (stA ps sp n cap)] w fun r w' => r = .returned (.int .i64 1) ∧ Below w.heap.size w w' := by
  have hb0 := alloc_bel' w (.cells (stA ps sp n cap) 38)
  go_enter Try.func10, Try.ntmps10
  go_wp2_with (go_at_call 25; go_must (refine (isThere_nil _).mono ?_; rintro e w2 ⟨rfl, h22⟩; replace h22 := h22.symm; subst h22))
  go_ret
  exact ⟨rfl, hb0⟩
set_option maxHeartbeats 2000000 in
theorem olearn_any (base gO gm : Nat) (f : List Int → Value) (v : Value) (es : List En) (ps : List Ac) (N : Nat) (sp : Option Addr) (n cap : Nat) (os : List Ou) (w : World) (hO : Orc base gO gm w f v es) (hS : SS N w ps sp n cap os) (hbase : base ≤ w.heap.size) (hlen : es.length + 200 < 1000000000) :
    Calls Try.prog 10 #[.pointer (some ⟨gO, 0, none⟩), .agg (stA ps sp n cap)] w fun r w' => r = .returned (.int .i64 (rtE ps os)) ∧ ∃ f' v' es', OSt base gO gm f v es w f' v' es' w' ∧ dats es' = ptl (dats es) (KBs ps os) := by
  have h1 := hS.a32.out
  have h2 := hS.l32
  have hS := hS.here
  have B0 := alloc_bel' w (.cells (stA ps sp n cap) 38)
  have A0 := Arr.new w 38 (stA ps sp n cap)
  have O0 := OrX.bel hO B0
  have c0 := O0.A.cell 0
  simp at c0
  have hK := hid (known6n_any ps _ sp n cap os _ (hS.below B0))
  obtain ⟨x, hx⟩ : ∃ x, x = rtE ps os := ⟨_, rfl⟩
  have hxx : Hid (∀ w' r, KnP ps os (w.alloc (.cells (stA ps sp n cap) 38)) r w' → ∃ b2 ax vk ek, w.heap.size + 1 ≤ b2 ∧ r = .returned (.tuple #[vk, .int .i64 x]) ∧ EO b2 ax w' vk ek ∧ ek.map En.bs = KBs ps os ∧ (∀ e ∈ ek, e.sm = shl e.bs) ∧ Below (w.heap.size + 1) (w.alloc (.cells (stA ps sp n cap) 38)) w') := hid (fun w' r h => by
    obtain ⟨b2, ax, vk, ek, q1, q2, q3, q4, q5, q6⟩ := h
    rw [hx]
    exact ⟨b2, ax, vk, ek, by simpa using q1, q2, q3, q4.out, q5.out, by simpa using q6⟩)
  have hKL := KBs_len os h1
  rw [← hx]
  have hx2 : x = 0 ∨ (x = 2 ∧ KBs ps os = []) := by
    rw [hx]; unfold rtE KBs
    split
    · exact .inl rfl
    · exact .inr ⟨rfl, rfl⟩
  clear hx hS
  rcases hx2 with rfl | ⟨rfl, hkb⟩
  · go_enter Try.func10, Try.ntmps10
    go_upto_region 6 with (first
      | (refine ld30 (by rfl) _ (by rfl) w.heap.size 38 (by rfl) ps sp n cap h1 h2 A0 ?_)
      | (go_at_call 25; go_must (refine (isThere_any gO gm _ c0).mono ?_; rintro e w2 ⟨rfl, h22⟩; replace h22 := h22.symm; subst h22))
      | (go_at_call 29; go_must (refine hK.out.mono ?_; rintro r w1 hp; obtain ⟨b2, ax, vk, ek, hb2, rfl, hEk, hbs, hsm, hb1⟩ := hxx.out _ _ hp)))
    have B1 : Below w.heap.size w w1 := B0.trans (hb1.mono (by omega))
    have hs1 := hb1.size
    simp only [World.size_alloc] at hs1
    have hkl : ek.length = (KBs ps os).length := by rw [← hbs, List.length_map]
    obtain ⟨sk, ck, rfl⟩ := hEk.sl
    obtain ⟨m, hm⟩ : ∃ m, m = ek.length := ⟨_, rfl⟩
    rw [← hm] at hkl hEk ⊢
    have hmle : m ≤ 128 := by omega
    replace hkl := hid hkl
    have st1 := OSt.bel hO B1
    have hge := hid (fun (b : Nat) (q : omut gO gm f v b) => OrX.mut_lt hO (.inl q))
    have hbs := hid hbs
    have hsm := hid hsm
    replace hm := hid hm
    clear hK hxx hb1 A0 c0 O0 B0 hO
    go_wp2_with fail
    go_loopw [22] (fun q wr => ∃ (j : Nat) (f1 : List Int → Value) (v1 : Value) (es1 : List En), q = .int .i64 (j : Int) ∧ j ≤ m ∧ OSt base gO gm f v es w f1 v1 es1 wr ∧ Chg (omut gO gm f v) w1 wr ∧ (∀ b, omut gO gm f1 v1 b → omut gO gm f v b ∨ w1.heap.size ≤ b) ∧ Hid (dats es1 = ptl (dats es) ((KBs ps os).take j))) (fun q _ => m - (intOf q).toNat)
    case atStart => exact ⟨0, f, v, es, rfl, by omega, st1, Chg.refl _ _, fun b q => .inl q, hid (by simp [ptl])⟩
    case round =>
      obtain ⟨j, f1, v1, es1, rfl, hj, stj, cj, mj, hd⟩ := hrel
      clear st1
      by_cases hlt : j < m
      · have hI : (j : Int) < m := by omega
        have hI0 : (0 : Int) ≤ j := by omega
        have hne : ∀ b, b2 ≤ b → ¬ omut gO gm f v b := fun b hb q => by have := hge.out b q; omega
        have Ej := hEk.chg cj (fun k hk => hne k (own_ge hEk.own k hk)) (fun e he b off q => hne b (hEk.ap e he b off q).1)
        obtain ⟨e, he⟩ : ∃ e, ek[j]? = some e := ⟨ek[j]'(by rw [← hm.out]; exact hlt), List.getElem?_eq_getElem _⟩
        obtain ⟨g, cg, hvg, hgl, hRe⟩ := Ej.get (by rw [← hm.out]; omega) he
        have hsk : sk = some ⟨g, 0, none⟩ := by injection hvg
        have hmem := List.mem_of_getElem? he
        have hok := Ej.ok e hmem
        have he32 := hok.s32
        have hkb : Hid ((KBs ps os).take (j + 1) = (KBs ps os).take j ++ [e.bs]) := hid (by
          rw [List.take_add_one, ← hbs.out, List.getElem?_map, he]; rfl)
        have hes : Hid (e.sm = shl e.bs) := hid (hsm.out e hmem)
        have hlen1 : es1.length < 1000000000 := by
          have q1 := congrArg List.length hd.out
          have q2 := ptl_len (dats es) ((KBs ps os).take j)
          have q3 : ((KBs ps os).take j).length ≤ 128 := Nat.le_trans (List.length_take_le' _ _) hKL
          rw [dats_len] at q1 q2; omega
        have AE := Arr.new wr 71 e.arr
        have hbE := alloc_bel' wr (.cells e.arr 71)
        have OE := OrX.bel stj.o hbE
        have hsW := stj.c.size
        have hsW1 := cj.size
        have hap : ∀ b off, e.sp = some ⟨b, off, none⟩ → ¬ omut gO gm f1 v1 b := fun b off q q' => by
          have a1 := hEk.ap e hmem b off q
          rcases mj b q' with q' | q'
          · exact hne b a1.1 q'
          · omega
        have hput := hid (oput_any base gO gm f1 v1 es1 e _ _ OE (hok.below hbE) (fun _ => hap) (by simp; omega) hlen1)
        subst hsk
        clear he hmem hok hap OE Ej hvg hne
        go_wp2_with (first
          | (refine ld54 (by rfl) _ (by rfl) g (j * 33) (by rfl) e he32 hRe ?_)
          | (refine st54n (by rfl) _ _ (by rfl) wr wr.heap.size rfl (by rfl) e (by rfl) (by rfl) he32 ?_)
          | (refine ld54 (by rfl) _ (by rfl) wr.heap.size 0 (by rfl) e he32 (rangeE AE) ?_)
          | (go_at_call 27; go_must (refine hput.out.mono ?_; rintro r w2 hp; obtain ⟨rfl, f2, v2, es2, st2, hd2⟩ := hp.st)))
        go_roundw
        case rel =>
          have st3 := (OSt.bel stj.o hbE).trans st2
          refine ⟨j + 1, f2, v2, es2, by go_num, by omega, stj.trans st3, cj.trans' st3.c (fun i hi q => (mj i q).resolve_right (by omega)), fun b q => ?_, hid (by rw [hd2, hkb.out, ptl_snoc, hd.out, ← hes.out])⟩
          rcases st3.m b q with q | q
          · exact mj b q
          · exact .inr (by omega)
        case measure => simp [intOf]; omega
      · obtain rfl : j = m := by omega
        have hI : ¬ (j : Int) < j := by omega
        have hfin : Hid (dats es1 = ptl (dats es) (KBs ps os)) := hid (by rw [hd.out, List.take_of_length_le (by rw [← hkl.out]; omega)])
        go_wp2_with fail
        go_ret
        exact ⟨rfl, f1, v1, es1, stj, hfin.out⟩
  · have hkb := hid hkb
    go_enter Try.func10, Try.ntmps10
    go_wp2_with (first
      | (refine ld30 (by rfl) _ (by rfl) w.heap.size 38 (by rfl) ps sp n cap h1 h2 A0 ?_)
      | (go_at_call 25; go_must (refine (isThere_any gO gm _ c0).mono ?_; rintro e w2 ⟨rfl, h22⟩; replace h22 := h22.symm; subst h22))
      | (go_at_call 29; go_must (refine hK.out.mono ?_; rintro r w1 hp; obtain ⟨b2, ax, vk, ek, hb2, rfl, hEk, -, -, hb1⟩ := hxx.out _ _ hp; obtain ⟨sk, ck, rfl⟩ := hEk.sl)))
    go_ret
    exact ⟨rfl, f, v, es, OSt.bel hO (B0.trans (hb1.mono (by omega))), by rw [hkb.out]; rfl⟩
end Go.Proofs.Ytbfelelngoonjaa
