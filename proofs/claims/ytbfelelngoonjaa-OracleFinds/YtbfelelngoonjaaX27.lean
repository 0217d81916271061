/- V5, V6. -/
import Derived.Test.YtbfelelngoonjaaX26
import Derived.Test.YtbfelelngoonjaaX05
import Derived.Test.YtbfelelngoonjaaX12
/- Layer oracle: put. -/
namespace Go.Proofs.Ytbfelelngoonjaa
open Go.RowKit
set_option maxRecDepth 100000
set_option linter.unusedVariables false
set_option linter.unusedSimpArgs false


/-- What put does. -/
def PutP (base gO gm : Nat) (f : List Int → Value) (v : Value) (es : List En) (e : En) (w : World) (r : Ending) (w' : World) : Prop :=
  r = .returned (.tuple #[]) ∧ ∃ f' v' es', Orc base gO gm w' f' v' es' ∧ dats es' = pt (dats es) e.bs e.sm ∧ Chg (omut gO gm f v) w w' ∧ (∀ b, omut gO gm f' v' b → omut gO gm f v b ∨ w.heap.size ≤ b) ∧ ∀ b, oimm es' b → oimm es b ∨ w.heap.size ≤ b
theorem Chg.trans' {S T : Nat → Prop} {a b c : World} (h : Chg S a b) (k : Chg T b c) (hT : ∀ i, i < a.heap.size → T i → S i) : Chg S a c :=
  ⟨k.os.trans h.os, k.tape.trans h.tape, k.output.trans h.output, Nat.le_trans h.size k.size, fun i hi hs => (k.block i (Nat.lt_of_lt_of_le hi h.size) (fun q => hs (hT i hi q))).trans (h.block i hi hs)⟩
theorem BS.chg0 {N : Nat} {S : Nat → Prop} {w w' : World} {sp : Option Addr} {n cap : Nat} {L : List Int} (h : BS N w sp n cap L) (hc : Chg S w w') (hne : 0 < n → ∀ b off, sp = some ⟨b, off, none⟩ → ¬ S b) : BS N w' sp n cap L :=
  ⟨h.len, h.nil, h.le, h.big, h.small, fun h0 => by
    obtain ⟨b, off, e, hbN, hB⟩ := h.at0 h0
    refine ⟨b, off, e, hbN, fun t ht => ?_⟩
    rw [World.cell?_of_block (w := w) (a := ⟨b, off + t, none⟩) (hc.block b (block_lt_of_cell (hB t ht)) (hne h0 b off e))]
    exact hB t ht, h.bts⟩
theorem dats_app (es : List En) (e : En) : dats (es ++ [e]) = dats es ++ [e.dat] := by simp [dats]
theorem En.sp_lt {w : World} {e : En} (h : EnOK w.heap.size w e) (hn : 0 < e.n) : ∀ b off, e.sp = some ⟨b, off, none⟩ → b < w.heap.size := fun b off q => by
  obtain ⟨b', off', q', hb', -⟩ := h.body.at0 hn
  rw [q] at q'; cases q'; exact hb'
set_option maxHeartbeats 4000000 in
theorem oput_any (base gO gm : Nat) (f : List Int → Value) (v : Value) (es : List En) (e : En) (N : Nat) (w : World) (hO : Orc base gO gm w f v es) (he : EnOK N w e) (hap : 0 < e.n → ∀ b off, e.sp = some ⟨b, off, none⟩ → ¬ omut gO gm f v b) (hbase : base ≤ w.heap.size) (hlen : es.length < 1000000000) :
    Calls Try.prog 27 #[.pointer (some ⟨gO, 0, none⟩), .agg e.arr] w (PutP base gO gm f v es e w) := by
  have he32 := he.s32
  have B0 := alloc_bel' w (.cells e.arr 71)
  have A0 := Arr.new w 71 e.arr
  have O0 := hO.bel B0
  have E0 := he.here.below B0
  have HS := hid (has_any base gO gm f v es e _ _ O0 E0 (by omega))
  have hlt := hO.lt
  by_cases hin : e.dat ∈ dats es
  · rw [decide_eq_true hin] at HS
    have hpt : Hid (pt (dats es) e.bs e.sm = dats es) := hid (if_pos hin)
    go_enter Try.func27, Try.ntmps27
    go_wp2_with (first
      | (refine ld54 (by rfl) _ (by rfl) w.heap.size 0 (by rfl) e he32 (rangeE A0) ?_)
      | (go_at_call 51; go_must (refine HS.out.mono ?_; rintro r w1 ⟨rfl, hb1⟩)))
    go_end0
    have hb := B0.trans (hb1.mono (by simp))
    exact ⟨rfl, f, v, es, hO.bel hb, hpt.out.symm, Chg.of_below hb, fun b q => .inl q, fun b q => .inl q⟩
  · rw [decide_eq_false hin] at HS
    have hpt : Hid (pt (dats es) e.bs e.sm = dats es ++ [(e.bs, e.sm)]) := hid (if_neg hin)
    obtain ⟨sv, cv, rfl, -⟩ := hO.E.es (by omega)
    obtain ⟨ne, hne⟩ : ∃ ne, ne = es.length := ⟨_, rfl⟩
    obtain ⟨sp, cap, hfk, hpn, -, -⟩ := rowI_at (hO.P e.sm)
    obtain ⟨n, hn⟩ : ∃ n, n = (pl es e.sm).length := ⟨_, rfl⟩
    have hpn2 : (pl es e.sm).length ≤ 1000000000 := Nat.le_trans (pl_len _ _) (by omega)
    have hge : ∀ b, (Value.slice sp n cap).ownBlock = some b → base ≤ b := fun b hb => own_ge (hO.P e.sm) b (by rw [hfk, ← hn]; exact hb)
    have hfl : ∀ b, (Value.slice sp n cap).ownBlock = some b → b < w.heap.size := fun b hb => own_lt (hO.P e.sm) (by rw [hfk, ← hn]; exact hb)
    have hvl : ∀ b, (Value.slice sv ne cv).ownBlock = some b → b < w.heap.size := fun b hb => own_lt hO.E.own (by rw [← hne]; exact hb)
    have hE0 := hid he.here
    have hE1 := hid hap
    have hX : Hid (∀ (w2 w3 w4 : World) (v' : Value) (ob ob' : Obj), Chg (fun b => b = gm) w w2 → w2.heap[gm]? = some ob → w3.ownsRow base 3 1 v' (pl es e.sm ++ [ne]).length (ints (pl es e.sm ++ [ne])) → w2.grownBy w3 (Value.slice sp n cap).ownBlock → (v'.ownBlock = (Value.slice sp n cap).ownBlock ∨ v'.ownBlock = some w2.heap.size) → w4 = w3.putObj gm ob' → PM w4 gm (fun j => if j = e.sm then v' else f j) →
        OrX base gO gm w4 (fun j => if j = e.sm then v' else f j) (.slice sv ne cv) es (es ++ [e]) ∧ Chg (omut gO gm f (.slice sv ne cv)) w w4 ∧ ∀ b, omut gO gm (fun j => if j = e.sm then v' else f j) (.slice sv ne cv) b → omut gO gm f (.slice sv ne cv) b ∨ w.heap.size ≤ b) := hid (fun w2 w3 w4 v' ob ob' h1 h2 h3 h4 h5 h6 h7 => by
      rw [hn, ← hfk] at h4 h5
      rw [hne] at h3 ⊢
      exact OrX.place hO he32 h1 h2 h3 h4 h5 h6 h7)
    rw [← hne] at O0 hO hE1 ⊢
    clear hap
    rw [← hn] at hfk
    replace hn := hid hn
    have hgmw := hO.M.lt
    have hgOw := hO.A.lt
    replace hpt := hpt
    replace hne' := hid hne
    clear hne
    go_enter Try.func27, Try.ntmps27
    go_upto_region 2 with (first
      | (refine ld54 (by rfl) _ (by rfl) w.heap.size 0 (by rfl) e he32 (rangeE A0) ?_)
      | (go_at_call 51; go_must (refine HS.out.mono ?_; rintro r w1 ⟨rfl, hb1⟩)))
    have B1 := B0.trans (hb1.mono (by simp))
    have hs1 := hb1.size
    simp only [World.size_alloc] at hs1
    have O1 := hO.bel B1
    have AB1 := A0.below hb1 A0.lt
    have AG1 := O1.A
    obtain ⟨gn, hgn⟩ : ∃ gn, gn = w1.heap.size := ⟨_, rfl⟩
    have hPl : ∀ w2 : World, Chg (fun b => b = gm) w w2 → w2.ownsRow base 3 1 (.slice sp n cap) (pl es e.sm).length (ints (pl es e.sm)) := fun w2 hc => by
      have hp := hO.P e.sm
      rw [hfk, hn.out] at hp
      rw [hn.out]
      exact own_same hp (fun b hb => hc.block b (own_lt hp hb) (fun q => by have := own_ge hp b hb; omega))
    replace hPl := hid hPl
    have hPM := hid (fun (u : World) (h : u.heap[gm]? = w.heap[gm]?) => run_entryP (hO.M.same h) e.sm he32)
    have C1 : Chg (fun b => b = gm) w w1.drew := Chg.of_below B1.drew
    have BU : Below w.heap.size w w1.drew := B1.drew
    clear hO O0 he HS E0 B0 A0 O1
    refine rgn (fun u => Arr u w.heap.size 71 e.arr ∧ Arr u gO 68 #[.map (some gm), .slice sv ne cv]) ⟨AB1.drew, AG1.drew⟩ (fun hS => ?_)
    refine tk 0 rfl ?_
    refine tk 1 rfl ?_
    refine tk 2 rfl ?_
    refine tl 3 rfl (yL66 (by rfl) (.tmp 9) rfl gO 0 rfl (some gm) (fun u hu => by simpa using hu.2.cell 0)) ?_
    refine tk 4 rfl ?_
    refine tl 5 rfl (y24 (by rfl) (.tmp 11) rfl w.heap.size (0 + 1) rfl e.sm he32 (fun u hu => range_sm (rangeE hu.1))) ?_
    refine tk 6 rfl ?_
    refine tk 7 rfl ?_
    refine tk 8 rfl ?_
    refine tl 9 rfl (yL26 (by rfl) (.tmp 16) rfl gO 1 rfl _ _ _ (fun u hu => by simpa using hu.2.cell 1)) ?_
    refine tk 10 rfl ?_
    have hU : w1.drew.heap.size = gn := hgn.symm
    have AB1 := AB1.drew
    have AG1 := AG1.drew
    generalize w1.drew = U at *
    refine rd 11 rfl (fun K hK => ?_)
    refine step_want rfl (wp_bldI (.tmp 18) rfl (ne : Int) rfl ?_)
    have C2 := C1.alloc (.cells #[.int .i64 (ne : Int)] 3)
    have AB2 := AB1.alloc (.cells #[.int .i64 (ne : Int)] 3)
    have AG2 := AG1.alloc (.cells #[.int .i64 (ne : Int)] 3)
    have N2 := Arr.new U 3 #[.int .i64 (ne : Int)]
    rw [hU] at N2 ⊢
    have hs2 : (U.alloc (.cells #[.int .i64 (ne : Int)] 3)).heap.size = gn + 1 := by simp [hU]
    refine ko hK ⟨AB2, AG2⟩ (fun hS => ?_)
    obtain ⟨ob, st, hPE⟩ := hPM.out (U.alloc (.cells #[.int .i64 (ne : Int)] 3)) ((BU.alloc BU.size _).block gm hgmw)
    generalize U.alloc (.cells #[.int .i64 (ne : Int)] 3) = V at *
    refine rd 12 rfl (fun K hK => ?_)
    refine step_want rfl (wp_mapEntry (.tmp 10) (.tmp 12) rfl gm rfl e.sm rfl f _ hfk ob st hPE ?_)
    have hC2 := C2.put ob (fun _ => rfl)
    have hob2 := World.putObj_heap_same (w := V) (r := gm) (o := ob) (by omega)
    have AB2 := AB2.chg ((Chg.refl (fun b => b = gm) V).put ob (fun _ => rfl)) (by omega)
    have AG2 := AG2.chg ((Chg.refl (fun b => b = gm) V).put ob (fun _ => rfl)) (by omega)
    have hN2 := (N2.chg ((Chg.refl (fun b => b = gm) V).put ob (fun _ => rfl)) (by omega)).cell 0
    simp only [List.getElem?_toArray, List.getElem?_cons_zero] at hN2
    have hz2 : (V.putObj gm ob).heap.size = gn + 1 := by simp [hs2]
    have hPE2 := hid hPE.2
    refine ko hK ⟨AB2, AG2⟩ (fun hS => ?_)
    clear hPE hPM C1 AB1 AG1 N2 C2 hs2
    generalize V.putObj gm ob = w2 at *
    have hP2 := hPl.out w2 hC2
    refine tk 13 rfl ?_
    refine tk 15 rfl ?_
    refine rd 14 rfl (fun K hK => ?_)
    refine step_want rfl (wp_appI (.tmp 13) (.tmp 19) rfl base (.slice sp n cap) (pl es e.sm) ne rfl hP2 gn 1 rfl hN2 hpn2 (by omega) (fun v3 w3 hown3 hg3 hl3 => ?_))
    have hs3 := hg3.size
    have hgm3 : w3.heap[gm]? = some ob := (hg3.block gm (by omega) (fun q => by have := hge _ q.symm; omega)).trans hob2
    have AB3 := AB2.grown hg3 (fun q => by have := hfl _ q.symm; omega)
    have AG3 := AG2.grown hg3 (fun q => by have := hge _ q.symm; omega)
    refine ko hK ⟨AB3, AG3⟩ (fun hS => ?_)
    obtain ⟨ob', hst, hM4⟩ := hPE2.out w3 v3 hgm3
    refine rd 16 rfl (fun K hK => ?_)
    refine step_want rfl (wp_entryStore (.tmp 10) (.tmp 22) (.tmp 21) rfl gm rfl st rfl v3 rfl ob' hst ?_)
    have AB4 := (AB3.chg ((Chg.refl (fun b => b = gm) w3).put ob' (fun _ => rfl)) (by omega))
    have AG4 := (AG3.chg ((Chg.refl (fun b => b = gm) w3).put ob' (fun _ => rfl)) (by omega))
    refine ko hK ⟨AB4, AG4⟩ (fun hS => ?_)
    refine dn ?_
    obtain ⟨OX, CX, MX⟩ := hX.out w2 w3 (w3.putObj gm ob') v3 ob ob' hC2 hob2 hown3 hg3 hl3 rfl hM4
    clear hst hM4 hX hown3 hg3 hl3 hgm3 AB3 AG3 AG2 AB2 hob2 hPE2 hP2 hN2 hC2
    have hz4 : w3.heap.size = (w3.putObj gm ob').heap.size := by simp
    rw [hz4] at hs3
    clear hz4
    generalize w3.putObj gm ob' = W4 at *
    go_upto_region 3 with fail
    refine rgn (fun u => Arr u w.heap.size 71 e.arr) AB4.drew (fun hS => ?_)
    refine tk 0 rfl ?_
    refine tk 1 rfl ?_
    refine tk 2 rfl ?_
    refine tk 3 rfl ?_
    refine tl 5 rfl (y54 (by rfl) (.tmp 3) rfl w.heap.size 0 rfl e he32 (fun u hu => rangeE hu)) ?_
    refine rd2 4 6 rfl rfl (fun K hK => ?_) (fun K hK => ?_)
    · have cc := (AG4.drew).cell 1; simp at cc
      go_simp
      go_wp2_with fail
      refine ko hK (AB4.drew) (fun hS => ?_)
      clear cc
      refine rd 6 rfl (fun K hK => ?_)
      go_simp
      have EW : EnOK w.heap.size W4.drew e := ⟨(hE0.out.body.chg0 CX (fun h0 b off q => hE1.out h0 b off q)).below ((Below.refl _ _).drew), he32⟩
      refine (copyOf_any e _ W4.drew EW).mono ?_
      rintro r w5 ⟨sp5, cp5, rfl, ok5, hg5, hb5⟩
      have U5 : Below W4.heap.size W4 w5 := ((Below.refl _ _).drew).trans (hb5.mono (by simp))
      have hs5 := U5.size
      go_wp2_with fail
      refine ko hK (AB4.below U5 AB4.lt) (fun hS => ?_)
      refine rd 7 rfl (fun K hK => ?_)
      refine step_want rfl (wp_bldE (.tmp 29) rfl ⟨sp5, e.n, cp5, e.bs, e.sm⟩ rfl he32 ?_)
      have U6 := U5.alloc U5.size (.cells (En.arr ⟨sp5, e.n, cp5, e.bs, e.sm⟩) 71)
      have hs6 : (w5.alloc (.cells (En.arr ⟨sp5, e.n, cp5, e.bs, e.sm⟩) 71)).heap.size = w5.heap.size + 1 := by simp
      have A6 := Arr.new w5 71 (En.arr ⟨sp5, e.n, cp5, e.bs, e.sm⟩)
      have ok6 : EnOK (w5.alloc (.cells (En.arr ⟨sp5, e.n, cp5, e.bs, e.sm⟩) 71)).heap.size (w5.alloc (.cells (En.arr ⟨sp5, e.n, cp5, e.bs, e.sm⟩) 71)) ⟨sp5, e.n, cp5, e.bs, e.sm⟩ := (ok5.below (alloc_bel' w5 _)).mono (by simp)
      have O6 := OX.bel U6
      have E6 := O6.E
      have AG6 := O6.A
      refine ko hK (AB4.below U6 AB4.lt) (fun hS => ?_)
      have hfr : ∀ b off, sp5 = some ⟨b, off, none⟩ → W4.heap.size ≤ b ∧ b < w5.heap.size := fun b off q => ⟨by have := (hg5 b off q).1; simpa using this, (hg5 b off q).2⟩
      refine rd 8 rfl (fun K hK => ?_)
      refine step_want rfl (wp_appE (.tmp 27) (.tmp 30) rfl base gO _ es ⟨sp5, e.n, cp5, e.bs, e.sm⟩ rfl E6 w5.heap.size 1 rfl A6 ok6 (fun b off q => by have h1 := hfr b off q; exact ⟨by omega, by omega, fun q' => by have := own_lt OX.E.own q'.symm; omega, by omega⟩) (by omega) (by omega) (fun v7 w7 hE7 hG7 hl7 => ?_))
      obtain ⟨sq7, mq7, cq7, hv7e⟩ := hE7.slice
      obtain ⟨v7', hv7d⟩ : ∃ u, u = v7 := ⟨_, rfl⟩
      subst hv7d
      subst hv7e
      have hs7 := hG7.size
      have AG7 := AG6.grown hG7 (fun q => by have := own_ge E6.own _ q.symm; omega)
      refine ko hK ((AB4.below U6 AB4.lt).grown hG7 (fun q => by have := hvl _ q.symm; omega)) (fun hS => ?_)
      refine tk 9 rfl ?_
      refine tk 10 rfl ?_
      refine rd 11 rfl (fun K hK => ?_)
      have cc := AG7.cell 1; have fc := AG7.frozen 1; simp at cc
      go_simp
      go_wp2_with fail
      have AG8 := AG7.set 1 (.slice sq7 mq7 cq7)
      have AB8 := ((AB4.below U6 AB4.lt).grown hG7 (fun q => by have := hvl _ q.symm; omega)).setOther (a := ⟨gO, 1, none⟩) (.slice sq7 mq7 cq7) (by show w.heap.size ≠ gO; omega)
      obtain ⟨R1, R2, R3, R4⟩ := OrX.behind OX (e' := ⟨sp5, e.n, cp5, e.bs, e.sm⟩) rfl U6 (fun b off q => (hfr b off q).1) hE7 hG7 hl7 rfl (by simpa using AG8)
      generalize w7.setCell ⟨gO, 1, none⟩ (.slice sq7 mq7 cq7) = W8 at *
      refine ko hK AB8 (fun hS => ?_)
      refine dn ?_
      clear cc fc
      go_wp2_with fail
      go_end0
      have hsW := CX.size
      refine ⟨rfl, _, _, _, R1, by rw [dats_app, hpt.out]; rfl, CX.trans' R2 (fun i hi q => (MX i q).resolve_right (by omega)), fun b q => ?_, fun b q => ?_⟩
      · rcases R3 b q with q | q
        · exact MX b q
        · exact .inr (by omega)
      · rcases R4 b q with q | q
        · exact .inl q
        · exact .inr (by omega)
    · go_simp
      have EW : EnOK w.heap.size W4.drew e := ⟨(hE0.out.body.chg0 CX (fun h0 b off q => hE1.out h0 b off q)).below ((Below.refl _ _).drew), he32⟩
      refine (copyOf_any e _ W4.drew EW).mono ?_
      rintro r w5 ⟨sp5, cp5, rfl, ok5, hg5, hb5⟩
      have U5 : Below W4.heap.size W4 w5 := ((Below.refl _ _).drew).trans (hb5.mono (by simp))
      have hs5 := U5.size
      go_wp2_with fail
      refine ko hK (AB4.below U5 AB4.lt) (fun hS => ?_)
      refine rd2 4 7 rfl rfl (fun K hK => ?_) (fun K hK => ?_)
      · have cc := (AG4.below U5 AG4.lt).cell 1; simp at cc
        go_simp
        go_wp2_with fail
        refine ko hK (AB4.below U5 AB4.lt) (fun hS => ?_)
        clear cc
        refine rd 7 rfl (fun K hK => ?_)
        refine step_want rfl (wp_bldE (.tmp 29) rfl ⟨sp5, e.n, cp5, e.bs, e.sm⟩ rfl he32 ?_)
        have U6 := U5.alloc U5.size (.cells (En.arr ⟨sp5, e.n, cp5, e.bs, e.sm⟩) 71)
        have hs6 : (w5.alloc (.cells (En.arr ⟨sp5, e.n, cp5, e.bs, e.sm⟩) 71)).heap.size = w5.heap.size + 1 := by simp
        have A6 := Arr.new w5 71 (En.arr ⟨sp5, e.n, cp5, e.bs, e.sm⟩)
        have ok6 : EnOK (w5.alloc (.cells (En.arr ⟨sp5, e.n, cp5, e.bs, e.sm⟩) 71)).heap.size (w5.alloc (.cells (En.arr ⟨sp5, e.n, cp5, e.bs, e.sm⟩) 71)) ⟨sp5, e.n, cp5, e.bs, e.sm⟩ := (ok5.below (alloc_bel' w5 _)).mono (by simp)
        have O6 := OX.bel U6
        have E6 := O6.E
        have AG6 := O6.A
        refine ko hK (AB4.below U6 AB4.lt) (fun hS => ?_)
        have hfr : ∀ b off, sp5 = some ⟨b, off, none⟩ → W4.heap.size ≤ b ∧ b < w5.heap.size := fun b off q => ⟨by have := (hg5 b off q).1; simpa using this, (hg5 b off q).2⟩
        refine rd 8 rfl (fun K hK => ?_)
        refine step_want rfl (wp_appE (.tmp 27) (.tmp 30) rfl base gO _ es ⟨sp5, e.n, cp5, e.bs, e.sm⟩ rfl E6 w5.heap.size 1 rfl A6 ok6 (fun b off q => by have h1 := hfr b off q; exact ⟨by omega, by omega, fun q' => by have := own_lt OX.E.own q'.symm; omega, by omega⟩) (by omega) (by omega) (fun v7 w7 hE7 hG7 hl7 => ?_))
        obtain ⟨sq7, mq7, cq7, hv7e⟩ := hE7.slice
        obtain ⟨v7', hv7d⟩ : ∃ u, u = v7 := ⟨_, rfl⟩
        subst hv7d
        subst hv7e
        have hs7 := hG7.size
        have AG7 := AG6.grown hG7 (fun q => by have := own_ge E6.own _ q.symm; omega)
        refine ko hK ((AB4.below U6 AB4.lt).grown hG7 (fun q => by have := hvl _ q.symm; omega)) (fun hS => ?_)
        refine tk 9 rfl ?_
        refine tk 10 rfl ?_
        refine rd 11 rfl (fun K hK => ?_)
        have cc := AG7.cell 1; have fc := AG7.frozen 1; simp at cc
        go_simp
        go_wp2_with fail
        have AG8 := AG7.set 1 (.slice sq7 mq7 cq7)
        have AB8 := ((AB4.below U6 AB4.lt).grown hG7 (fun q => by have := hvl _ q.symm; omega)).setOther (a := ⟨gO, 1, none⟩) (.slice sq7 mq7 cq7) (by show w.heap.size ≠ gO; omega)
        obtain ⟨R1, R2, R3, R4⟩ := OrX.behind OX (e' := ⟨sp5, e.n, cp5, e.bs, e.sm⟩) rfl U6 (fun b off q => (hfr b off q).1) hE7 hG7 hl7 rfl (by simpa using AG8)
        generalize w7.setCell ⟨gO, 1, none⟩ (.slice sq7 mq7 cq7) = W8 at *
        refine ko hK AB8 (fun hS => ?_)
        refine dn ?_
        clear cc fc
        go_wp2_with fail
        go_end0
        have hsW := CX.size
        refine ⟨rfl, _, _, _, R1, by rw [dats_app, hpt.out]; rfl, CX.trans' R2 (fun i hi q => (MX i q).resolve_right (by omega)), fun b q => ?_, fun b q => ?_⟩
        · rcases R3 b q with q | q
          · exact MX b q
          · exact .inr (by omega)
        · rcases R4 b q with q | q
          · exact .inl q
          · exact .inr (by omega)
      · refine step_want rfl (wp_bldE (.tmp 29) rfl ⟨sp5, e.n, cp5, e.bs, e.sm⟩ rfl he32 ?_)
        have U6 := U5.alloc U5.size (.cells (En.arr ⟨sp5, e.n, cp5, e.bs, e.sm⟩) 71)
        have hs6 : (w5.alloc (.cells (En.arr ⟨sp5, e.n, cp5, e.bs, e.sm⟩) 71)).heap.size = w5.heap.size + 1 := by simp
        have A6 := Arr.new w5 71 (En.arr ⟨sp5, e.n, cp5, e.bs, e.sm⟩)
        have ok6 : EnOK (w5.alloc (.cells (En.arr ⟨sp5, e.n, cp5, e.bs, e.sm⟩) 71)).heap.size (w5.alloc (.cells (En.arr ⟨sp5, e.n, cp5, e.bs, e.sm⟩) 71)) ⟨sp5, e.n, cp5, e.bs, e.sm⟩ := (ok5.below (alloc_bel' w5 _)).mono (by simp)
        have O6 := OX.bel U6
        have E6 := O6.E
        have AG6 := O6.A
        refine ko hK (AB4.below U6 AB4.lt) (fun hS => ?_)
        refine rd 4 rfl (fun K hK => ?_)
        have cc := (AG6).cell 1; simp at cc
        go_simp
        go_wp2_with fail
        refine ko hK (AB4.below U6 AB4.lt) (fun hS => ?_)
        clear cc
        have hfr : ∀ b off, sp5 = some ⟨b, off, none⟩ → W4.heap.size ≤ b ∧ b < w5.heap.size := fun b off q => ⟨by have := (hg5 b off q).1; simpa using this, (hg5 b off q).2⟩
        refine rd 8 rfl (fun K hK => ?_)
        refine step_want rfl (wp_appE (.tmp 27) (.tmp 30) rfl base gO _ es ⟨sp5, e.n, cp5, e.bs, e.sm⟩ rfl E6 w5.heap.size 1 rfl A6 ok6 (fun b off q => by have h1 := hfr b off q; exact ⟨by omega, by omega, fun q' => by have := own_lt OX.E.own q'.symm; omega, by omega⟩) (by omega) (by omega) (fun v7 w7 hE7 hG7 hl7 => ?_))
        obtain ⟨sq7, mq7, cq7, hv7e⟩ := hE7.slice
        obtain ⟨v7', hv7d⟩ : ∃ u, u = v7 := ⟨_, rfl⟩
        subst hv7d
        subst hv7e
        have hs7 := hG7.size
        have AG7 := AG6.grown hG7 (fun q => by have := own_ge E6.own _ q.symm; omega)
        refine ko hK ((AB4.below U6 AB4.lt).grown hG7 (fun q => by have := hvl _ q.symm; omega)) (fun hS => ?_)
        refine tk 9 rfl ?_
        refine tk 10 rfl ?_
        refine rd 11 rfl (fun K hK => ?_)
        have cc := AG7.cell 1; have fc := AG7.frozen 1; simp at cc
        go_simp
        go_wp2_with fail
        have AG8 := AG7.set 1 (.slice sq7 mq7 cq7)
        have AB8 := ((AB4.below U6 AB4.lt).grown hG7 (fun q => by have := hvl _ q.symm; omega)).setOther (a := ⟨gO, 1, none⟩) (.slice sq7 mq7 cq7) (by show w.heap.size ≠ gO; omega)
        obtain ⟨R1, R2, R3, R4⟩ := OrX.behind OX (e' := ⟨sp5, e.n, cp5, e.bs, e.sm⟩) rfl U6 (fun b off q => (hfr b off q).1) hE7 hG7 hl7 rfl (by simpa using AG8)
        generalize w7.setCell ⟨gO, 1, none⟩ (.slice sq7 mq7 cq7) = W8 at *
        refine ko hK AB8 (fun hS => ?_)
        refine dn ?_
        clear cc fc
        go_wp2_with fail
        go_end0
        have hsW := CX.size
        refine ⟨rfl, _, _, _, R1, by rw [dats_app, hpt.out]; rfl, CX.trans' R2 (fun i hi q => (MX i q).resolve_right (by omega)), fun b q => ?_, fun b q => ?_⟩
        · rcases R3 b q with q | q
          · exact MX b q
          · exact .inr (by omega)
        · rcases R4 b q with q | q
          · exact .inl q
          · exact .inr (by omega)
end Go.Proofs.Ytbfelelngoonjaa
/- Layer oracle: Add. -/
namespace Go.Proofs.Ytbfelelngoonjaa
open Go.RowKit
set_option maxRecDepth 100000
set_option linter.unusedVariables false
set_option linter.unusedSimpArgs false


/-- From one stand of an oracle to another. -/
structure OSt (base gO gm : Nat) (f : List Int → Value) (v : Value) (es : List En) (w : World) (f' : List Int → Value) (v' : Value) (es' : List En) (w' : World) : Prop where
  o : Orc base gO gm w' f' v' es'
  c : Chg (omut gO gm f v) w w'
  m : ∀ b, omut gO gm f' v' b → omut gO gm f v b ∨ w.heap.size ≤ b
  i : ∀ b, oimm es' b → oimm es b ∨ w.heap.size ≤ b
theorem PutP.st {base gO gm : Nat} {f : List Int → Value} {v : Value} {es : List En} {e : En} {w w' : World} {r : Ending} (h : PutP base gO gm f v es e w r w') : r = .returned (.tuple #[]) ∧ ∃ f' v' es', OSt base gO gm f v es w f' v' es' w' ∧ dats es' = pt (dats es) e.bs e.sm := by
  obtain ⟨h1, f', v', es', h2, h3, h4, h5, h6⟩ := h
  exact ⟨h1, f', v', es', ⟨h2, h4, h5, h6⟩, h3⟩
theorem OSt.bel {base gO gm : Nat} {w w' : World} {f : List Int → Value} {v : Value} {es : List En} (h : Orc base gO gm w f v es) (hb : Below w.heap.size w w') : OSt base gO gm f v es w f v es w' :=
  ⟨OrX.bel h hb, Chg.of_below hb, fun _ q => .inl q, fun _ q => .inl q⟩
theorem OSt.trans {base gO gm : Nat} {w w1 w2 : World} {f f1 f2 : List Int → Value} {v v1 v2 : Value} {es es1 es2 : List En} (h : OSt base gO gm f v es w f1 v1 es1 w1) (k : OSt base gO gm f1 v1 es1 w1 f2 v2 es2 w2) : OSt base gO gm f v es w f2 v2 es2 w2 := by
  have hs := h.c.size
  refine ⟨k.o, h.c.trans' k.c (fun i hi q => (h.m i q).resolve_right (by omega)), fun b q => ?_, fun b q => ?_⟩
  · rcases k.m b q with q | q
    · exact h.m b q
    · exact .inr (by omega)
  · rcases k.i b q with q | q
    · exact h.i b q
    · exact .inr (by omega)
/-- .. where a block that is none of the oracle's has changed. -/
theorem OSt.far {base gO gm : Nat} {w w1 w2 : World} {f f1 : List Int → Value} {v v1 : Value} {es es1 : List En} {S : Nat → Prop} (h : OSt base gO gm f v es w f1 v1 es1 w1) (hc : Chg S w1 w2) (hS : ∀ b, S b → w.heap.size ≤ b ∧ ¬ omut gO gm f1 v1 b ∧ ¬ oimm es1 b) : OSt base gO gm f v es w f1 v1 es1 w2 :=
  ⟨OrX.chg h.o hc (fun b q q' => q.elim (hS b q').2.1 (hS b q').2.2), h.c.trans' hc (fun i hi q => absurd (hS i q).1 (by omega)), h.m, h.i⟩
theorem OSt.ne {base gO gm : Nat} {w w1 : World} {f f1 : List Int → Value} {v v1 : Value} {es es1 : List En} (h : OSt base gO gm f v es w f1 v1 es1 w1) {b : Nat} (hb : b < w.heap.size) (h1 : ¬ omut gO gm f v b) (h2 : ¬ oimm es b) : ¬ omut gO gm f1 v1 b ∧ ¬ oimm es1 b :=
  ⟨fun q => (h.m b q).elim h1 (by omega), fun q => (h.i b q).elim h2 (by omega)⟩
theorem OSt.off {base gO gm : Nat} {w : World} {f : List Int → Value} {v : Value} {es : List En} (h : Orc base gO gm w f v es) {b : Nat} (hb : w.heap.size ≤ b) : ¬ omut gO gm f v b ∧ ¬ oimm es b :=
  ⟨fun q => by have := OrX.mut_lt h (.inl q); omega, fun q => by have := OrX.mut_lt h (.inr q); omega⟩
set_option maxHeartbeats 2000000 in
theorem oadd_any (base gO gm : Nat) (f : List Int → Value) (v : Value) (es : List En) (sp : Option Addr) (n cap : Nat) (L : List Int) (N : Nat) (w : World) (hO : Orc base gO gm w f v es) (hB : BS N w sp n cap L) (hap : 0 < n → ∀ b off, sp = some ⟨b, off, none⟩ → ¬ omut gO gm f v b) (hbase : base ≤ w.heap.size) (hlen : es.length < 1000000000) :
    Calls Try.prog 8 #[.pointer (some ⟨gO, 0, none⟩), .slice sp n cap] w fun r w' => r = .returned (.tuple #[.agg (h8 (shl L)), .int .i64 0]) ∧ ∃ f' v' es', OSt base gO gm f v es w f' v' es' w' ∧ dats es' = pt (dats es) L (shl L) := by
  have hb0 := alloc_bel' w (.cells (h8 Z32) 32)
  have A0 := Arr.new w 32 (h8 Z32)
  obtain ⟨S, hS0⟩ : ∃ S, S = shl L := ⟨_, rfl⟩
  have hS32 : S.length = 32 := by rw [hS0]; exact shl_len _
  have hsu : ∀ (N : Nat) (u : World), BS N u sp n cap L → Calls Try.prog 26 #[.slice sp n cap] u fun e w' => e = .returned (.agg (h8 S)) ∧ Below u.heap.size u w' := fun N u h => by rw [hS0]; exact sum_h sp n cap L N u h
  rw [← hS0]
  clear hS0
  replace hsu := Hid.mk' hsu
  have O0 := OrX.bel hO hb0
  have c0 := O0.A.cell 0
  simp at c0
  have hlt := hO.A.lt
  have hlt2 := hO.lt
  go_enter Try.func8, Try.ntmps8
  go_upto_region 4 with (first
    | (go_at_call 25; go_must (refine (isThere_any gO gm _ c0).mono ?_; rintro e w2 ⟨rfl, h22⟩; replace h22 := h22.symm; subst h22))
    | (go_at_call 26; go_must (refine (hsu.out _ _ (hB.here.below hb0)).mono ?_; rintro e w1 ⟨rfl, hb1⟩))
    | (refine st24n (by rfl) _ _ (by rfl) w1 w1.heap.size rfl (by rfl) S (by rfl) (by rfl) hS32 ?_))
  have hs1 := hb1.size
  simp only [World.size_alloc] at hs1
  have hB1 := (hb0.trans (hb1.mono hb0.size)).alloc (by omega) (.cells (h8 S) 32)
  have AS := Arr.new w1 32 (h8 S)
  have AR := (A0.bel hb1).alloc (.cells (h8 S) 32)
  have hsW : (w1.alloc (.cells (h8 S) 32)).heap.size = w1.heap.size + 1 := by simp
  generalize w1.alloc (.cells (h8 S) 32) = W at *
  have OW := OrX.bel hO hB1
  have BW := hB.here.below hB1
  have hput := hid (oput_any base gO gm f v es ⟨sp, n, cap, L, S⟩ _ W OW ⟨BW, hS32⟩ hap (by omega) hlen)
  go_wp2_with (first
    | (refine ld24 (by rfl) (.tmp 6) (by rfl) w1.heap.size 0 (by rfl) S hS32 AS.range ?_)
    | (refine bdT (by rfl) 71 _ (by rfl) (by rfl) (built54 sp n cap S hS32 L) ?_)
    | (go_at_call 27; go_must (refine hput.out.mono ?_; rintro r w2 hp; obtain ⟨rfl, f2, v2, es2, st2, hd2⟩ := hp.st; have AS2 := AS.chg st2.c (OSt.off hO (by omega)).1; have AR2 := AR.chg st2.c (OSt.off hO (Nat.le_refl _)).1))
    | (refine ld24 (by rfl) (.tmp 6) (by rfl) w1.heap.size 0 (by rfl) S hS32 AS2.range ?_)
    | (refine st24 (by rfl) (.tmp 4) (.tmp 18) (by rfl) w.heap.size S Z32 (by rfl) (by rfl) hS32 Z32_len AR2 ?_))
  refine bodyPost_ret (v := .tuple #[.agg (h8 S), .int .i64 0]) (resP Try.results8 rfl rfl hS32 (AR2.setRow _)) rfl ⟨rfl, f2, v2, es2, ?_, hd2⟩
  have Gr := gb_row w2 w.heap.size (h8 S)
  have st := (OSt.bel hO hB1).trans st2
  exact st.far (Chg.of_grown Gr) (fun b q => by cases q; exact ⟨Nat.le_refl _, st2.ne (by omega) (OSt.off hO (Nat.le_refl _)).1 (OSt.off hO (Nat.le_refl _)).2⟩)
theorem oadd_nil (sp : Option Addr) (n cap : Nat) (w : World) : Calls Try.prog 8 #[.pointer none, .slice sp n cap] w fun r w' => r = .returned (.tuple #[.agg (h8 Z32), .int .i64 1]) ∧ Below w.heap.size w w' := by
  have hb0 := alloc_bel' w (.cells (h8 Z32) 32)
  have A0 := Arr.new w 32 (h8 Z32)
  go_enter Try.func8, Try.ntmps8
  go_wp2_with (first
    | (go_at_call 25; go_must (refine (isThere_nil _).mono ?_; rintro e w2 ⟨rfl, h22⟩; replace h22 := h22.symm; subst h22))
    | (refine st24n (by rfl) _ _ (by rfl) w w.heap.size rfl (by rfl) Z32 (by rfl) (by rfl) Z32_len ?_))
  exact bodyPost_ret (v := .tuple #[.agg (h8 Z32), .int .i64 1]) (resP Try.results8 rfl rfl Z32_len A0) rfl ⟨rfl, hb0⟩
end Go.Proofs.Ytbfelelngoonjaa
