/- V9, V10. -/
import Derived.Test.YtbfelelngoonjaaX39
import Derived.Test.YtbfelelngoonjaaX09
import Derived.Test.YtbfelelngoonjaaX38
/- Layer oracle: the document's put and Add. -/
namespace Go.Proofs.Ytbfelelngoonjaa
open Go.RowKit
set_option maxRecDepth 100000
set_option linter.unusedVariables false
set_option linter.unusedSimpArgs false


/-- From one stand of the document's oracle to another. -/
structure RSt (base gt : Nat) (u : Value) (us : List En) (w : World) (u' : Value) (us' : List En) (w' : World) : Prop where
  o : Rfo base gt w' u' us'
  c : Chg (rmut gt u) w w'
  m : ∀ b, rmut gt u' b → rmut gt u b ∨ w.heap.size ≤ b
  i : ∀ b, oimm us' b → oimm us b ∨ w.heap.size ≤ b
theorem RSt.bel {base gt : Nat} {w w' : World} {u : Value} {us : List En} (h : Rfo base gt w u us) (hb : Below w.heap.size w w') : RSt base gt u us w u us w' :=
  ⟨h.bel hb, Chg.of_below hb, fun _ q => .inl q, fun _ q => .inl q⟩
theorem RSt.trans {base gt : Nat} {w w1 w2 : World} {u u1 u2 : Value} {us us1 us2 : List En} (h : RSt base gt u us w u1 us1 w1) (k : RSt base gt u1 us1 w1 u2 us2 w2) : RSt base gt u us w u2 us2 w2 := by
  have hs := h.c.size
  refine ⟨k.o, h.c.trans' k.c (fun i hi q => (h.m i q).resolve_right (by omega)), fun b q => ?_, fun b q => ?_⟩
  · rcases k.m b q with q | q
    · exact h.m b q
    · exact .inr (by omega)
  · rcases k.i b q with q | q
    · exact h.i b q
    · exact .inr (by omega)
theorem RSt.far {base gt : Nat} {w w1 w2 : World} {u u1 : Value} {us us1 : List En} {S : Nat → Prop} (h : RSt base gt u us w u1 us1 w1) (hc : Chg S w1 w2) (hS : ∀ b, S b → w.heap.size ≤ b ∧ ¬ rmut gt u1 b ∧ ¬ oimm us1 b) : RSt base gt u us w u1 us1 w2 :=
  ⟨h.o.chg hc (fun b q q' => q.elim (hS b q').2.1 (hS b q').2.2), h.c.trans' hc (fun i hi q => absurd (hS i q).1 (by omega)), h.m, h.i⟩
theorem RSt.ne {base gt : Nat} {w w1 : World} {u u1 : Value} {us us1 : List En} (h : RSt base gt u us w u1 us1 w1) {b : Nat} (hb : b < w.heap.size) (h1 : ¬ rmut gt u b) (h2 : ¬ oimm us b) : ¬ rmut gt u1 b ∧ ¬ oimm us1 b :=
  ⟨fun q => (h.m b q).elim h1 (by omega), fun q => (h.i b q).elim h2 (by omega)⟩
theorem RSt.off {base gt : Nat} {w : World} {u : Value} {us : List En} (h : Rfo base gt w u us) {b : Nat} (hb : w.heap.size ≤ b) : ¬ rmut gt u b ∧ ¬ oimm us b :=
  ⟨fun q => by have := h.mut_lt (.inl q); omega, fun q => by have := h.mut_lt (.inr q); omega⟩
theorem RSt.behind {base gt : Nat} {w w2 w3 w4 : World} {u u' : Value} {us : List En} {e' : En} (h : Rfo base gt w u us) (hb2 : Below w.heap.size w w2) (hfr : ∀ b off, e'.sp = some ⟨b, off, none⟩ → w.heap.size ≤ b)
    (hE : EO base gt w3 u' (us ++ [e'])) (hg : w2.grownBy w3 u.ownBlock) (hl : u'.ownBlock = u.ownBlock ∨ u'.ownBlock = some w2.heap.size) (h4 : w4 = w3.setCell ⟨gt, 0, none⟩ u') (hA : Arr w4 gt 28 #[u']) : RSt base gt u us w u' (us ++ [e']) w4 := by
  have hs2 := hb2.size
  have hs3 := hg.size
  have hlt := h.lt
  have c3 : Chg (rmut gt u) w w3 := (Chg.of_below hb2).grown hg (fun k hk q => Or.inr q)
  have c4 : Chg (rmut gt u) w w4 := by rw [h4]; exact c3.setCell u' (fun _ => .inl rfl)
  have Gs := gb_setCell (World.grownBy.refl w3 (some gt)) 0 u'
  have hvg : u'.ownBlock ≠ some gt := fun q => by have := own_ge hE.own _ q; omega
  refine ⟨⟨hA, by rw [h4]; exact hE.grown Gs hvg, h.lt⟩, c4, ?_, ?_⟩
  · rintro b (q | q)
    · exact .inl (.inl q)
    · rcases hl with hl | hl
      · exact .inl (.inr (hl.symm.trans q))
      · right; have := Option.some.inj (hl.symm.trans q); omega
  · rintro b ⟨x, hx, off, hs⟩
    rcases List.mem_append.1 hx with hx | hx
    · exact .inl ⟨x, hx, off, hs⟩
    · simp at hx; subst hx
      exact .inr (hfr b off hs)
set_option maxHeartbeats 4000000 in
theorem rput_any (base gt : Nat) (u : Value) (us : List En) (k : List Int) (sp : Option Addr) (n cap : Nat) (L : List Int) (N : Nat) (w : World) (hR : Rfo base gt w u us) (hk : k.length = 32) (hB : BS N w sp n cap L) (hbase : base ≤ w.heap.size) (hlen : us.length < 1000000000) :
    Calls Try.prog 28 #[.pointer (some ⟨gt, 0, none⟩), .agg (h8 k), .slice sp n cap] w fun r w' => r = .returned (.tuple #[]) ∧ ∃ u' us', RSt base gt u us w u' us' w' ∧ dats us' = pt (dats us) L k := by
  have B0 := alloc_bel' w (.cells (h8 k) 32)
  have A0 := Arr.new w 32 (h8 k)
  have HS := hid (rhas_any base gt u us k sp n cap L _ _ (hR.bel B0) hk (hB.here.below B0) (by omega))
  by_cases hin : (L, k) ∈ dats us
  · rw [decide_eq_true hin] at HS
    have hpt : Hid (pt (dats us) L k = dats us) := hid (if_pos hin)
    replace hR := hid hR
    go_enter Try.func28, Try.ntmps28
    go_wp2_with (first
      | (refine ld24 (by rfl) _ (by rfl) w.heap.size 0 (by rfl) k hk A0.range ?_)
      | (go_at_call 52; go_must (refine HS.out.mono ?_; rintro r w1 ⟨⟨z, rfl, hz⟩, hb1⟩; simp only [Bool.not_true] at hz)))
    go_end0
    exact ⟨rfl, u, us, RSt.bel hR.out (B0.trans (hb1.mono (by simp))), hpt.out.symm⟩
  · rw [decide_eq_false hin] at HS
    have hpt : Hid (pt (dats us) L k = dats us ++ [(L, k)]) := hid (if_neg hin)
    obtain ⟨sv, cv, rfl⟩ := hR.U.sl
    obtain ⟨ne, hne⟩ : ∃ ne, ne = us.length := ⟨_, rfl⟩
    have hvl : ∀ b, (Value.slice sv ne cv).ownBlock = some b → b < w.heap.size := fun b hb => own_lt hR.U.own (by rw [← hne]; exact hb)
    have hBt := hB.bts
    have hns := hB.small
    rw [← hne] at hR ⊢
    have hlt := hR.lt
    have hgw := hR.A.lt
    have hB := hB.here
    replace hne := hid hne
    replace hR := hid hR
    go_enter Try.func28, Try.ntmps28
    go_upto_region 2 with (first
      | (refine ld24 (by rfl) _ (by rfl) w.heap.size 0 (by rfl) k hk A0.range ?_)
      | (go_at_call 52; go_must (refine HS.out.mono ?_; rintro r w1 ⟨⟨z, rfl, hz⟩, hb1⟩; simp only [Bool.not_false] at hz)))
    have B1 := B0.trans (hb1.mono (by simp))
    have hs1 := hb1.size
    simp only [World.size_alloc] at hs1
    have R4 := hR.out.bel B1
    have AB4 := A0.below hb1 A0.lt
    have LB := hB.below B1
    clear HS B0 A0
    generalize w1 = W4 at *
    refine rgn (fun u => Arr u w.heap.size 32 (h8 k)) AB4.drew (fun hS => ?_)
    refine tk 0 rfl ?_
    refine tk 1 rfl ?_
    refine tk 2 rfl ?_
    refine tk 3 rfl ?_
    refine tk 5 rfl ?_
    refine tl 7 rfl (y24 (by rfl) (.tmp 4) rfl w.heap.size 0 rfl k hk (fun u hu => hu.range)) ?_
    refine rd2 4 6 rfl rfl (fun K hK => ?_) (fun K hK => ?_)
    · have cc := (R4.A.drew).cell 0; simp at cc
      go_simp
      go_wp2_with fail
      refine ko hK (AB4.drew) (fun hS => ?_)
      clear cc
      refine rd 6 rfl (fun K hK => ?_)
      
      go_simp
      refine (copy01_any sp n cap L _ W4.drew (LB.below ((Below.refl _ _).drew))).mono ?_
      rintro r w5 ⟨vb, rfl, hown5, hb5⟩
      have U5 : Below W4.heap.size W4 w5 := ((Below.refl _ _).drew).trans (hb5.mono (by simp))
      have hs5 := U5.size
      have hob := hown5
      obtain ⟨sp5, cp5, rfl, hB5, hg5⟩ := own_bs hown5 hBt hns
      have hlt5 : ∀ b off, sp5 = some ⟨b, off, none⟩ → b < w5.heap.size := fun b off q => own_lt hob (by rw [q]; rfl)
      have ok5 : EnOK w5.heap.size w5 ⟨sp5, n, cp5, L, k⟩ := ⟨hB5, hk⟩
      go_wp2_with fail
      refine ko hK (AB4.below U5 AB4.lt) (fun hS => ?_)
      refine tl 8 rfl (y_bd (by rfl) 71 #[(0, .tmp 17), (1, .tmp 18)] rfl (by rfl) (built54 sp5 n cp5 k hk L)) ?_
      refine rd 9 rfl (fun K hK => ?_)
      
      refine step_want rfl (wp_bldE (.tmp 19) rfl ⟨sp5, n, cp5, L, k⟩ rfl hk ?_)
      have U6 := U5.alloc U5.size (.cells (En.arr ⟨sp5, n, cp5, L, k⟩) 71)
      have hs6 : (w5.alloc (.cells (En.arr ⟨sp5, n, cp5, L, k⟩) 71)).heap.size = w5.heap.size + 1 := by simp
      have A6 := Arr.new w5 71 (En.arr ⟨sp5, n, cp5, L, k⟩)
      have ok6 : EnOK (w5.alloc (.cells (En.arr ⟨sp5, n, cp5, L, k⟩) 71)).heap.size (w5.alloc (.cells (En.arr ⟨sp5, n, cp5, L, k⟩) 71)) ⟨sp5, n, cp5, L, k⟩ := (ok5.below (alloc_bel' w5 _)).mono (by simp)
      have R6 := R4.bel U6
      have E6 := R6.U
      have AG6 := R6.A
      refine ko hK (AB4.below U6 AB4.lt) (fun hS => ?_)
      
      have hfr : ∀ b off, sp5 = some ⟨b, off, none⟩ → W4.heap.size ≤ b ∧ b < w5.heap.size := fun b off q => ⟨by have := (hg5 b off q).1; simpa using this, hlt5 b off q⟩
      refine rd 10 rfl (fun K hK => ?_)
      refine step_want rfl (wp_appE (.tmp 15) (.tmp 20) rfl base gt _ us ⟨sp5, n, cp5, L, k⟩ rfl E6 w5.heap.size 1 rfl A6 ok6 (fun b off q => by have h1 := hfr b off q; exact ⟨by omega, by omega, fun q' => by have := own_lt R4.U.own q'.symm; omega, by omega⟩) (by omega) (by omega) (fun v7 w7 hE7 hG7 hl7 => ?_))
      obtain ⟨sq7, mq7, cq7, hv7e⟩ := hE7.slice
      obtain ⟨v7', hv7d⟩ : ∃ u, u = v7 := ⟨_, rfl⟩
      subst hv7d
      subst hv7e
      have hs7 := hG7.size
      have AG7 := AG6.grown hG7 (fun q => by have := own_ge E6.own _ q.symm; omega)
      refine ko hK ((AB4.below U6 AB4.lt).grown hG7 (fun q => by have := hvl _ q.symm; omega)) (fun hS => ?_)
      refine tk 11 rfl ?_
      refine tk 12 rfl ?_
      refine rd 13 rfl (fun K hK => ?_)
      have cc := AG7.cell 0; have fc := AG7.frozen 0; simp at cc
      go_simp
      go_wp2_with fail
      have AG8 := AG7.set 0 (.slice sq7 mq7 cq7)
      have AB8 := ((AB4.below U6 AB4.lt).grown hG7 (fun q => by have := hvl _ q.symm; omega)).setOther (a := ⟨gt, 0, none⟩) (.slice sq7 mq7 cq7) (by show w.heap.size ≠ gt; omega)
      have st8 := RSt.behind R4 (e' := ⟨sp5, n, cp5, L, k⟩) U6 (fun b off q => (hfr b off q).1) hE7 hG7 hl7 rfl (by simpa using AG8)
      generalize w7.setCell ⟨gt, 0, none⟩ (.slice sq7 mq7 cq7) = W8 at *
      refine ko hK AB8 (fun hS => ?_)
      refine dn ?_
      clear cc fc
      go_wp2_with fail
      go_end0
      exact ⟨rfl, _, _, (RSt.bel hR.out B1).trans st8, by rw [dats_app, hpt.out]; rfl⟩
    · go_simp
      refine (copy01_any sp n cap L _ W4.drew (LB.below ((Below.refl _ _).drew))).mono ?_
      rintro r w5 ⟨vb, rfl, hown5, hb5⟩
      have U5 : Below W4.heap.size W4 w5 := ((Below.refl _ _).drew).trans (hb5.mono (by simp))
      have hs5 := U5.size
      have hob := hown5
      obtain ⟨sp5, cp5, rfl, hB5, hg5⟩ := own_bs hown5 hBt hns
      have hlt5 : ∀ b off, sp5 = some ⟨b, off, none⟩ → b < w5.heap.size := fun b off q => own_lt hob (by rw [q]; rfl)
      have ok5 : EnOK w5.heap.size w5 ⟨sp5, n, cp5, L, k⟩ := ⟨hB5, hk⟩
      go_wp2_with fail
      refine ko hK (AB4.below U5 AB4.lt) (fun hS => ?_)
      refine tl 8 rfl (y_bd (by rfl) 71 #[(0, .tmp 17), (1, .tmp 18)] rfl (by rfl) (built54 sp5 n cp5 k hk L)) ?_
      refine rd2 4 9 rfl rfl (fun K hK => ?_) (fun K hK => ?_)
      · have cc := (R4.A.below U5 R4.A.lt).cell 0; simp at cc
        go_simp
        go_wp2_with fail
        refine ko hK (AB4.below U5 AB4.lt) (fun hS => ?_)
        clear cc
        refine rd 9 rfl (fun K hK => ?_)
        
        refine step_want rfl (wp_bldE (.tmp 19) rfl ⟨sp5, n, cp5, L, k⟩ rfl hk ?_)
        have U6 := U5.alloc U5.size (.cells (En.arr ⟨sp5, n, cp5, L, k⟩) 71)
        have hs6 : (w5.alloc (.cells (En.arr ⟨sp5, n, cp5, L, k⟩) 71)).heap.size = w5.heap.size + 1 := by simp
        have A6 := Arr.new w5 71 (En.arr ⟨sp5, n, cp5, L, k⟩)
        have ok6 : EnOK (w5.alloc (.cells (En.arr ⟨sp5, n, cp5, L, k⟩) 71)).heap.size (w5.alloc (.cells (En.arr ⟨sp5, n, cp5, L, k⟩) 71)) ⟨sp5, n, cp5, L, k⟩ := (ok5.below (alloc_bel' w5 _)).mono (by simp)
        have R6 := R4.bel U6
        have E6 := R6.U
        have AG6 := R6.A
        refine ko hK (AB4.below U6 AB4.lt) (fun hS => ?_)
        
        have hfr : ∀ b off, sp5 = some ⟨b, off, none⟩ → W4.heap.size ≤ b ∧ b < w5.heap.size := fun b off q => ⟨by have := (hg5 b off q).1; simpa using this, hlt5 b off q⟩
        refine rd 10 rfl (fun K hK => ?_)
        refine step_want rfl (wp_appE (.tmp 15) (.tmp 20) rfl base gt _ us ⟨sp5, n, cp5, L, k⟩ rfl E6 w5.heap.size 1 rfl A6 ok6 (fun b off q => by have h1 := hfr b off q; exact ⟨by omega, by omega, fun q' => by have := own_lt R4.U.own q'.symm; omega, by omega⟩) (by omega) (by omega) (fun v7 w7 hE7 hG7 hl7 => ?_))
        obtain ⟨sq7, mq7, cq7, hv7e⟩ := hE7.slice
        obtain ⟨v7', hv7d⟩ : ∃ u, u = v7 := ⟨_, rfl⟩
        subst hv7d
        subst hv7e
        have hs7 := hG7.size
        have AG7 := AG6.grown hG7 (fun q => by have := own_ge E6.own _ q.symm; omega)
        refine ko hK ((AB4.below U6 AB4.lt).grown hG7 (fun q => by have := hvl _ q.symm; omega)) (fun hS => ?_)
        refine tk 11 rfl ?_
        refine tk 12 rfl ?_
        refine rd 13 rfl (fun K hK => ?_)
        have cc := AG7.cell 0; have fc := AG7.frozen 0; simp at cc
        go_simp
        go_wp2_with fail
        have AG8 := AG7.set 0 (.slice sq7 mq7 cq7)
        have AB8 := ((AB4.below U6 AB4.lt).grown hG7 (fun q => by have := hvl _ q.symm; omega)).setOther (a := ⟨gt, 0, none⟩) (.slice sq7 mq7 cq7) (by show w.heap.size ≠ gt; omega)
        have st8 := RSt.behind R4 (e' := ⟨sp5, n, cp5, L, k⟩) U6 (fun b off q => (hfr b off q).1) hE7 hG7 hl7 rfl (by simpa using AG8)
        generalize w7.setCell ⟨gt, 0, none⟩ (.slice sq7 mq7 cq7) = W8 at *
        refine ko hK AB8 (fun hS => ?_)
        refine dn ?_
        clear cc fc
        go_wp2_with fail
        go_end0
        exact ⟨rfl, _, _, (RSt.bel hR.out B1).trans st8, by rw [dats_app, hpt.out]; rfl⟩
      · refine step_want rfl (wp_bldE (.tmp 19) rfl ⟨sp5, n, cp5, L, k⟩ rfl hk ?_)
        have U6 := U5.alloc U5.size (.cells (En.arr ⟨sp5, n, cp5, L, k⟩) 71)
        have hs6 : (w5.alloc (.cells (En.arr ⟨sp5, n, cp5, L, k⟩) 71)).heap.size = w5.heap.size + 1 := by simp
        have A6 := Arr.new w5 71 (En.arr ⟨sp5, n, cp5, L, k⟩)
        have ok6 : EnOK (w5.alloc (.cells (En.arr ⟨sp5, n, cp5, L, k⟩) 71)).heap.size (w5.alloc (.cells (En.arr ⟨sp5, n, cp5, L, k⟩) 71)) ⟨sp5, n, cp5, L, k⟩ := (ok5.below (alloc_bel' w5 _)).mono (by simp)
        have R6 := R4.bel U6
        have E6 := R6.U
        have AG6 := R6.A
        refine ko hK (AB4.below U6 AB4.lt) (fun hS => ?_)
        refine rd 4 rfl (fun K hK => ?_)
        have cc := (AG6).cell 0; simp at cc
        go_simp
        go_wp2_with fail
        refine ko hK (AB4.below U6 AB4.lt) (fun hS => ?_)
        clear cc
        
        have hfr : ∀ b off, sp5 = some ⟨b, off, none⟩ → W4.heap.size ≤ b ∧ b < w5.heap.size := fun b off q => ⟨by have := (hg5 b off q).1; simpa using this, hlt5 b off q⟩
        refine rd 10 rfl (fun K hK => ?_)
        refine step_want rfl (wp_appE (.tmp 15) (.tmp 20) rfl base gt _ us ⟨sp5, n, cp5, L, k⟩ rfl E6 w5.heap.size 1 rfl A6 ok6 (fun b off q => by have h1 := hfr b off q; exact ⟨by omega, by omega, fun q' => by have := own_lt R4.U.own q'.symm; omega, by omega⟩) (by omega) (by omega) (fun v7 w7 hE7 hG7 hl7 => ?_))
        obtain ⟨sq7, mq7, cq7, hv7e⟩ := hE7.slice
        obtain ⟨v7', hv7d⟩ : ∃ u, u = v7 := ⟨_, rfl⟩
        subst hv7d
        subst hv7e
        have hs7 := hG7.size
        have AG7 := AG6.grown hG7 (fun q => by have := own_ge E6.own _ q.symm; omega)
        refine ko hK ((AB4.below U6 AB4.lt).grown hG7 (fun q => by have := hvl _ q.symm; omega)) (fun hS => ?_)
        refine tk 11 rfl ?_
        refine tk 12 rfl ?_
        refine rd 13 rfl (fun K hK => ?_)
        have cc := AG7.cell 0; have fc := AG7.frozen 0; simp at cc
        go_simp
        go_wp2_with fail
        have AG8 := AG7.set 0 (.slice sq7 mq7 cq7)
        have AB8 := ((AB4.below U6 AB4.lt).grown hG7 (fun q => by have := hvl _ q.symm; omega)).setOther (a := ⟨gt, 0, none⟩) (.slice sq7 mq7 cq7) (by show w.heap.size ≠ gt; omega)
        have st8 := RSt.behind R4 (e' := ⟨sp5, n, cp5, L, k⟩) U6 (fun b off q => (hfr b off q).1) hE7 hG7 hl7 rfl (by simpa using AG8)
        generalize w7.setCell ⟨gt, 0, none⟩ (.slice sq7 mq7 cq7) = W8 at *
        refine ko hK AB8 (fun hS => ?_)
        refine dn ?_
        clear cc fc
        go_wp2_with fail
        go_end0
        exact ⟨rfl, _, _, (RSt.bel hR.out B1).trans st8, by rw [dats_app, hpt.out]; rfl⟩

theorem rsum_any (sp : Option Addr) (n cap : Nat) (L : List Int) (N : Nat) (w : World) (hB : BS N w sp n cap L) : Calls Try.prog 13 #[.slice sp n cap] w fun e w' => e = .returned (.agg (h8 (shl L))) ∧ Below w.heap.size w w' := by
  have h := refSum_any sp n cap L w hB.len.out hB.nil hB.sl hB.small
  rw [sha_h8] at h
  exact h
set_option maxHeartbeats 2000000 in
theorem radd_any (base gt : Nat) (u : Value) (us : List En) (sp : Option Addr) (n cap : Nat) (L : List Int) (N : Nat) (w : World) (hR : Rfo base gt w u us) (hB : BS N w sp n cap L) (hbase : base ≤ w.heap.size) (hlen : us.length < 1000000000) :
    Calls Try.prog 9 #[.pointer (some ⟨gt, 0, none⟩), .slice sp n cap] w fun r w' => r = .returned (.agg (h8 (shl L))) ∧ ∃ u' us', RSt base gt u us w u' us' w' ∧ dats us' = pt (dats us) L (shl L) := by
  have hb0 := alloc_bel' w (.cells (h8 Z32) 32)
  have A0 := Arr.new w 32 (h8 Z32)
  obtain ⟨S, hS0⟩ : ∃ S, S = shl L := ⟨_, rfl⟩
  have hS32 : S.length = 32 := by rw [hS0]; exact shl_len _
  have hsu : ∀ (N : Nat) (u : World), BS N u sp n cap L → Calls Try.prog 13 #[.slice sp n cap] u fun e w' => e = .returned (.agg (h8 S)) ∧ Below u.heap.size u w' := fun N u h => by rw [hS0]; exact rsum_any sp n cap L N u h
  rw [← hS0]
  clear hS0
  replace hsu := Hid.mk' hsu
  go_enter Try.func9, Try.ntmps9
  go_upto_region 2 with (first
    | (go_at_call 13; go_must (refine (hsu.out _ _ (hB.here.below hb0)).mono ?_; rintro e w1 ⟨rfl, hb1⟩))
    | (refine st24n (by rfl) _ _ (by rfl) w1 w1.heap.size rfl (by rfl) S (by rfl) (by rfl) hS32 ?_))
  have hs1 := hb1.size
  simp only [World.size_alloc] at hs1
  have hB1 := (hb0.trans (hb1.mono hb0.size)).alloc (by omega) (.cells (h8 S) 32)
  have AS := Arr.new w1 32 (h8 S)
  have AR := (A0.bel hb1).alloc (.cells (h8 S) 32)
  have hsW : (w1.alloc (.cells (h8 S) 32)).heap.size = w1.heap.size + 1 := by simp
  generalize w1.alloc (.cells (h8 S) 32) = W at *
  have hput := hid (rput_any base gt u us S sp n cap L _ W (hR.bel hB1) hS32 (hB.here.below hB1) (by omega) hlen)
  go_wp2_with (first
    | (refine ld24 (by rfl) (.tmp 5) (by rfl) w1.heap.size 0 (by rfl) S hS32 AS.range ?_)
    | (go_at_call 28; go_must (refine hput.out.mono ?_; rintro r w2 ⟨rfl, u2, us2, st2, hd2⟩; have AS2 := AS.chg st2.c (RSt.off hR (by omega)).1; have AR2 := AR.chg st2.c (RSt.off hR (Nat.le_refl _)).1))
    | (refine ld24 (by rfl) (.tmp 5) (by rfl) w1.heap.size 0 (by rfl) S hS32 AS2.range ?_)
    | (refine st24 (by rfl) (.tmp 4) (.tmp 12) (by rfl) w.heap.size S Z32 (by rfl) (by rfl) hS32 Z32_len AR2 ?_))
  refine bodyPost_ret (v := .agg (h8 S)) (res24 Try.results9 rfl hS32 (AR2.setRow _)) rfl ⟨rfl, u2, us2, ?_, hd2⟩
  have Gr := gb_row w2 w.heap.size (h8 S)
  have st := (RSt.bel hR hB1).trans st2
  exact st.far (Chg.of_grown Gr) (fun b q => by cases q; exact ⟨Nat.le_refl _, st2.ne (by omega) (RSt.off hR (Nat.le_refl _)).1 (RSt.off hR (Nat.le_refl _)).2⟩)
end Go.Proofs.Ytbfelelngoonjaa
/- Layer oracle: the document's Get. -/
namespace Go.Proofs.Ytbfelelngoonjaa
open Go.RowKit
set_option maxRecDepth 100000
set_option linter.unusedVariables false
set_option linter.unusedSimpArgs false


theorem gt_none {us : List En} {k : List Int} (h : ∀ (i : Nat) (q : En), us[i]? = some q → q.sm ≠ k) : gt (dats us) k = none := by
  rw [gt_of, Option.map_eq_none_iff, List.find?_eq_none]
  intro x hx
  obtain ⟨i, hi, he⟩ := List.getElem_of_mem hx
  have := h i x (by rw [← he]; exact List.getElem?_eq_getElem hi)
  simpa using this
theorem gt_some {us : List En} {k : List Int} {j : Nat} {q : En} (hq : us[j]? = some q) (hk : q.sm = k) (h : ∀ (i : Nat) (q : En), i < j → us[i]? = some q → q.sm ≠ k) : gt (dats us) k = some q.bs := by
  rw [gt_of]
  have : us.find? (fun e => decide (e.sm = k)) = some q := by
    rw [List.find?_eq_some_iff_getElem]
    refine ⟨by simpa using hk, j, (List.getElem?_eq_some_iff.1 hq).1, (List.getElem?_eq_some_iff.1 hq).2, fun i hi => ?_⟩
    have := h i _ hi (List.getElem?_eq_getElem (by have := (List.getElem?_eq_some_iff.1 hq).1; omega))
    simpa using this
  rw [this]; rfl
set_option maxHeartbeats 2000000 in
theorem rget_any (base gt0 : Nat) (u : Value) (us : List En) (k : List Int) (w : World) (hR : Rfo base gt0 w u us) (hk : k.length = 32) (hlen : us.length ≤ 1000000000) :
    Calls Try.prog 14 #[.pointer (some ⟨gt0, 0, none⟩), .agg (h8 k)] w (GetP (dats us) k w) := by
  have hbT : Hid (∀ (j : Nat) (q : En), us[j]? = some q → q.sm = k → (∀ (i : Nat) (q : En), i < j → us[i]? = some q → q.sm ≠ k) → gt (dats us) k = some q.bs) := hid (fun j q h1 h2 h3 => gt_some h1 h2 h3)
  have hbF : Hid ((∀ (i : Nat) (q : En), us[i]? = some q → q.sm ≠ k) → gt (dats us) k = none) := hid gt_none
  have B0 := alloc_bel' w (.cells (h8 k) 32)
  have A0 := Arr.new w 32 (h8 k)
  have R0 := hR.bel B0
  obtain ⟨sv, cv, rfl⟩ := hR.U.sl
  obtain ⟨m, hm⟩ : ∃ m, m = us.length := ⟨_, rfl⟩
  rw [← hm] at hlen R0
  replace hm := hid hm
  clear hR
  go_enter Try.func14, Try.ntmps14
  go_upto_region 2 with fail
  generalize w.alloc (.cells (h8 k) 32) = W at *
  go_loopw [6] (fun q wr => ∃ j : Nat, q = .int .i64 (j : Int) ∧ j ≤ m ∧ Arr wr w.heap.size 32 (h8 k) ∧ Rfo base gt0 wr (.slice sv m cv) us ∧ Below w.heap.size w wr ∧ Hid (∀ (i : Nat) (q : En), i < j → us[i]? = some q → q.sm ≠ k)) (fun q _ => m - (intOf q).toNat)
  case atStart => exact ⟨0, rfl, by omega, A0, R0, B0, hid (fun i p hi => by omega)⟩
  case round =>
    obtain ⟨j, rfl, hj, A1, R1, B1, hno⟩ := hrel
    clear A0 R0 B0
    have c1 := R1.A.cell 0
    simp at c1
    by_cases hlt : j < m
    · have hI : (j : Int) < m := by omega
      have hI0 : (0 : Int) ≤ j := by omega
      obtain ⟨q, hq⟩ : ∃ q, us[j]? = some q := ⟨us[j]'(by rw [← hm.out]; exact hlt), List.getElem?_eq_getElem _⟩
      obtain ⟨g, cg, hvg, hgl, hRq⟩ := R1.U.get (by rw [← hm.out]; exact hlen) hq
      have hsv : sv = some ⟨g, 0, none⟩ := by injection hvg
      subst hsv
      have hok := R1.U.ok q (List.mem_of_getElem? hq)
      have hq32 := hok.s32
      have hBt := hok.body.bts
      have hns := hok.body.small
      have hT : Hid (q.sm = k → gt (dats us) k = some q.bs) := hid (fun h => hbT.out j q hq h hno.out)
      have hN : Hid (q.sm ≠ k → ∀ (i : Nat) (p : En), i < j + 1 → us[i]? = some p → p.sm ≠ k) := hid (fun h i p hi hp h1 => by
        by_cases hij : i = j
        · subst hij; rw [hq] at hp; cases hp; exact h h1
        · exact hno.out i p (by omega) hp h1)
      clear hq hvg
      by_cases hs : q.sm = k
      · have hd : decide (q.sm = k) = true := decide_eq_true hs
        go_upto_region 4 with fail
        refine rgn (fun u => Arr u w.heap.size 32 (h8 k) ∧ Arr u gt0 28 #[.slice (some ⟨g, 0, none⟩) m cv] ∧ u.rangeAt g (j * 33) q.cells) ⟨A1.drew, R1.A.drew, hRq⟩ (fun hS => ?_)
        refine tk 0 rfl ?_
        refine tk 1 rfl ?_
        refine tk 2 rfl ?_
        refine tl 3 rfl (yL26 (by rfl) (.tmp 18) rfl gt0 0 rfl _ _ _ (fun u hu => by simpa using hu.2.1.cell 0)) ?_
        refine tk 4 rfl ?_
        refine tk 5 rfl ?_
        refine tk 6 rfl ?_
        refine tl 7 rfl (y24 (by rfl) (.tmp 22) rfl g (j * 33 + 1) rfl q.sm hq32 (fun u hu => range_sm hu.2.2)) ?_
        refine tl 8 rfl (y24 (by rfl) (.tmp 3) rfl w.heap.size 0 rfl k hk (fun u hu => hu.1.range)) ?_
        refine tl 9 rfl (yEq (by rfl) (.tmp 23) (.tmp 24) rfl q.sm k rfl rfl hq32 hk _ hd) ?_
        refine dn ?_
        replace A1 := A1.drew
        replace R1 := R1.bel (Below.refl _ _).drew
        replace B1 := B1.drew
        have hRq1 : wr.drew.rangeAt g (j * 33) q.cells := hRq
        have hok1 := hok.below ((Below.refl wr.heap.size wr).drew)
        clear hS hRq hok c1
        generalize wr.drew = U1 at *
        have hg := hid (hT.out hs)
        have c1' : U1.cell? ⟨gt0, 0, none⟩ = some (.slice (some ⟨g, 0, none⟩) m cv) := by have := R1.A.cell 0; simpa using this
        have cb := range_c0 hRq1
        go_wp2_with (go_at_call 33; go_must (refine (copy01_any q.sp q.n q.cap q.bs _ U1 hok1.body).mono ?_; rintro r w4 ⟨vb, rfl, hown4, hb4⟩; obtain ⟨sp4, cp4, rfl, hB4, hg4⟩ := own_bs hown4 hBt hns))
        go_ret2
        exact ⟨sp4, q.n, cp4, q.bs, by rw [hg.out]; rfl, hB4, by rw [hg.out]; rfl, B1.trans (hb4.mono B1.size)⟩
      · have hd : decide (q.sm = k) = false := decide_eq_false hs
        go_upto_region 4 with fail
        refine rgn (fun u => Arr u w.heap.size 32 (h8 k) ∧ Arr u gt0 28 #[.slice (some ⟨g, 0, none⟩) m cv] ∧ u.rangeAt g (j * 33) q.cells) ⟨A1.drew, R1.A.drew, hRq⟩ (fun hS => ?_)
        refine tk 0 rfl ?_
        refine tk 1 rfl ?_
        refine tk 2 rfl ?_
        refine tl 3 rfl (yL26 (by rfl) (.tmp 18) rfl gt0 0 rfl _ _ _ (fun u hu => by simpa using hu.2.1.cell 0)) ?_
        refine tk 4 rfl ?_
        refine tk 5 rfl ?_
        refine tk 6 rfl ?_
        refine tl 7 rfl (y24 (by rfl) (.tmp 22) rfl g (j * 33 + 1) rfl q.sm hq32 (fun u hu => range_sm hu.2.2)) ?_
        refine tl 8 rfl (y24 (by rfl) (.tmp 3) rfl w.heap.size 0 rfl k hk (fun u hu => hu.1.range)) ?_
        refine tl 9 rfl (yEq (by rfl) (.tmp 23) (.tmp 24) rfl q.sm k rfl rfl hq32 hk _ hd) ?_
        refine dn ?_
        replace A1 := A1.drew
        replace R1 := R1.bel (Below.refl _ _).drew
        replace B1 := B1.drew
        have hRq1 : wr.drew.rangeAt g (j * 33) q.cells := hRq
        have hok1 := hok.below ((Below.refl wr.heap.size wr).drew)
        clear hS hRq hok c1
        generalize wr.drew = U1 at *
        have hN2 := hid (hN.out hs)
        go_wp2_with fail
        go_roundw
        case rel => exact ⟨j + 1, by go_num, by omega, A1, R1, B1, hN2⟩
        case measure => simp [intOf]; omega
    · obtain rfl : j = m := by omega
      have hI : ¬ (j : Int) < j := by omega
      have hg := hid (hbF.out (fun i q hq => hno.out i q (by rw [hm.out]; exact (List.getElem?_eq_some_iff.1 hq).1) hq))
      go_wp2_with fail
      go_ret2
      exact ⟨none, 0, 0, [], by rw [hg.out]; rfl, BS.nil0 _ _, by rw [hg.out]; rfl, B1⟩
end Go.Proofs.Ytbfelelngoonjaa
