/- Layer collide: the walk of CollideLogs. -/
import Derived.Test.YtgjnbpimldjkpaaLf
import Derived.Test.YtgjnbpimldjkpaaLi
namespace Go.Proofs.Ytgjnbpimldjkpaa
open Go.RowKit
set_option linter.unusedVariables false
set_option linter.unusedSimpArgs false

theorem sums_of {es ks : List En} (h1 : ks.map En.sm = es.map En.sm) (h2 : ks.map En.bs = es.map En.bs) (h : ∀ e ∈ es, e.sm = shl e.bs) : ∀ f ∈ ks, f.sm = shl f.bs := fun f hf => by
  obtain ⟨i, hi, rfl⟩ := List.mem_iff_getElem.1 hf
  have hie : i < es.length := by
    have := congrArg List.length h1
    simp at this; omega
  have h1 : (ks.map En.sm)[i]? = (es.map En.sm)[i]? := by rw [h1]
  have h2 : (ks.map En.bs)[i]? = (es.map En.bs)[i]? := by rw [h2]
  simp [hi, hie] at h1 h2
  rw [h1, h2]
  exact h _ (List.getElem_mem _)
theorem chg_below {N : Nat} {S : Nat → Prop} {a b : World} (h : Chg S a b) (hN : N ≤ a.heap.size) (hS : ∀ i, i < N → ¬ S i) : Below N a b := h.below (fun i hi => ⟨by omega, hS i hi⟩)
set_option maxRecDepth 100000 in
set_option maxHeartbeats 4000000 in
theorem logs_walk (sa : Option Addr) (na ca : Nat) (als : List En) (w : World) (hL : BL w.heap.size w sa na ca als) (hna : na ≤ 1000000000) :
    Calls Try.prog 6 #[.slice sa na ca] w fun e w' => e = .returned (.bool true) ∧ Below w.heap.size w w' := by
  have hlas := hL.len
  have hsmall : Hid (∀ L ∈ als.map En.bs, L.length ≤ 1000000000) := Hid.mk' (fun L hm => by
    obtain ⟨e, he, rfl⟩ := List.mem_map.1 hm
    have := (hL.ok e he).2; have := (hL.ok e he).1.len.out; omega)
  have LW0 : LW w.heap.size (w.alloc (.cells #[.bool true, .slice none 0 0] 75)) (.slice none 0 0) (.slice none 0 0) [] [] :=
    ⟨Arr.new w 75 _, EO.nil _ _ _, EO.nil _ _ _, (fun k hk => by simp [Value.ownBlock] at hk), (fun e he => by cases he), (fun e he => by cases he)⟩
  have B0 := alloc_bel' w (.cells #[.bool true, .slice none 0 0] 75)
  go_enter Try.func6, Try.ntmps6
  go_upto_region 5 with (go_at_call 19; go_must (refine (new_any w).mono ?_; rintro e w2 ⟨rfl, h22⟩; replace h22 := h22.symm; subst h22))
  go_loopw [5, 6] (fun uu q wr => ∃ (j : Nat) (v u : Value) (es us : List En), u = uu ∧ q = .int .i64 (j : Int) ∧ j ≤ na ∧ LW w.heap.size wr v u es us ∧ es.length = j ∧ us.length = j ∧ Hid (es.map En.bs = (als.take j).map En.bs) ∧ Hid (us.map En.bs = (als.take j).map En.bs) ∧ Hid (∀ e ∈ es, e.sm = shl e.bs) ∧ Hid (∀ e ∈ us, e.sm = shl e.bs) ∧ Below w.heap.size w wr) (fun _ q _ => na - (intOf q).toNat)
  case atStart => exact ⟨0, _, _, [], [], rfl, rfl, by omega, LW0, rfl, rfl, Hid.mk' rfl, Hid.mk' rfl, Hid.mk' (fun e he => by cases he), Hid.mk' (fun e he => by cases he), B0⟩
  case round =>
    obtain ⟨j, v, u, es, us, rfl, rfl, hj, LWr, hes, hus, hbe, hbu, hse, hsu, BLr⟩ := hrel
    clear LW0 B0
    by_cases hlt : j < na
    · have hI : (j : Int) < na := by omega
      obtain ⟨g, off, rfl, hgN, hR⟩ := hL.at0 (by omega)
      obtain ⟨e, he⟩ : ∃ e, als[j]? = some e := ⟨als[j]'(by rw [← hlas.out]; exact hlt), List.getElem?_eq_getElem _⟩
      have hcw := hR j e he
      obtain ⟨hBe, hen⟩ := hL.ok e (List.mem_of_getElem? he)
      replace he := Hid.mk' he
      have hBt := hBe.bts
      have hns := hBe.small
      have he32 := shl_len e.bs
      have hne24 := run_neq24l he32 he32
      have hglr := LWr.A.lt
      have c7 := (World.cell?_of_block (w := w) (a := ⟨g, off + j, none⟩) (BLr.block g hgN)).trans hcw
      go_upto_region 8 with (go_at_call 20; go_must (refine (copy01_any e.sp e.n e.cap e.bs _ wr (hBe.below BLr)).mono ?_; rintro r w1 ⟨vc, rfl, hown1, hb1⟩; have hob1 := hown1; obtain ⟨sp1, cp1, rfl, hB1, hg1⟩ := own_bs hown1 hBt hns))
      clear c7
      have hlt1 : ∀ b off, sp1 = some ⟨b, off, none⟩ → b < w1.heap.size := fun b off e => own_lt hob1 (by rw [e]; rfl)
      have hof : ∀ b off, sp1 = some ⟨b, off, none⟩ → Off w.heap.size v u es us b := fun b off e => LWr.off (hg1 b off e).1
      have hs1 := hb1.size
      have BL1 : Below w.heap.size w w1.drew := (BLr.trans (hb1.mono BLr.size)).trans ((Below.refl _ _).drew)
      have LW1 : LW w.heap.size w1.drew v u es us := (LWr.below hb1).below ((Below.refl _ _).drew)
      replace hB1 : BS w1.heap.size w1.drew sp1 e.n cp1 e.bs := hB1.below ((Below.refl _ _).drew)
      replace hown1 : w1.drew.ownsRow wr.heap.size 5 1 (.slice sp1 e.n cp1) e.n (by8 e.bs) := own_same hob1 (fun k _ => rfl)
      clear hob1
      refine wp_region_held_drew (S := fun u => Below w.heap.size w u) (by kernel_rfl) BL1 (fun hHeld => ?_)
      refine wpAnyH_take (i := 0) (oi := ⟨_, _, _, _, _, _⟩) (v := ?_) rfl (by kernel_rfl) (by kernel_rfl) (by kernel_rfl) (fun _ _ _ h => h) (Or.inl ⟨by rfl, ?_⟩) (by assumption) ?_
      rotate_left
      · intro u hSw
        go_simp
        try (with_reducible rfl)
      try simp only [Act.put, List.setIfInBounds_toArray, List.set_cons_zero, List.set_cons_succ]
      refine wpAnyH_take (i := 1) (oi := ⟨_, _, _, _, _, _⟩) (v := ?_) rfl (by kernel_rfl) (by kernel_rfl) (by kernel_rfl) (fun _ _ _ h => h) (Or.inl ⟨by rfl, ?_⟩) (by assumption) ?_
      rotate_left
      · intro u hSw
        go_simp
        try (with_reducible rfl)
      try simp only [Act.put, List.setIfInBounds_toArray, List.set_cons_zero, List.set_cons_succ]
      refine wpAnyH_take (i := 3) (oi := ⟨_, _, _, _, _, _⟩) (v := ?_) rfl (by kernel_rfl) (by kernel_rfl) (by kernel_rfl) (fun _ _ _ h => h) (Or.inl ⟨by rfl, ?_⟩) (by assumption) ?_
      rotate_left
      · intro u hSw
        go_simp
        try (with_reducible rfl)
      try simp only [Act.put, List.setIfInBounds_toArray, List.set_cons_zero, List.set_cons_succ]
      refine wpAnyH_take (i := 4) (oi := ⟨_, _, _, _, _, _⟩) (v := ?_) rfl (by kernel_rfl) (by kernel_rfl) (by kernel_rfl) (fun _ _ _ h => h) (Or.inl ⟨by rfl, ?_⟩) (by assumption) ?_
      rotate_left
      · intro u hSw
        go_simp
        try (with_reducible rfl)
      try simp only [Act.put, List.setIfInBounds_toArray, List.set_cons_zero, List.set_cons_succ]
      refine wpAnyH_take (i := 5) (oi := ⟨_, _, _, _, _, _⟩) (v := ?_) rfl (by kernel_rfl) (by kernel_rfl) (by kernel_rfl) (fun _ _ _ h => h) (Or.inl ⟨by rfl, ?_⟩) (by assumption) ?_
      rotate_left
      · intro u hSw
        go_simp
        try (with_reducible rfl)
      try simp only [Act.put, List.setIfInBounds_toArray, List.set_cons_zero, List.set_cons_succ]
      refine wpAnyH_take (i := 6) (oi := ⟨_, _, _, _, _, _⟩) (v := ?_) rfl (by kernel_rfl) (by kernel_rfl) (by kernel_rfl) (fun _ _ _ h => h) (Or.inl ⟨by rfl, ?_⟩) (by assumption) ?_
      rotate_left
      · intro u hSw
        have cc := (World.cell?_of_block (w := w) (a := ⟨g, off + j, none⟩) (hSw.block g hgN)).trans hcw
        go_simp
        try (with_reducible rfl)
      try simp only [Act.put, List.setIfInBounds_toArray, List.set_cons_zero, List.set_cons_succ]
      refine wpAnyH_ready (rs := [2]) (by kernel_rfl) (by simp) ?_
      refine AllReadyH.cons (o := ⟨_, _, _, _, _, _⟩) rfl (fun K hK => ?_) AllReadyH.nil
      go_simp
      refine (logSum_any w.heap.size v es sp1 e.n cp1 e.bs _ w1.drew LW1.A LW1.E (by omega) hB1).mono ?_
      rintro r w2 ⟨rfl, v2, e2, hA2, hE2, hbs2, hsm2, hsp2, hv2, hc2⟩
      have LW2 := LW1.sum hA2 hE2 hsp2 hv2 hc2
      have hd2 : Below w.heap.size w1.drew w2 := hc2.below (fun i hi => ⟨by simp; omega, by rintro (h | h) <;> first | omega | (have := own_ge LW1.E.own _ h; omega)⟩)
      have BL2 := BL1.trans hd2
      have hB2 : BS w1.heap.size w2 sp1 e.n cp1 e.bs := hB1.chg hc2 (fun b off' hb => by rintro (h | h); exact (hof b off' hb).l h.symm; exact (hof b off' hb).v h)
      go_wp2_with fail
      refine hK.out _ _ BL2 (fun hHeld => ?_)
      clear hK K
      try simp only [Act.put, List.setIfInBounds_toArray, List.set_cons_zero, List.set_cons_succ]
      refine wpAnyH_ready (rs := [7]) (by kernel_rfl) (by simp) ?_
      refine AllReadyH.cons (o := ⟨_, _, _, _, _, _⟩) rfl (fun K hK => ?_) AllReadyH.nil
      go_simp
      refine (refSum_l e.sp e.n e.cap e.bs _ w2 (hBe.below BL2)).mono ?_
      rintro r w3 ⟨rfl, hb3⟩
      have BL3 := BL2.trans (hb3.mono BL2.size)
      have LW3 := LW2.below hb3
      have hB3 := hB2.here.below hb3
      go_wp2_with fail
      refine hK.out _ _ BL3 (fun hHeld => ?_)
      clear hK K
      try simp only [Act.put, List.setIfInBounds_toArray, List.set_cons_zero, List.set_cons_succ]
      refine wpAnyH_take (i := 8) (oi := ⟨_, _, _, _, _, _⟩) (v := ?_) rfl (by kernel_rfl) (by kernel_rfl) (by kernel_rfl) (fun _ _ _ h => h) (Or.inl ⟨by rfl, ?_⟩) (by assumption) ?_
      rotate_left
      · intro u hSw
        go_simp
        try (with_reducible rfl)
      try simp only [Act.put, List.setIfInBounds_toArray, List.set_cons_zero, List.set_cons_succ]
      refine wpAnyH_take (i := 9) (oi := ⟨_, _, _, _, _, _⟩) (v := ?_) rfl (by kernel_rfl) (by kernel_rfl) (by kernel_rfl) (fun _ _ _ h => h) (Or.inl ⟨by rfl, ?_⟩) (by assumption) ?_
      rotate_left
      · intro u hSw
        go_simp
        try (with_reducible rfl)
      try simp only [Act.put, List.setIfInBounds_toArray, List.set_cons_zero, List.set_cons_succ]
      refine wpAnyH_take (i := 10) (oi := ⟨_, _, _, _, _, _⟩) (v := ?_) rfl (by kernel_rfl) (by kernel_rfl) (by kernel_rfl) (fun _ _ _ h => h) (Or.inl ⟨by rfl, ?_⟩) (by assumption) ?_
      rotate_left
      · intro u hSw
        go_simp
        try (with_reducible rfl)
      try simp only [Act.put, List.setIfInBounds_toArray, List.set_cons_zero, List.set_cons_succ]
      refine wpAnyH_take (i := 11) (oi := ⟨_, _, _, _, _, _⟩) (v := ?_) rfl (by kernel_rfl) (by kernel_rfl) (by kernel_rfl) (fun _ _ _ h => h) (Or.inl ⟨by rfl, ?_⟩) (by assumption) ?_
      rotate_left
      · intro u hSw
        go_simp
        try (with_reducible rfl)
      try simp only [Act.put, List.setIfInBounds_toArray, List.set_cons_zero, List.set_cons_succ]
      refine wpAnyH_take (i := 13) (oi := ⟨_, _, _, _, _, _⟩) (v := ?_) rfl (by kernel_rfl) (by kernel_rfl) (by kernel_rfl) (fun _ _ _ h => h) (Or.inl ⟨by rfl, ?_⟩) (by assumption) ?_
      rotate_left
      · intro u hSw
        go_simp
        try (with_reducible rfl)
      try simp only [Act.put, List.setIfInBounds_toArray, List.set_cons_zero, List.set_cons_succ]
      refine wpAnyH_take (i := 14) (oi := ⟨_, _, _, _, _, _⟩) (v := ?_) rfl (by kernel_rfl) (by kernel_rfl) (by kernel_rfl) (fun _ _ _ h => h) (Or.inl ⟨by rfl, ?_⟩) (by assumption) ?_
      rotate_left
      · intro u hSw
        go_simp
        try (with_reducible rfl)
      try simp only [Act.put, List.setIfInBounds_toArray, List.set_cons_zero, List.set_cons_succ]
      refine wpAnyH_take (i := 15) (oi := ⟨_, _, _, _, _, _⟩) (v := ?_) rfl (by kernel_rfl) (by kernel_rfl) (by kernel_rfl) (fun _ _ _ h => h) (Or.inl ⟨by rfl, ?_⟩) (by assumption) ?_
      rotate_left
      · intro u hSw
        go_simp
        try (with_reducible rfl)
      try simp only [Act.put, List.setIfInBounds_toArray, List.set_cons_zero, List.set_cons_succ]
      refine wpAnyH_take (i := 16) (oi := ⟨_, _, _, _, _, _⟩) (v := ?_) rfl (by kernel_rfl) (by kernel_rfl) (by kernel_rfl) (fun _ _ _ h => h) (Or.inl ⟨by rfl, ?_⟩) (by assumption) ?_
      rotate_left
      · intro u hSw
        have cc := (World.cell?_of_block (w := w) (a := ⟨g, off + j, none⟩) (hSw.block g hgN)).trans hcw
        go_simp
        try (with_reducible rfl)
      try simp only [Act.put, List.setIfInBounds_toArray, List.set_cons_zero, List.set_cons_succ]
      refine wpAnyH_ready (rs := [12]) (by kernel_rfl) (by simp) ?_
      refine AllReadyH.cons (o := ⟨_, _, _, _, _, _⟩) rfl (fun K hK => ?_) AllReadyH.nil
      go_simp
      refine (logSum_nil sp1 e.n cp1 e.bs _ w3 hB3).mono ?_
      rintro r w4 ⟨rfl, hb4⟩
      have BL4 := BL3.trans (hb4.mono BL3.size)
      have LW4 := LW3.below hb4
      go_wp2_with fail
      refine hK.out _ _ BL4 (fun hHeld => ?_)
      clear hK K
      try simp only [Act.put, List.setIfInBounds_toArray, List.set_cons_zero, List.set_cons_succ]
      refine wpAnyH_ready (rs := [17]) (by kernel_rfl) (by simp) ?_
      refine AllReadyH.cons (o := ⟨_, _, _, _, _, _⟩) rfl (fun K hK => ?_) AllReadyH.nil
      go_simp
      refine (refSum_l e.sp e.n e.cap e.bs _ w4 (hBe.below BL4)).mono ?_
      rintro r w5 ⟨rfl, hb5⟩
      have BL5 := BL4.trans (hb5.mono BL4.size)
      have LW5 := LW4.below hb5
      go_wp2_with fail
      refine hK.out _ _ BL5 (fun hHeld => ?_)
      clear hK K
      try simp only [Act.put, List.setIfInBounds_toArray, List.set_cons_zero, List.set_cons_succ]
      refine wpAnyH_take (i := 18) (oi := ⟨_, _, _, _, _, _⟩) (v := ?_) rfl (by kernel_rfl) (by kernel_rfl) (by kernel_rfl) (fun _ _ _ h => h) (Or.inl ⟨by rfl, ?_⟩) (by assumption) ?_
      rotate_left
      · intro u hSw
        go_simp
        try (with_reducible rfl)
      try simp only [Act.put, List.setIfInBounds_toArray, List.set_cons_zero, List.set_cons_succ]
      refine wpAnyH_take (i := 19) (oi := ⟨_, _, _, _, _, _⟩) (v := ?_) rfl (by kernel_rfl) (by kernel_rfl) (by kernel_rfl) (fun _ _ _ h => h) (Or.inl ⟨by rfl, ?_⟩) (by assumption) ?_
      rotate_left
      · intro u hSw
        go_simp
        try (with_reducible rfl)
      try simp only [Act.put, List.setIfInBounds_toArray, List.set_cons_zero, List.set_cons_succ]
      refine wpAnyH_done (by kernel_rfl) ?_ _
      have hown5 : w5.ownsRow wr.heap.size 5 1 (.slice sp1 e.n cp1) e.n (by8 e.bs) := own_same hown1 (fun k hk => by
        have hk1 := own_lt hown1 hk
        obtain ⟨off', hoff⟩ := ow_ne (e := ⟨sp1, e.n, cp1, e.bs, []⟩) hk hown1
        have h2 := hc2.size
        have h3 := hb3.size
        have h4 := hb4.size
        rw [hb5.block k (by omega), hb4.block k (by omega), hb3.block k (by omega)]
        exact hc2.block k hk1 (by rintro (h | h); exact (hof k off' hoff).l h.symm; exact (hof k off' hoff).v h))
      have hsp5 : SpOK wr.heap.size none w5 ⟨sp1, e.n, cp1, e.bs, []⟩ := OW.spok (e := ⟨sp1, e.n, cp1, e.bs, []⟩) hown5 (fun _ _ _ h => by cases h) hen
      have hN5 : wr.heap.size ≤ w5.heap.size := by
        have h2 := hc2.size
        have h3 := hb3.size
        have h4 := hb4.size
        have h5 := hb5.size
        simp at h2
        omega
      have hof2 : ∀ b, sp1 = some ⟨b, 0, none⟩ → Off w.heap.size v2 u (es ++ [e2]) us b := fun b e => (hof b 0 e).sum (w := w1.drew) (by have := hlt1 b 0 e; simpa using this) hsp2 hv2
      clear LW4 LW3 LW2 LW1 BL1 BL2 BL3 BL4 hB1 hB2 hB3 hA2 hE2 hown1 hown5 hHeld
      go_upto_region 11 with (go_at_call 22; go_must (refine (spoil_en wr.heap.size none ⟨sp1, e.n, cp1, e.bs, []⟩ 7 (by omega) w5 hsp5 hN5).mono ?_; rintro r w6 ⟨rfl, hc6, hb6, -, -⟩))
      have LW6 := LW5.spoil hc6 (fun g h => hof2 g h)
      have BL6 := BL5.trans (hb6.mono BLr.size)
      have LW6d : LW w.heap.size w6.drew v2 u (es ++ [e2]) us := LW6.below ((Below.refl _ _).drew)
      have BL6d : Below w.heap.size w w6.drew := BL6.trans ((Below.refl _ _).drew)
      clear hof2 hof hlt1 hg1 hc6 hb6 hsp5 hN5 LW5 BL5 hsp2 hv2 hc2 hb5 hb4 hb3 hb1
      refine wp_region_held_drew (S := fun u => Below w.heap.size w u) (by kernel_rfl) BL6d (fun hHeld => ?_)
      refine wpAnyH_take (i := 0) (oi := ⟨_, _, _, _, _, _⟩) (v := ?_) rfl (by kernel_rfl) (by kernel_rfl) (by kernel_rfl) (fun _ _ _ h => h) (Or.inl ⟨by rfl, ?_⟩) (by assumption) ?_
      rotate_left
      · intro u hSw
        go_simp
        try (with_reducible rfl)
      try simp only [Act.put, List.setIfInBounds_toArray, List.set_cons_zero, List.set_cons_succ]
      refine wpAnyH_take (i := 1) (oi := ⟨_, _, _, _, _, _⟩) (v := ?_) rfl (by kernel_rfl) (by kernel_rfl) (by kernel_rfl) (fun _ _ _ h => h) (Or.inl ⟨by rfl, ?_⟩) (by assumption) ?_
      rotate_left
      · intro u hSw
        go_simp
        try (with_reducible rfl)
      try simp only [Act.put, List.setIfInBounds_toArray, List.set_cons_zero, List.set_cons_succ]
      refine wpAnyH_take (i := 2) (oi := ⟨_, _, _, _, _, _⟩) (v := ?_) rfl (by kernel_rfl) (by kernel_rfl) (by kernel_rfl) (fun _ _ _ h => h) (Or.inl ⟨by rfl, ?_⟩) (by assumption) ?_
      rotate_left
      · intro u hSw
        go_simp
        try (with_reducible rfl)
      try simp only [Act.put, List.setIfInBounds_toArray, List.set_cons_zero, List.set_cons_succ]
      refine wpAnyH_take (i := 3) (oi := ⟨_, _, _, _, _, _⟩) (v := ?_) rfl (by kernel_rfl) (by kernel_rfl) (by kernel_rfl) (fun _ _ _ h => h) (Or.inl ⟨by rfl, ?_⟩) (by assumption) ?_
      rotate_left
      · intro u hSw
        go_simp
        try (with_reducible rfl)
      try simp only [Act.put, List.setIfInBounds_toArray, List.set_cons_zero, List.set_cons_succ]
      refine wpAnyH_take (i := 4) (oi := ⟨_, _, _, _, _, _⟩) (v := ?_) rfl (by kernel_rfl) (by kernel_rfl) (by kernel_rfl) (fun _ _ _ h => h) (Or.inl ⟨by rfl, ?_⟩) (by assumption) ?_
      rotate_left
      · intro u hSw
        have cc := (World.cell?_of_block (w := w) (a := ⟨g, off + j, none⟩) (hSw.block g hgN)).trans hcw
        go_simp
        try (with_reducible rfl)
      try simp only [Act.put, List.setIfInBounds_toArray, List.set_cons_zero, List.set_cons_succ]
      refine wpAnyH_take (i := 6) (oi := ⟨_, _, _, _, _, _⟩) (v := ?_) rfl (by kernel_rfl) (by kernel_rfl) (by kernel_rfl) (fun _ _ _ h => h) (Or.inl ⟨by rfl, ?_⟩) (by assumption) ?_
      rotate_left
      · intro u hSw
        go_simp
        try (with_reducible rfl)
      try simp only [Act.put, List.setIfInBounds_toArray, List.set_cons_zero, List.set_cons_succ]
      refine wpAnyH_take (i := 7) (oi := ⟨_, _, _, _, _, _⟩) (v := ?_) rfl (by kernel_rfl) (by kernel_rfl) (by kernel_rfl) (fun _ _ _ h => h) (Or.inl ⟨by rfl, ?_⟩) (by assumption) ?_
      rotate_left
      · intro u hSw
        go_simp
        try (with_reducible rfl)
      try simp only [Act.put, List.setIfInBounds_toArray, List.set_cons_zero, List.set_cons_succ]
      refine wpAnyH_take (i := 8) (oi := ⟨_, _, _, _, _, _⟩) (v := ?_) rfl (by kernel_rfl) (by kernel_rfl) (by kernel_rfl) (fun _ _ _ h => h) (Or.inl ⟨by rfl, ?_⟩) (by assumption) ?_
      rotate_left
      · intro u hSw
        go_simp
        try (with_reducible rfl)
      try simp only [Act.put, List.setIfInBounds_toArray, List.set_cons_zero, List.set_cons_succ]
      refine wpAnyH_take (i := 9) (oi := ⟨_, _, _, _, _, _⟩) (v := ?_) rfl (by kernel_rfl) (by kernel_rfl) (by kernel_rfl) (fun _ _ _ h => h) (Or.inl ⟨by rfl, ?_⟩) (by assumption) ?_
      rotate_left
      · intro u hSw
        have cc := (World.cell?_of_block (w := w) (a := ⟨g, off + j, none⟩) (hSw.block g hgN)).trans hcw
        go_simp
        try (with_reducible rfl)
      try simp only [Act.put, List.setIfInBounds_toArray, List.set_cons_zero, List.set_cons_succ]
      refine wpAnyH_ready (rs := [5]) (by kernel_rfl) (by simp) ?_
      refine AllReadyH.cons (o := ⟨_, _, _, _, _, _⟩) rfl (fun K hK => ?_) AllReadyH.nil
      go_simp
      refine (copy01_any e.sp e.n e.cap e.bs _ w6.drew (hBe.below BL6d)).mono ?_
      rintro r w7 ⟨vb, rfl, hown7, hb7⟩
      have hob := hown7
      obtain ⟨sp7, cp7, rfl, hB7, hg7⟩ := own_bs hown7 hBt hns
      have hlt7 : ∀ b off, sp7 = some ⟨b, off, none⟩ → b < w7.heap.size := fun b off e => own_lt hob (by rw [e]; rfl)
      clear hown7 hob
      have BL7 := BL6d.trans (hb7.mono BL6d.size)
      have LW7 := LW6d.below hb7
      go_wp2_with fail
      refine hK.out _ _ BL7 (fun hHeld => ?_)
      clear hK K
      try simp only [Act.put, List.setIfInBounds_toArray, List.set_cons_zero, List.set_cons_succ]
      refine wpAnyH_ready (rs := [10]) (by kernel_rfl) (by simp) ?_
      refine AllReadyH.cons (o := ⟨_, _, _, _, _, _⟩) rfl (fun K hK => ?_) AllReadyH.nil
      go_simp
      refine (refSum_l e.sp e.n e.cap e.bs _ w7 (hBe.below BL7)).mono ?_
      rintro r w8 ⟨rfl, hb8⟩
      have BL8 := BL7.trans (hb8.mono BL7.size)
      have LW8 := LW7.below hb8
      have hB8 := hB7.below hb8
      have hs7 := hb7.size
      have hs8 := hb8.size
      simp at hs7
      go_wp2_with fail
      refine hK.out _ _ BL8 (fun hHeld => ?_)
      clear hK K
      try simp only [Act.put, List.setIfInBounds_toArray, List.set_cons_zero, List.set_cons_succ]
      refine wpAnyH_take (i := 11) (oi := ⟨_, _, _, _, _, _⟩) rfl (by kernel_rfl) (by kernel_rfl) (by kernel_rfl) (fun _ _ _ h => h) (y_bd (by rfl) 54 #[(0, .tmp 49), (1, .tmp 54)] rfl (by rfl) (built54 sp7 e.n cp7 (shl e.bs) he32 e.bs)) (by assumption) ?_
      try simp only [Act.put, List.setIfInBounds_toArray, List.set_cons_zero, List.set_cons_succ]
      refine wpAnyH_ready (rs := [12]) (by kernel_rfl) (by simp) ?_
      refine AllReadyH.cons (o := ⟨_, _, _, _, _, _⟩) rfl (fun K hK => ?_) AllReadyH.nil
      refine step_want rfl (wp_bldE (.tmp 55) rfl ⟨sp7, e.n, cp7, e.bs, shl e.bs⟩ rfl he32 ?_)
      have BL9 : Below w.heap.size w (w8.alloc (.cells (En.arr ⟨sp7, e.n, cp7, e.bs, shl e.bs⟩) 54)) := BL8.alloc BL8.size _
      have LW9 := LW8.below (alloc_bel' w8 (.cells (En.arr ⟨sp7, e.n, cp7, e.bs, shl e.bs⟩) 54))
      have A9 := Arr.new w8 54 (En.arr ⟨sp7, e.n, cp7, e.bs, shl e.bs⟩)
      have ok9 : EnOK (w8.alloc (.cells (En.arr ⟨sp7, e.n, cp7, e.bs, shl e.bs⟩) 54)).heap.size (w8.alloc (.cells (En.arr ⟨sp7, e.n, cp7, e.bs, shl e.bs⟩) 54)) ⟨sp7, e.n, cp7, e.bs, shl e.bs⟩ := ⟨((hB8.mono hs8).below (alloc_bel' w8 _)).mono (by simp), he32⟩
      have hs9 : (w8.alloc (.cells (En.arr ⟨sp7, e.n, cp7, e.bs, shl e.bs⟩) 54)).heap.size = w8.heap.size + 1 := by simp
      refine hK.out _ _ BL9 (fun hHeld => ?_)
      clear hK K
      try simp only [Act.put, List.setIfInBounds_toArray, List.set_cons_zero, List.set_cons_succ]
      have hap9 : ∀ b off, sp7 = some ⟨b, off, none⟩ → w.heap.size + 1 ≤ b ∧ b < (w8.alloc (.cells (En.arr ⟨sp7, e.n, cp7, e.bs, shl e.bs⟩) 54)).heap.size ∧ some b ≠ u.ownBlock ∧ b ≠ w.heap.size := fun b off e' => by have h1 := (hg7 b off e').1; have h2 := hlt7 b off e'; have h3 := LW6.A.lt; simp at h1; exact ⟨by omega, by omega, fun e'' => by have := own_lt LW6.U.own e''.symm; omega, by omega⟩
      refine wpAnyH_ready (rs := [13]) (by kernel_rfl) (by simp) ?_
      refine AllReadyH.cons (o := ⟨_, _, _, _, _, _⟩) rfl (fun K hK => ?_) AllReadyH.nil
      refine step_want rfl (wp_appE (.tmp 44) (.tmp 56) rfl (w.heap.size + 1) w.heap.size u us ⟨sp7, e.n, cp7, e.bs, shl e.bs⟩ rfl LW9.U w8.heap.size 1 rfl A9 ok9 hap9 (by omega) (by have := LW6.A.lt; omega) (fun u' w10 hE10 hG10 hl10 => ?_))
      have LW10 := LW9.app hE10 hG10 hl10 (fun b off e' e'' => by have h1 := (hg7 b off e').1; simp at h1; have := own_lt LW6.E.own e''; omega)
      have BL10 := BL9.grown hG10 (by have := LW6.A.lt; omega) (fun k e' => by have := own_ge LW9.U.own k e'; omega)
      refine hK.out _ _ BL10 (fun hHeld => ?_)
      clear hK K
      try simp only [Act.put, List.setIfInBounds_toArray, List.set_cons_zero, List.set_cons_succ]
      refine wpAnyH_take (i := 14) (oi := ⟨_, _, _, _, _, _⟩) (v := ?_) rfl (by kernel_rfl) (by kernel_rfl) (by kernel_rfl) (fun _ _ _ h => h) (Or.inl ⟨by rfl, ?_⟩) (by assumption) ?_
      rotate_left
      · intro u hSw
        go_simp
        try (with_reducible rfl)
      try simp only [Act.put, List.setIfInBounds_toArray, List.set_cons_zero, List.set_cons_succ]
      refine wpAnyH_done (by kernel_rfl) ?_ _
      clear LW9 LW8 LW7 LW6 LW6d BL9 BL8 BL7 BL6 BL6d hHeld hE10 hG10 hl10 hap9 A9 ok9 hB8 hB7 hg7 hlt7
      have hes2 : (es ++ [e2]).length = j + 1 := by simp [hes]
      have hbe2 : Hid ((es ++ [e2]).map En.bs = (als.take (j + 1)).map En.bs) := Hid.mk' (by rw [List.map_append, hbe.out, take_succ' he.out]; simp [hbs2])
      have hse2 : Hid (∀ f ∈ es ++ [e2], f.sm = shl f.bs) := Hid.mk' (fun f hf => by
        rcases List.mem_append.1 hf with h | h
        · exact hse.out f h
        · simp at h; subst h; rw [hsm2, hbs2])
      have hbu2 : Hid ((us ++ [(⟨sp7, e.n, cp7, e.bs, shl e.bs⟩ : En)]).map En.bs = (als.take (j + 1)).map En.bs) := Hid.mk' (by rw [List.map_append, hbu.out, take_succ' he.out]; simp)
      have hsu2 : Hid (∀ f ∈ us ++ [(⟨sp7, e.n, cp7, e.bs, shl e.bs⟩ : En)], f.sm = shl f.bs) := Hid.mk' (fun f hf => by
        rcases List.mem_append.1 hf with h | h
        · exact hsu.out f h
        · simp at h; subst h; rfl)
      have hus2 : (us ++ [(⟨sp7, e.n, cp7, e.bs, shl e.bs⟩ : En)]).length = j + 1 := by simp [hus]
      generalize us ++ [(⟨sp7, e.n, cp7, e.bs, shl e.bs⟩ : En)] = us2 at *
      generalize es ++ [e2] = es2 at *
      clear hbe hbu hse hsu hbs2 hsm2 LWr
      go_upto_region 14 with (go_at_call 23; go_must (refine (list_any w.heap.size v2 es2 w10 LW10.A LW10.E (by omega)).mono ?_; rintro r w11 ⟨vt, ks, rfl, hEt, hbk, -, hOW, hb11⟩; have hkl : ks.length = j + 1 := by { rw [← hes2, ← List.length_map (f := En.bs), hbk, List.length_map] }; obtain ⟨st, ct, rfl, hSt⟩ := hEt.es (by omega); rw [hkl] at hSt hEt))
      have hsp11 : Hid (∀ f ∈ ks, SpOK w10.heap.size (Value.slice st (j + 1) ct).ownBlock w11 f) := Hid.mk' (fun f hf => OW.spok (hOW f hf) (fun b off hb h => (hEt.ap f hf b off hb).2.2.1 h.symm) (by
        have h1 : f.bs ∈ als.map En.bs := by
          have h2 : f.bs ∈ ks.map En.bs := List.mem_map_of_mem hf
          rw [hbk, hbe2.out] at h2
          obtain ⟨x, hx, hxe⟩ := List.mem_map.1 h2
          rw [← hxe]
          exact List.mem_map_of_mem (List.mem_of_mem_take hx)
        have h3 := hsmall.out _ h1
        have h4 := (hEt.ok f hf).body.len.out
        omega))
      replace hbk := Hid.mk' hbk
      replace hOW := Hid.mk' hOW
      obtain ⟨gt, ot, rfl, hgt, hRt⟩ := hSt.at0 (by omega)
      replace hkl := Hid.mk' hkl
      go_loopw [9] (fun q wr => ∃ (m : Nat), q = .int .i64 (m : Int) ∧ m ≤ j + 1 ∧ Below w10.heap.size w10 wr ∧ gt < wr.heap.size ∧ wr.heap[gt]? = w11.heap[gt]? ∧ Hid (∀ f ∈ ks, SpOK w10.heap.size (some gt) wr f)) (fun q _ => j + 1 - (intOf q).toNat)
      case atStart => exact ⟨0, rfl, by omega, hb11, hgt, rfl, hsp11⟩
      case round =>
        obtain ⟨m, rfl, hm, hbx, hgx, hblk, hspx⟩ := hrel
        by_cases hmt : m < j + 1
        · have hI2 : (m : Int) < (j : Int) + 1 := by omega
          obtain ⟨f, hf⟩ : ∃ f, ks[m]? = some f := ⟨ks[m]'(by rw [hkl.out]; exact hmt), List.getElem?_eq_getElem _⟩
          have cf := (World.cell?_of_block (w := w11) (a := ⟨gt, ot + m * 33, none⟩) hblk).trans (range_c0 (hRt m f hf))
          have hfx := hspx.out f (List.mem_of_getElem? hf)
          go_wp2_with (go_at_call 22; go_must (refine (spoil_en w10.heap.size (some gt) f 9 (by omega) wr hfx hbx.size).mono ?_; rintro r w12 ⟨rfl, -, hb12, hx12, hsp12⟩))
          go_roundw
          case rel => exact ⟨m + 1, by go_num, by omega, hbx.trans hb12, by have := hb12.size; omega, (hx12 gt rfl hgx).trans hblk, Hid.mk' (fun f' hf' => hsp12 f' (hspx.out f' hf'))⟩
          case measure => simp [intOf]; omega
        · obtain rfl : m = j + 1 := by omega
          have hI2 : ¬ (((j + 1 : Nat) : Int) < (j : Int) + 1) := by omega
          go_wp2_with fail
          go_roundw
          case rel => exact ⟨j + 1, v2, _, es2, us2, rfl, by go_num, by omega, LW10.below hbx, hes2, hus2, hbe2, hbu2, hse2, hsu2, BL10.trans (hbx.mono BL10.size)⟩
          case measure => simp [intOf]; omega
    · obtain rfl : j = na := by omega
      have hI : ¬ (j : Int) < j := by omega
      have hlist := Hid.mk' (fun (x : World) (h : Below wr.heap.size wr x) => list_any w.heap.size v es x (LWr.below h).A (LWr.below h).E (by omega))
      obtain ⟨su, cu, rfl, hSu⟩ := LWr.U.es (by omega)
      rw [hus] at hSu
      clear hL hsmall
      rw [hus]
      go_wp2_with (first
        | (go_at_call 9; go_must (refine (anchored_any wr).mono ?_; rintro r w20 ⟨rfl, hb20⟩))
        | (go_at_call 23; have hz := hlist; clear hlist; go_must (refine (hz.out w20 hb20).mono ?_; clear hz; rintro r w21 ⟨vt, ks, rfl, hEt, hbk, hsk, -, hb21⟩; have hkl : ks.length = j := by { rw [← hes, ← List.length_map (f := En.bs), hbk, List.length_map] }; obtain ⟨st, ct, rfl, hSt⟩ := hEt.es (by omega); rw [hkl] at hSt; have hsame := Hid.mk' (same5_l _ _ st su j ct cu ks us w21 hSt ((hSu.below hb20).here.below hb21) (by rw [hbk, hbe.out, hbu.out]) (sums_of hsk hbk hse.out) hsu.out); rw [hkl]; clear hkl))
        | (go_at_call 14; go_must (refine hsame.out.mono ?_; rintro r w22 ⟨rfl, hb22⟩))
        | (go_at_call 23; go_must (refine (list_nil w22).mono ?_; rintro r w23 ⟨rfl, h23⟩; replace h23 := h23.symm; subst h23)))
      go_ret
      have h20 := hb20.size
      have h21 := hb21.size
      exact ⟨rfl, BLr.trans ((hb20.trans ((hb21.mono h20).trans (hb22.mono (by omega)))).mono BLr.size)⟩
end Go.Proofs.Ytgjnbpimldjkpaa
