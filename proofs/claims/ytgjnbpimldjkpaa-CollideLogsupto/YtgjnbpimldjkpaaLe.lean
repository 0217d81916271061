/- Layer collide: a log's List; logs that are not there. -/
import Derived.Test.YtgjnbpimldjkpaaLd
namespace Go.Proofs.Ytgjnbpimldjkpaa
open Go.RowKit
set_option linter.unusedVariables false
set_option linter.unusedSimpArgs false

/-- Its bytes are of its own. -/
def OW (w : World) (base : Nat) (e : En) : Prop := w.ownsRow base 5 1 (.slice e.sp e.n e.cap) e.n (by8 e.bs)
theorem own_base {w : World} {base base' e s n : Nat} {v : Value} {xs : List Value} (h : w.ownsRow base e s v n xs) (hb : base' ≤ base) : w.ownsRow base' e s v n xs := by
  refine ⟨h.1, ?_⟩
  rcases h.2 with hn | ⟨g, cap, cur, rfl, hg, rest⟩
  · exact .inl hn
  · exact .inr ⟨g, cap, cur, rfl, by omega, rest⟩
theorem ow_ne {e : En} {k : Nat} (h : (Value.slice e.sp e.n e.cap).ownBlock = some k) {w : World} {base : Nat} (ho : OW w base e := by assumption) : ∃ off, e.sp = some ⟨k, off, none⟩ := by
  rcases ho.2 with ⟨h', -⟩ | ⟨g, cap, cur, h', -⟩
  · rw [h'] at h; simp [Value.ownBlock] at h
  · have h2 : e.sp = some ⟨g, 0, none⟩ := by cases e; simp at h'; exact h'.1
    rw [h2] at h ⊢
    simp [Value.ownBlock] at h
    exact ⟨0, by rw [h]⟩
/-- What a log's List answers. -/
def LList (gl : Nat) (es : List En) (w : World) (r : Ending) (w' : World) : Prop :=
  ∃ v ks, r = .returned v ∧ EO w.heap.size gl w' v ks ∧ ks.map En.bs = es.map En.bs ∧ ks.map En.sm = es.map En.sm ∧ (∀ f ∈ ks, OW w' w.heap.size f) ∧ Below w.heap.size w w'
set_option maxRecDepth 100000 in
set_option maxHeartbeats 400000 in
theorem logSum_nil (sp : Option Addr) (n cap : Nat) (L : List Int) (N : Nat) (w : World) (hB : BS N w sp n cap L) :
    Calls Try.prog 21 #[.pointer none, .slice sp n cap] w fun e w' => e = .returned (.agg (h8 (shl L))) ∧ Below w.heap.size w w' := by
  have hb0 := alloc_bel' w (.cells (h8 Z32) 29)
  have A0 := Arr.new w 29 (h8 Z32)
  obtain ⟨S, hS0⟩ : ∃ S, S = shl L := ⟨_, rfl⟩
  have hS32 : S.length = 32 := by rw [hS0]; exact shl_len _
  have hsu : ∀ (N : Nat) (u : World), BS N u sp n cap L → Calls Try.prog 27 #[.slice sp n cap] u fun e w' => e = .returned (.agg (h8 S)) ∧ Below u.heap.size u w' := fun N u h => by rw [hS0]; exact sum_h sp n cap L N u h
  rw [← hS0]
  clear hS0
  replace hsu := Hid.mk' hsu
  go_enter Try.func21, Try.ntmps21
  go_upto_region 2 with (first
    | (go_at_call 27; go_must (refine (hsu.out _ _ (hB.here.below hb0)).mono ?_; rintro e w1 ⟨rfl, hb1⟩))
    | (refine st24n (by rfl) _ _ (by rfl) w1 w1.heap.size rfl (by rfl) S (by rfl) (by rfl) hS32 ?_))
  have hs1 := hb1.size
  simp at hs1
  have hB1 := (hb0.trans (hb1.mono hb0.size)).alloc (by omega) (.cells (h8 S) 29)
  have AS := Arr.new w1 29 (h8 S)
  have AR := (A0.bel hb1).alloc (.cells (h8 S) 29)
  generalize w1.alloc (.cells (h8 S) 29) = W at *
  go_wp2_with (first
    | (go_at_call 33; go_must (refine (isThere_nil W).mono ?_; rintro e w2 ⟨rfl, h22⟩; replace h22 := h22.symm; subst h22))
    | (refine ld24 (by rfl) (.tmp 5) (by rfl) w1.heap.size 0 (by rfl) S hS32 AS.range ?_)
    | (refine st24 (by rfl) (.tmp 4) (.tmp 23) (by rfl) w.heap.size S Z32 (by rfl) (by rfl) hS32 Z32_len AR ?_))
  exact bodyPost_ret (v := .agg (h8 S)) (res24 Try.results21 rfl hS32 (AR.setRow _)) rfl ⟨rfl, below_setRow hB1 (Nat.le_refl _) _⟩
set_option maxRecDepth 100000 in
set_option maxHeartbeats 400000 in
theorem list_nil (w : World) : Calls Try.prog 23 #[.pointer none] w fun e w' => e = .returned (.slice none 0 0) ∧ w' = w := by
  go_enter Try.func23, Try.ntmps23
  go_wp2_with (go_at_call 33; go_must (refine (isThere_nil _).mono ?_; rintro e w2 ⟨rfl, h22⟩; replace h22 := h22.symm; subst h22))
  go_ret
  exact ⟨rfl, rfl⟩
set_option maxRecDepth 100000 in
set_option maxHeartbeats 2000000 in
theorem list_any (gl : Nat) (v : Value) (es : List En) (w : World) (hA : Arr w gl 75 #[.bool true, v]) (hE : EO (gl + 1) gl w v es) (hlen : es.length ≤ 1000000000) :
    Calls Try.prog 23 #[.pointer (some ⟨gl, 0, none⟩)] w (LList gl es w) := by
  obtain ⟨i0, hi, hz0, hz1, hz2⟩ := info_parts info54
  have hgl := hA.lt
  obtain ⟨sv, cv, rfl, hS⟩ := hE.es (by omega)
  obtain ⟨n, hn⟩ : ∃ n, n = es.length := ⟨_, rfl⟩
  rw [← hn] at hS hA hlen
  have hln : Hid (n = es.length) := Hid.mk' hn
  clear hn
  have cg := hA.cell 0
  have c1 := hA.cell 1
  simp at cg c1
  go_enter Try.func23, Try.ntmps23
  go_upto_region 5 with (first
    | (go_at_call 33; go_must (refine (isThere_any gl w cg).mono ?_; rintro e w2 ⟨rfl, h22⟩; replace h22 := h22.symm; subst h22))
    | (at_make; go_must (refine wpList_make_own _ (by rfl) (.const (.int .i64 0)) (.tmp 13) 22 (by rfl) w.heap.size 54 i0 (.agg (En.arr ⟨none, 0, 0, [], Z32⟩)) 33 Try.underlying22 hi hz0 hz1 .i64 .i64 _ n (by rfl) (by rfl) (by omega) (by rw [hz2]; omega) (by unfold maxLen; omega) (Nat.le_refl _) ?_; intro w3 hown3 hg3; have c13 := ((hA.grown hg3 (by simp)).cell 1); simp at c13)))
  have hB3 := (Below.refl w.heap.size w).grown hg3 (Nat.le_refl _) (by simp)
  have E3 : EO w.heap.size gl w3 (.slice (some ⟨w.heap.size, 0, none⟩) 0 n) [] := ⟨hown3, (fun e he => by cases he), (fun e he => by cases he)⟩
  clear c13 c1 cg
  go_loopw [3, 20] (fun u q wr => ∃ (j : Nat) (ks : List En), q = .int .i64 (j : Int) ∧ j ≤ n ∧ ks.length = j ∧ Below w.heap.size w wr ∧ EO w.heap.size gl wr u ks ∧ Hid (ks.map En.bs = (es.take j).map En.bs) ∧ Hid (ks.map En.sm = (es.take j).map En.sm) ∧ Hid (∀ f ∈ ks, OW wr w.heap.size f)) (fun _ q _ => n - (intOf q).toNat)
  case atStart => exact ⟨0, [], rfl, by omega, rfl, hB3, E3, Hid.mk' (by simp), Hid.mk' (by simp), Hid.mk' (fun f hf => by cases hf)⟩
  case round =>
    obtain ⟨j, ks, rfl, hj, hkl, hbl, EL0, hbs, hsm, OL0⟩ := hrel
    clear E3 hB3 hg3 hown3
    by_cases hlt : j < n
    · have hI : (j : Int) < n := by omega
      have hSr := hS.below hbl
      obtain ⟨g, off, rfl, hgN, hR⟩ := hSr.at0 (by omega)
      obtain ⟨e, he⟩ : ∃ e, es[j]? = some e := ⟨es[j]'(by rw [← hln.out]; exact hlt), List.getElem?_eq_getElem _⟩
      have hok := hSr.ok e (List.mem_of_getElem? he)
      have he32 := hok.s32
      have hRe := hR j e he
      have hBt := hok.body.bts
      have hns := hok.body.small
      have AE := Arr.new wr 54 e.arr
      have hbE := alloc_bel' wr (.cells e.arr 54)
      have hbW := hbl.alloc hbl.size (.cells e.arr 54)
      have EL := EL0.below hbE
      have OL : Hid (∀ f ∈ ks, OW (wr.alloc (.cells e.arr 54)) w.heap.size f) := Hid.mk' (fun f hf => own_same (OL0.out f hf) (fun k hk => hbE.block k (own_lt (OL0.out f hf) hk)))
      have hsr := hbl.size
      have hsW : (wr.alloc (.cells e.arr 54)).heap.size = wr.heap.size + 1 := by simp
      have BW : BS w.heap.size (wr.alloc (.cells e.arr 54)).drew e.sp e.n e.cap e.bs := hok.body.below ((hbE.drew).mono hbl.size)
      replace he := Hid.mk' he
      go_upto_region 7 with (first
        | (refine ld54 (by rfl) _ (by rfl) g (off + j * 33) (by rfl) e he32 hRe ?_)
        | (refine st54n (by rfl) _ _ (by rfl) wr wr.heap.size rfl (by rfl) e (by rfl) (by rfl) he32 ?_))
      generalize wr.alloc (.cells e.arr 54) = W at *
      refine wp_region_held_drew (S := fun u => Arr u wr.heap.size 54 e.arr) (by kernel_rfl) AE.drew (fun hHeld => ?_)
      refine wpAnyH_take (i := 0) (oi := ⟨_, _, _, _, _, _⟩) (v := ?_) rfl (by kernel_rfl) (by kernel_rfl) (by kernel_rfl) (fun _ _ _ h => h) (Or.inl ⟨by rfl, ?_⟩) (by assumption) ?_
      rotate_left
      · intro u hSw
        go_simp
        try (with_reducible rfl)
      try simp only [Act.put, List.setIfInBounds_toArray, List.set_cons_zero, List.set_cons_succ]
      refine wpAnyH_take (i := 1) (oi := ⟨_, _, _, _, _, _⟩) (v := ?_) rfl (by kernel_rfl) (by kernel_rfl) (by kernel_rfl) (fun _ _ _ h => h) (Or.inl ⟨by rfl, ?_⟩) (by assumption) ?_
      rotate_left
      · intro u hSw
        go_simp
        try (with_reducible rfl)
      try simp only [Act.put, List.setIfInBounds_toArray, List.set_cons_zero, List.set_cons_succ]
      refine wpAnyH_take (i := 2) (oi := ⟨_, _, _, _, _, _⟩) (v := ?_) rfl (by kernel_rfl) (by kernel_rfl) (by kernel_rfl) (fun _ _ _ h => h) (Or.inl ⟨by rfl, ?_⟩) (by assumption) ?_
      rotate_left
      · intro u hSw
        have cc := range_c0 (rangeE hSw)
        go_simp
        try (with_reducible rfl)
      try simp only [Act.put, List.setIfInBounds_toArray, List.set_cons_zero, List.set_cons_succ]
      refine wpAnyH_take (i := 4) (oi := ⟨_, _, _, _, _, _⟩) (v := ?_) rfl (by kernel_rfl) (by kernel_rfl) (by kernel_rfl) (fun _ _ _ h => h) (Or.inl ⟨by rfl, ?_⟩) (by assumption) ?_
      rotate_left
      · intro u hSw
        go_simp
        try (with_reducible rfl)
      try simp only [Act.put, List.setIfInBounds_toArray, List.set_cons_zero, List.set_cons_succ]
      refine wpAnyH_take (i := 5) (oi := ⟨_, _, _, _, _, _⟩) rfl (by kernel_rfl) (by kernel_rfl) (by kernel_rfl) (fun _ _ _ h => h) (y24 (by rfl) (.tmp 28) rfl (wr.heap.size) (0 + 1) rfl e.sm he32 (fun u hu => range_sm (rangeE hu))) (by assumption) ?_
      try simp only [Act.put, List.setIfInBounds_toArray, List.set_cons_zero, List.set_cons_succ]
      refine wpAnyH_ready (rs := [3]) (by kernel_rfl) (by simp) ?_
      refine AllReadyH.cons (o := ⟨_, _, _, _, _, _⟩) rfl (fun K hK => ?_) AllReadyH.nil
      go_simp
      refine (clone_any e.sp e.n e.cap e.bs _ W.drew BW).mono ?_
      rintro r w4 ⟨vb, rfl, hown4, hb4⟩
      have U4 : Below W.heap.size W w4 := ((Below.refl _ _).drew).trans (hb4.mono (by simp))
      have hob := hown4
      obtain ⟨sp4, cp4, rfl, hB4, hg4⟩ := own_bs hown4 hBt hns
      have hlt4 : ∀ b off, sp4 = some ⟨b, off, none⟩ → b < w4.heap.size := fun b off e => own_lt hob (by rw [e]; rfl)
      clear hown4
      have hsm4 := U4.size
      go_wp2_with fail
      refine hK.out _ _ (AE.below U4 AE.lt) (fun hHeld => ?_)
      clear hK K
      try simp only [Act.put, List.setIfInBounds_toArray, List.set_cons_zero, List.set_cons_succ]
      refine wpAnyH_take (i := 6) (oi := ⟨_, _, _, _, _, _⟩) rfl (by kernel_rfl) (by kernel_rfl) (by kernel_rfl) (fun _ _ _ h => h) (y_bd (by rfl) 54 #[(0, .tmp 27), (1, .tmp 29)] rfl (by rfl) (built54 sp4 e.n cp4 e.sm he32 e.bs)) (by assumption) ?_
      try simp only [Act.put, List.setIfInBounds_toArray, List.set_cons_zero, List.set_cons_succ]
      refine wpAnyH_ready (rs := [7]) (by kernel_rfl) (by simp) ?_
      refine AllReadyH.cons (o := ⟨_, _, _, _, _, _⟩) rfl (fun K hK => ?_) AllReadyH.nil
      refine step_want rfl (wp_bldE (.tmp 30) rfl ⟨sp4, e.n, cp4, e.bs, e.sm⟩ rfl he32 ?_)
      have U5 := U4.alloc U4.size (.cells (En.arr ⟨sp4, e.n, cp4, e.bs, e.sm⟩) 54)
      have E5 := EL.below U5
      have A5 := Arr.new w4 54 (En.arr ⟨sp4, e.n, cp4, e.bs, e.sm⟩)
      have ok5 : EnOK (w4.alloc (.cells (En.arr ⟨sp4, e.n, cp4, e.bs, e.sm⟩) 54)).heap.size (w4.alloc (.cells (En.arr ⟨sp4, e.n, cp4, e.bs, e.sm⟩) 54)) ⟨sp4, e.n, cp4, e.bs, e.sm⟩ := ⟨(hB4.below (alloc_bel' w4 _)).mono (by simp), he32⟩
      have AE5 := AE.below U5 AE.lt
      have hs5 : (w4.alloc (.cells (En.arr ⟨sp4, e.n, cp4, e.bs, e.sm⟩) 54)).heap.size = w4.heap.size + 1 := by simp
      have O5 : ∀ f ∈ ks ++ [(⟨sp4, e.n, cp4, e.bs, e.sm⟩ : En)], OW (w4.alloc (.cells (En.arr ⟨sp4, e.n, cp4, e.bs, e.sm⟩) 54)) w.heap.size f := fun f hf => by
        rcases List.mem_append.1 hf with h | h
        · exact own_same (OL.out f h) (fun k hk => U5.block k (own_lt (OL.out f h) hk))
        · simp at h; subst h; exact own_base (own_same hob (fun k hk => Below.heap_alloc _ _ _ (own_lt hob hk))) (by simp; omega)
      refine hK.out _ _ AE5 (fun hHeld => ?_)
      clear hK K
      try simp only [Act.put, List.setIfInBounds_toArray, List.set_cons_zero, List.set_cons_succ]
      have hap5 : ∀ b off, sp4 = some ⟨b, off, none⟩ → w.heap.size ≤ b ∧ b < (w4.alloc (.cells (En.arr ⟨sp4, e.n, cp4, e.bs, e.sm⟩) 54)).heap.size ∧ some b ≠ _ ∧ b ≠ gl := fun b off e' => by have h1 := (hg4 b off e').1; have h2 := hlt4 b off e'; simp at h1; exact ⟨by omega, by omega, fun e'' => by have := own_lt EL.own e''.symm; omega, by omega⟩
      refine wpAnyH_ready (rs := [8]) (by kernel_rfl) (by simp) ?_
      refine AllReadyH.cons (o := ⟨_, _, _, _, _, _⟩) rfl (fun K hK => ?_) AllReadyH.nil
      refine step_want rfl (wp_appE (.tmp 24) (.tmp 31) rfl w.heap.size gl _ ks ⟨sp4, e.n, cp4, e.bs, e.sm⟩ rfl E5 w4.heap.size 1 rfl A5 ok5 hap5 (by omega) (by omega) (fun v' w6 hE6 hG6 hl6 => ?_))
      have hs6 := hG6.size
      have AE6 := AE5.grown hG6 (fun e' => by have := own_lt EL0.own e'.symm; omega)
      have O6 : Hid (∀ f ∈ ks ++ [(⟨sp4, e.n, cp4, e.bs, e.sm⟩ : En)], OW w6 w.heap.size f) := Hid.mk' (fun f hf => own_same (O5 f hf) (fun k hk => hG6.block k (own_lt (O5 f hf) hk) (fun e' => by
        have hne := ow_ne hk (O5 f hf)
        rcases List.mem_append.1 hf with h | h
        · obtain ⟨off, hoff⟩ := hne; exact absurd e' (E5.ap f h k off hoff).2.2.1
        · simp at h; subst h; obtain ⟨off, hoff⟩ := hne; exact absurd e' (hap5 k off hoff).2.2.1)))
      have B6 := (hbW.trans (U5.mono (by omega))).grown hG6 (by omega) (fun k e' => own_ge EL0.own k e')
      refine hK.out _ _ AE6 (fun hHeld => ?_)
      clear hK K
      try simp only [Act.put, List.setIfInBounds_toArray, List.set_cons_zero, List.set_cons_succ]
      refine wpAnyH_take (i := 9) (oi := ⟨_, _, _, _, _, _⟩) (v := ?_) rfl (by kernel_rfl) (by kernel_rfl) (by kernel_rfl) (fun _ _ _ h => h) (Or.inl ⟨by rfl, ?_⟩) (by assumption) ?_
      rotate_left
      · intro u hSw
        go_simp
        try (with_reducible rfl)
      try simp only [Act.put, List.setIfInBounds_toArray, List.set_cons_zero, List.set_cons_succ]
      refine wpAnyH_done (by kernel_rfl) ?_ _
      go_wp2_with fail
      go_roundw
      case rel =>
        refine ⟨j + 1, _, by go_num, by omega, by simp [hkl], B6, hE6, Hid.mk' ?_, Hid.mk' ?_, O6⟩
        · rw [List.map_append, hbs.out, take_succ' he.out]; simp
        · rw [List.map_append, hsm.out, take_succ' he.out]; simp
      case measure => simp [intOf]; omega
    · obtain rfl : j = n := by omega
      have hI : ¬ (j : Int) < j := by omega
      go_wp2_with fail
      go_ret
      exact ⟨_, ks, rfl, EL0, by rw [hbs.out, hln.out, List.take_length], by rw [hsm.out, hln.out, List.take_length], OL0.out, hbl⟩
end Go.Proofs.Ytgjnbpimldjkpaa
