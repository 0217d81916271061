/- Layer vm: Run. -/
import Derived.Test.YtnjbmffgbgbjmaaX30
import Derived.Laws.Tables
namespace Go.Proofs.Ytnjbmffgbgbjmaa
open Go.RowKit
set_option maxRecDepth 100000
set_option linter.unusedVariables false
set_option linter.unusedSimpArgs false


theorem list16 {P : List Int → Prop} (h : ∀ x0 x1 x2 x3 x4 x5 x6 x7 x8 x9 x10 x11 x12 x13 x14 x15, P [x0, x1, x2, x3, x4, x5, x6, x7, x8, x9, x10, x11, x12, x13, x14, x15]) (X : List Int) (hX : X.length = 16) : P X := by
  match X, hX with
  | [x0, x1, x2, x3, x4, x5, x6, x7, x8, x9, x10, x11, x12, x13, x14, x15], _ => exact h x0 x1 x2 x3 x4 x5 x6 x7 x8 x9 x10 x11 x12 x13 x14 x15
theorem built81 (m : Mc) (hr : m.rg.length = 16) (sp : Option Addr) (n cap : Nat) (sq : Option Addr) (k c gp : Nat) : Try.prog.built 82 [(0, .agg (mcA m sp n cap)), (1, .agg #[.slice sq k c, .map (some gp)])] = some (mcL m (.slice sp n cap) ++ [Value.slice sq k c, Value.map (some gp)]).toArray := by
  obtain ⟨pc, rg, st, me⟩ := m
  exact list16 (P := fun rg => Try.prog.built 82 [(0, .agg (mcA ⟨pc, rg, st, me⟩ sp n cap)), (1, .agg #[.slice sq k c, .map (some gp)])] = some (mcL ⟨pc, rg, st, me⟩ (.slice sp n cap) ++ [Value.slice sq k c, Value.map (some gp)]).toArray) (fun x0 x1 x2 x3 x4 x5 x6 x7 x8 x9 x10 x11 x12 x13 x14 x15 => by kernel_rfl) rg hr

theorem size81 : (Try.prog.info? 82).map (·.size) = some 21 := by kernel_rfl
theorem enA_size {m : Mc} (hr : m.rg.length = 16) (v a b : Value) : (mcL m v ++ [a, b]).toArray.size = 21 := by rw [List.size_toArray, List.length_append, mcL_len hr]; rfl
theorem enA_one (m : Mc) (sp : Option Addr) (n cap : Nat) (sq : Option Addr) (k c gp : Nat) : (mcL m (.slice sp n cap) ++ [Value.slice sq k c, Value.map (some gp)]).toArray.all (·.oneCell') = true := all_oneCell_toArray (by
  intro v hv
  rcases List.mem_append.1 hv with h | h
  · have := mcA_one m sp n cap
    rw [mcA, Array.all_eq_true_iff_forall_mem] at this
    exact this v (by simpa using h)
  · simp at h
    rcases h with rfl | rfl <;> rfl)
theorem y45 {ops : Array Oper} {S : World → Prop} {op : Oper} {a : Act} (hw : Region.wanted op (yielded ops a.tmps) = true) (x : Operand) (ho : op.op = .load 45 x)
    (g : Nat) (hx : a.eval x = .pointer (some ⟨g, 0, none⟩)) (C : Array Value) (hC : C.size = 19) (hS : ∀ u, S u → Arr u g 45 C) : YieldsIf Try.prog ops S op (.agg C) a := by
  have := yieldsIf_load_mid (P := Try.prog) (S := S) hw 45 x ho g 0 hx C.toList _ (fun u hu => (fun j v hv => by rw [Nat.zero_add, (hS u hu).cell]; simpa using hv)) Try.underlying45 rfl (by rw [Array.length_toList, hC]; exact size45)
  simpa using this
theorem y_bd {ops : Array Oper} {S : World → Prop} {op : Oper} {a : Act} (hw : Region.wanted op (yielded ops a.tmps) = true) (t : TypeId) (parts : Array (Nat × Operand)) (ho : op.op = .build t parts) {ps : List (Nat × Value)} (hp : parts.toList.map (fun p => (p.1, a.eval p.2)) = ps) {C : Array Value} (hb : Try.prog.built t ps = some C) : YieldsIf Try.prog ops S op (.agg C) a :=
  .inl ⟨hw, fun w _ => by
    have e : (parts.map fun (i, x) => (i, a.eval x)).toList = ps := by rw [Array.toList_map]; exact hp
    unfold execOp
    simp only [ho, Sem.run_bind, run_build w t _ C (by rw [e]; exact hb), Result.andThen_ok, Sem.run_pure]⟩
theorem step_want {P : Program} {ops : Array Oper} {o : Oper} {a : Act} {w : World} {K : Act → World → Prop} {Q : Exit → Act → World → Prop} {E : Prop} (hw : Region.wanted o (yielded ops a.tmps) = true) (h : o.wp P a w K Q) : if Region.wanted o (yielded ops a.tmps) = true then o.wp P a w K Q else E := by
  rw [if_pos hw]; exact h
/-- No machine. -/
def zM : Mc := ⟨0, [0, 0, 0, 0, 0, 0, 0, 0, 0, 0, 0, 0, 0, 0, 0, 0], 0, []⟩
theorem zM_rg : ∀ k, k < 16 → zM.rg.getD k 0 = 0 := by decide
theorem zM_ok : zM.ok := ⟨by show (0 : Int) ≤ 0 ∧ (0 : Int) < 18446744073709551616; omega, rfl, fun k => by
  have : zM.rg.getD k 0 = 0 := by
    by_cases h : k < 16
    · exact zM_rg k h
    · rw [List.getD_eq_getElem?_getD, List.getElem?_eq_none (by show 16 ≤ k; omega)]; rfl
  rw [this]; unfold U64; omega, by show (0 : Int) ≤ 0 ∧ (0 : Int) < 256; omega, fun k => by show U64 (([] : List Int).getD k 0); simp [U64]⟩
/-- What Run comes to. -/
def rO (es : List En) (m : Mc) (x : Int) : Mc × Int × Int :=
  if mayM m = false ∨ x < 0 then (zM, 0, 2) else if 4194304 < x then (zM, 0, 4) else ((rn es x.toNat m).1, (rn es x.toNat m).2, 0)
def RnPost (es : List En) (m : Mc) (x : Int) (w : World) (e : Ending) (w' : World) : Prop :=
  ∃ sp n cap, e = .returned (.tuple #[.agg (mcA (rO es m x).1 sp n cap), .int .i64 (rO es m x).2.1, .int .i64 (rO es m x).2.2]) ∧ (rO es m x).1.ok ∧ MS w'.heap.size w' sp n cap (rO es m x).1.me ∧ Below w.heap.size w w' ∧ (0 < n → ∃ gm, sp = some ⟨gm, 0, none⟩ ∧ w.heap.size ≤ gm ∧ MW w' gm (rO es m x).1.me)
theorem rnNo {es : List En} {m : Mc} {x : Int} {w w' : World} {er : Int} (hr : rO es m x = (zM, 0, er)) (hb : Below w.heap.size w w') : RnPost es m x w (.returned (.tuple #[.agg (mcA zM none 0 0), .int .i64 0, .int .i64 er])) w' := by
  refine ⟨none, 0, 0, by rw [hr], by rw [hr]; exact zM_ok, by rw [hr]; exact MS.nil0 _ _, hb, fun h => absurd h (by omega)⟩

set_option maxHeartbeats 1000000 in
theorem run_no {N : Nat} {es : List En} (m : Mc) (sp : Option Addr) (n cap : Nat) (sq : Option Addr) (nk ck : Nat) (x : Int) (w : World) (hok : m.ok) (hM : MS N w sp n cap m.me) (hS : ES N w sq nk ck es) (hx : -9223372036854775808 ≤ x ∧ x ≤ 9223372036854775807) (hbad : mayM m = false ∨ x < 0 ∨ 4194304 < x) :
    Calls Try.prog 23 #[.agg (mcA m sp n cap), .slice sq nk ck, .int .i64 x] w (RnPost es m x w) := by
  have A0 := (Arr.new w 45 (mcA m sp n cap)).alloc (.cells (mcA zM none 0 0) 45)
  have A1 := Arr.new (w.alloc (.cells (mcA m sp n cap) 45)) 45 (mcA zM none 0 0)
  simp only [World.size_alloc] at A1
  have hs0 := mcA_size hok.r16 sp n cap
  have hsz := mcA_size zM_ok.r16 none 0 0
  have hoz := mcA_one zM none 0 0
  have hb0 := (alloc_bel' w (.cells (mcA m sp n cap) 45)).alloc (by simp) (.cells (mcA zM none 0 0) 45)
  have hmay : ∀ U, Calls Try.prog 20 #[.agg (mcA m sp n cap)] U fun e w' => e = .returned (.bool (mayM m)) ∧ Below U.heap.size U w' := fun U => may_any m sp n cap U hok hM.len hM.small
  generalize hC : mcA m sp n cap = C at *
  cases hmm : mayM m with
  | false =>
    have hr : rO es m x = (zM, 0, 2) := by simp [rO, hmm]
    replace hr := Hid.mk' hr
    replace hmm := Hid.mk' hmm
    clear hbad
    go_enter Try.func23, Try.ntmps23
    go_wp2_with (first
      | (refine ld45 (by rfl) (.tmp 3) (by rfl) w.heap.size (by rfl) C hs0 A0 ?_)
      | (go_at_call 20; go_must (refine (hmay _).mono ?_; rintro e w1 ⟨rfl, hb1⟩; rw [hmm.out]; have B1 := hb0.trans (hb1.mono (by simp; omega)); have A01 := A0.below hb1 (by simp; omega); have A11 := A1.below hb1 (by simp)))
      | (refine st45 (by rfl) (.tmp 6) (.tmp 17) (by rfl) (w.heap.size + 1) (mcA zM none 0 0) (by rfl) (by rfl) hsz hoz _ hsz A11 ?_))
    exact bodyPost_ret (v := .tuple #[.agg (mcA zM none 0 0), .int .i64 0, .int .i64 2]) (res45 Try.results23 rfl rfl rfl hsz (A11.setRow _)) rfl (rnNo hr.out (below_setRow B1 (by omega) _))
  | true =>
    by_cases hx0 : x < 0
    · have hr : rO es m x = (zM, 0, 2) := by simp [rO, hx0]
      replace hr := Hid.mk' hr
      replace hmm := Hid.mk' hmm
      clear hbad
      go_enter Try.func23, Try.ntmps23
      go_wp2_with (first
        | (refine ld45 (by rfl) (.tmp 3) (by rfl) w.heap.size (by rfl) C hs0 A0 ?_)
        | (go_at_call 20; go_must (refine (hmay _).mono ?_; rintro e w1 ⟨rfl, hb1⟩; rw [hmm.out]; have B1 := hb0.trans (hb1.mono (by simp; omega)); have A01 := A0.below hb1 (by simp; omega); have A11 := A1.below hb1 (by simp)))
        | (refine st45 (by rfl) (.tmp 6) (.tmp 17) (by rfl) (w.heap.size + 1) (mcA zM none 0 0) (by rfl) (by rfl) hsz hoz _ hsz A11 ?_))
      exact bodyPost_ret (v := .tuple #[.agg (mcA zM none 0 0), .int .i64 0, .int .i64 2]) (res45 Try.results23 rfl rfl rfl hsz (A11.setRow _)) rfl (rnNo hr.out (below_setRow B1 (by omega) _))

    · have hx4 : 4194304 < x := by rcases hbad with h | h | h; rw [hmm] at h; cases h; exact absurd h hx0; exact h
      have hr : rO es m x = (zM, 0, 4) := by simp [rO, hmm, hx0, hx4]
      replace hr := Hid.mk' hr
      replace hmm := Hid.mk' hmm
      clear hbad
      go_enter Try.func23, Try.ntmps23
      go_wp2_with (first
        | (refine ld45 (by rfl) (.tmp 3) (by rfl) w.heap.size (by rfl) C hs0 A0 ?_)
        | (go_at_call 20; go_must (refine (hmay _).mono ?_; rintro e w1 ⟨rfl, hb1⟩; rw [hmm.out]; have B1 := hb0.trans (hb1.mono (by simp; omega)); have A01 := A0.below hb1 (by simp; omega); have A11 := A1.below hb1 (by simp)))
        | (refine st45 (by rfl) (.tmp 6) (.tmp 20) (by rfl) (w.heap.size + 1) (mcA zM none 0 0) (by rfl) (by rfl) hsz hoz _ hsz A11 ?_))
      exact bodyPost_ret (v := .tuple #[.agg (mcA zM none 0 0), .int .i64 0, .int .i64 4]) (res45 Try.results23 rfl rfl rfl hsz (A11.setRow _)) rfl (rnNo hr.out (below_setRow B1 (by omega) _))


set_option maxHeartbeats 2000000 in
theorem run_ok {N : Nat} {es : List En} (m : Mc) (sp : Option Addr) (n cap : Nat) (sq : Option Addr) (nk ck : Nat) (x : Int) (w : World) (hok : m.ok) (hM : MS N w sp n cap m.me) (hS : ES N w sq nk ck es) (hx : -9223372036854775808 ≤ x ∧ x ≤ 9223372036854775807) (hmay1 : mayM m = true) {F : Nat} (hxF : x = (F : Int)) (hF : F ≤ 4194304) :
    Calls Try.prog 23 #[.agg (mcA m sp n cap), .slice sq nk ck, .int .i64 x] w (RnPost es m x w) := by
  subst hxF
  have A0 := (Arr.new w 45 (mcA m sp n cap)).alloc (.cells (mcA zM none 0 0) 45)
  have A1 := Arr.new (w.alloc (.cells (mcA m sp n cap) 45)) 45 (mcA zM none 0 0)
  simp only [World.size_alloc] at A1
  have hs0 := mcA_size hok.r16 sp n cap
  have hsz := mcA_size zM_ok.r16 none 0 0
  have hoz := mcA_one zM none 0 0
  have hb0 := (alloc_bel' w (.cells (mcA m sp n cap) 45)).alloc (by simp) (.cells (mcA zM none 0 0) 45)
  have hmay : ∀ U, Calls Try.prog 20 #[.agg (mcA m sp n cap)] U fun e w' => e = .returned (.bool (mayM m)) ∧ Below U.heap.size U w' := fun U => may_any m sp n cap U hok hM.len hM.small
  have hsb : szB m.me.length = true := by unfold mayM at hmay1; exact (Bool.and_eq_true_iff.1 hmay1).1
  have hn := szB_le hsb
  rw [← hM.len.out] at hn
  have hn4 : n ≤ 4096 := hn.2
  have hl := hM.len
  have hxF : (F : Int) = (F : Int) := rfl
  have hr : rO es m F = ((rn es F m).1, ((rn es F m).2 : Int), 0) := by
    unfold rO
    rw [if_neg (by rw [hmay1]; simp), if_neg (by omega), Int.toNat_natCast]
  replace hr := Hid.mk' hr
  have hmm := Hid.mk' hmay1
  clear hmay1 hsb
  have hf0 : ¬ (F : Int) < 0 := by omega
  have hf1 : ¬ (4194304 : Int) < F := by omega
  have c18A := mcA_18 hok.r16 sp n cap
  have hb81 := fun (cp gm gp : Nat) => built81 m hok.r16 (some ⟨gm, 0, none⟩) n cp sq nk ck gp
  have hset : ∀ (cp gm : Nat), (mcA m sp n cap).setIfInBounds 18 (.slice (some ⟨gm, 0, none⟩) n cp) = mcA m (some ⟨gm, 0, none⟩) n cp := fun cp gm => by
    simp only [mcA, List.setIfInBounds_toArray]
    rw [mcL, List.set_cons_succ, List.set_append_right _ _ (by rw [by64_len, hok.r16]; omega), by64_len, hok.r16]
    rfl
  have hsl := hM.here
  have hSS := hS.here
  generalize hC : mcA m sp n cap = C at A0 A1 hb0 hmay hset c18A hs0 ⊢
  replace hC := Hid.mk' hC
  go_enter Try.func23, Try.ntmps23
  go_upto_region 6 with (first
      | (refine ld45 (by rfl) (.tmp 3) (by rfl) w.heap.size (by rfl) C hs0 A0 ?_)
      | (go_at_call 20; go_must (refine (hmay _).mono ?_; rintro e w1 ⟨rfl, hb1⟩; rw [hmm.out]; have B1 := hb0.trans (hb1.mono (by simp; omega)); have A01 := A0.below hb1 (by simp; omega); have A11 := A1.below hb1 (by simp); have d18 := (A01.cell 18).trans c18A; have f18 := A01.frozen 18))
      | (go_at_call 34; go_must (refine (clone64_any sp n cap m.me _ w1 (hsl.below B1) (by omega)).mono ?_; rintro e w2 ⟨gm, cap', rfl, hgm, hc1, hc2, hMW, hb2⟩; have B2 := B1.trans (hb2.mono B1.size); have A02 := A01.below hb2 A01.lt; have A12 := A11.below hb2 A11.lt; have d18' := (A02.cell 18).trans c18A; have f18' := A02.frozen 18)))
  have hsz1 := hb1.size
  simp only [World.size_alloc] at hsz1
  have hsz2 := hb2.size
  have A5 : Arr (w2.setCell ⟨w.heap.size, 18, none⟩ (.slice (some ⟨gm, 0, none⟩) n cap')) w.heap.size 45 (mcA m (some ⟨gm, 0, none⟩) n cap') := by have := A02.set 18 (.slice (some ⟨gm, 0, none⟩) n cap'); rw [hset] at this; exact this
  have A15 : Arr (w2.setCell ⟨w.heap.size, 18, none⟩ (.slice (some ⟨gm, 0, none⟩) n cap')) (w.heap.size + 1) 45 (mcA zM none 0 0) := A12.setOther _ (by simp)
  have MW5 : MW (w2.setCell ⟨w.heap.size, 18, none⟩ (.slice (some ⟨gm, 0, none⟩) n cap')) gm m.me := hMW.setOther _ (by show gm ≠ w.heap.size; omega)
  have B5 : Below w.heap.size w (w2.setCell ⟨w.heap.size, 18, none⟩ (.slice (some ⟨gm, 0, none⟩) n cap')) := B2.setCell (Nat.le_refl _) _
  generalize w2.setCell ⟨w.heap.size, 18, none⟩ (.slice (some ⟨gm, 0, none⟩) n cap') = W5 at A5 A15 MW5 B5 ⊢
  have hb81 := hb81 cap' gm
  have hgl := MW5.lt
  have hm5 := mcA_size hok.r16 (some ⟨gm, 0, none⟩) n cap'
  clear A0 A1 hb0 hmay B1 A01 A11 d18 f18 A02 A12 d18' f18' hb1 hb2 hMW B2 hset c18A hsl hs0 hC
  have hL5 := A15.lt
  refine wp_region_held_drew (S := fun u => Below W5.heap.size W5 u) (by kernel_rfl) ((Below.refl _ _).drew) (fun hHeld => ?_)
  refine wpAnyH_take (i := 0) (oi := ⟨_, _, _, _, _, _⟩) rfl (by kernel_rfl) (by kernel_rfl) (by kernel_rfl) (fun _ _ _ h => h) (y45 (by rfl) (.tmp 3) rfl w.heap.size rfl (mcA m (some ⟨gm, 0, none⟩) n cap') hm5 (fun u hu => A5.below hu A5.lt)) (by assumption) ?_
  try simp only [Act.put, List.setIfInBounds_toArray, List.set_cons_zero, List.set_cons_succ]
  refine wpAnyH_take (i := 1) (oi := ⟨_, _, _, _, _, _⟩) (v := ?_) rfl (by kernel_rfl) (by kernel_rfl) (by kernel_rfl) (fun _ _ _ h => h) (Or.inl ⟨by rfl, ?_⟩) (by assumption) ?_
  rotate_left
  · intro u hSw
    go_simp
    try (with_reducible rfl)
  try simp only [Act.put, List.setIfInBounds_toArray, List.set_cons_zero, List.set_cons_succ]
  refine wpAnyH_ready (rs := [2, 4]) (by kernel_rfl) (by simp) ?_
  refine AllReadyH.cons (o := ⟨_, _, _, _, _, _⟩) rfl (fun K hK => ?_) (AllReadyH.cons (o := ⟨_, _, _, _, _, _⟩) rfl (fun K hK => ?_) AllReadyH.nil)
  · go_simp
    refine (newShelf_any _ sq nk ck rfl _).mono ?_
    rintro e u ⟨gp, rfl, hgp, hMp, hbu⟩
    have hHu : Below W5.heap.size W5 u := ((Below.refl _ W5).drew).trans (hbu.mono (by simp))
    have hus := hHu.size
    have hgp' : W5.heap.size ≤ gp := hgp
    have hBs := B5.size
    go_wp2_with fail
    refine hK.out _ _ hHu (fun hHeld => ?_)
    clear hK K
    try simp only [Act.put, List.setIfInBounds_toArray, List.set_cons_zero, List.set_cons_succ]
    refine wpAnyH_take (i := 3) (oi := ⟨_, _, _, _, _, _⟩) rfl (by kernel_rfl) (by kernel_rfl) (by kernel_rfl) (fun _ _ _ h => h) (y_bd (by rfl) 82 #[(0, .tmp 25), (1, .tmp 27)] rfl (by rfl) (hb81 gp)) (by assumption) ?_
    try simp only [Act.put, List.setIfInBounds_toArray, List.set_cons_zero, List.set_cons_succ]
    refine wpAnyH_ready (rs := [4]) (by kernel_rfl) (by simp) ?_
    refine AllReadyH.cons (o := ⟨_, _, _, _, _, _⟩) rfl (fun K hK => ?_) AllReadyH.nil
    go_simp
    go_wp2_with fail
    refine hK.out _ _ (hHu.alloc (by omega) _) (fun hHeld => ?_)
    clear hK K
    try simp only [Act.put, List.setIfInBounds_toArray, List.set_cons_zero, List.set_cons_succ]
    refine wpAnyH_ready (rs := [5]) (by kernel_rfl) (by simp) ?_
    refine AllReadyH.cons (o := ⟨_, _, _, _, _, _⟩) rfl (fun K hK => ?_) AllReadyH.nil
    refine step_want rfl (wp_store_row 82 (.tmp 9) (.tmp 28) rfl u.heap.size _ rfl rfl 82 _ (Arr.new u 82 _) (by rw [enA_size hok.r16]; exact size81) (by rw [enA_size hok.r16]; rfl) (enA_one _ _ _ _ _ _ _ _) ?_)
    refine hK.out _ _ (below_setRow (hHu.alloc (by omega) _) (by omega) _) (fun hHeld => ?_)
    clear hK K
    try simp only [Act.put, List.setIfInBounds_toArray, List.set_cons_zero, List.set_cons_succ]
    refine wpAnyH_done (by kernel_rfl) ?_ _
    have hgpl := hMp.lt
    have hEN := (Arr.new u 82 #[.int .u64 0, .int .u64 0, .int .u64 0, .int .u64 0, .int .u64 0, .int .u64 0, .int .u64 0, .int .u64 0, .int .u64 0, .int .u64 0, .int .u64 0, .int .u64 0, .int .u64 0, .int .u64 0, .int .u64 0, .int .u64 0, .int .u64 0, .int .u8 0, .slice none 0 0, .slice none 0 0, .map none]).setRow (mcL m (.slice (some ⟨gm, 0, none⟩) n cap') ++ [Value.slice sq nk ck, Value.map (some gp)]).toArray
    have hMW' : MW ((u.alloc (.cells #[.int .u64 0, .int .u64 0, .int .u64 0, .int .u64 0, .int .u64 0, .int .u64 0, .int .u64 0, .int .u64 0, .int .u64 0, .int .u64 0, .int .u64 0, .int .u64 0, .int .u64 0, .int .u64 0, .int .u64 0, .int .u64 0, .int .u64 0, .int .u8 0, .slice none 0 0, .slice none 0 0, .map none] 82)).setRow u.heap.size (mcL m (.slice (some ⟨gm, 0, none⟩) n cap') ++ [Value.slice sq nk ck, Value.map (some gp)]).toArray) gm m.me := ((MW5.below hHu hgl).block (Below.heap_alloc _ _ _ (by omega))).block (setRow_other _ _ _ _ (by omega))
    have hMp' : MapH ((u.alloc (.cells #[.int .u64 0, .int .u64 0, .int .u64 0, .int .u64 0, .int .u64 0, .int .u64 0, .int .u64 0, .int .u64 0, .int .u64 0, .int .u64 0, .int .u64 0, .int .u64 0, .int .u64 0, .int .u64 0, .int .u64 0, .int .u64 0, .int .u64 0, .int .u8 0, .slice none 0 0, .slice none 0 0, .map none] 82)).setRow u.heap.size (mcL m (.slice (some ⟨gm, 0, none⟩) n cap') ++ [Value.slice sq nk ck, Value.map (some gp)]).toArray) gp (fun _ => none) := (hMp.same (Below.heap_alloc _ _ _ hgpl)).same (setRow_other _ _ _ _ (by omega))
    have hBU : Below w.heap.size w ((u.alloc (.cells #[.int .u64 0, .int .u64 0, .int .u64 0, .int .u64 0, .int .u64 0, .int .u64 0, .int .u64 0, .int .u64 0, .int .u64 0, .int .u64 0, .int .u64 0, .int .u64 0, .int .u64 0, .int .u64 0, .int .u64 0, .int .u64 0, .int .u64 0, .int .u8 0, .slice none 0 0, .slice none 0 0, .map none] 82)).setRow u.heap.size (mcL m (.slice (some ⟨gm, 0, none⟩) n cap') ++ [Value.slice sq nk ck, Value.map (some gp)]).toArray) := B5.trans ((below_setRow (hHu.alloc (by omega) _) (by omega) _).mono B5.size)
    have hVM : VM w.heap.size es ((u.alloc (.cells #[.int .u64 0, .int .u64 0, .int .u64 0, .int .u64 0, .int .u64 0, .int .u64 0, .int .u64 0, .int .u64 0, .int .u64 0, .int .u64 0, .int .u64 0, .int .u64 0, .int .u64 0, .int .u64 0, .int .u64 0, .int .u64 0, .int .u64 0, .int .u8 0, .slice none 0 0, .slice none 0 0, .map none] 82)).setRow u.heap.size (mcL m (.slice (some ⟨gm, 0, none⟩) n cap') ++ [Value.slice sq nk ck, Value.map (some gp)]).toArray) u.heap.size gm gp n cap' sq nk ck m := ⟨⟨hEN, hMW', by omega, hl, hn4, ⟨hc1, hc2⟩, hok⟩, hSS.below hBU, ⟨_, hMp', FI.nil es⟩, ⟨by omega, by omega, by omega⟩, ⟨by omega, by omega⟩⟩
    have A1U : Arr ((u.alloc (.cells #[.int .u64 0, .int .u64 0, .int .u64 0, .int .u64 0, .int .u64 0, .int .u64 0, .int .u64 0, .int .u64 0, .int .u64 0, .int .u64 0, .int .u64 0, .int .u64 0, .int .u64 0, .int .u64 0, .int .u64 0, .int .u64 0, .int .u64 0, .int .u8 0, .slice none 0 0, .slice none 0 0, .map none] 82)).setRow u.heap.size (mcL m (.slice (some ⟨gm, 0, none⟩) n cap') ++ [Value.slice sq nk ck, Value.map (some gp)]).toArray) (w.heap.size + 1) 45 (mcA zM none 0 0) := ((A15.below hHu (by omega)).alloc _).setRowOther _ (by omega)
    generalize hUU : ((u.alloc (.cells #[.int .u64 0, .int .u64 0, .int .u64 0, .int .u64 0, .int .u64 0, .int .u64 0, .int .u64 0, .int .u64 0, .int .u64 0, .int .u64 0, .int .u64 0, .int .u64 0, .int .u64 0, .int .u64 0, .int .u64 0, .int .u64 0, .int .u64 0, .int .u8 0, .slice none 0 0, .slice none 0 0, .map none] 82)).setRow u.heap.size (mcL m (.slice (some ⟨gm, 0, none⟩) n cap') ++ [Value.slice sq nk ck, Value.map (some gp)]).toArray) = U at hVM A1U
    have hBU' : Below w.heap.size w U := by rw [← hUU]; exact hBU
    clear hUU hEN hMW' hMp' hBU
    go_wp2_with (first
      | (go_at_call 36; go_must (refine (run_any U hVM (F := F) rfl hF).mono ?_; rintro e u3 ⟨rfl, hcg, hV3⟩; have A13 := hVM.oth A1U (by decide) (by decide) hcg; have hB3 := hBU'.trans (hcg.low (by have := hBU'.size; omega) (fun k hk hs => by rcases hs with e | e | e <;> omega)); have hE3 := hV3.en; have hr3 : u3.rangeAt u.heap.size 0 (mcL (rn es F m).1 (.slice (some ⟨gm, 0, none⟩) n cap')) := (fun j v hv => by rw [Nat.zero_add, hE3.eng.cell, List.getElem?_toArray, List.getElem?_append_left (List.getElem?_eq_some_iff.1 hv).1]; exact hv)))
      | (refine wpList_load_mid (by rfl) 45 (.tmp 31) (by rfl) u.heap.size 0 (by rfl) (mcL (rn es F m).1 (.slice (some ⟨gm, 0, none⟩) n cap')) _ hr3 Try.underlying45 rfl (by rw [mcL_len hE3.ok.r16]; exact size45) ?_)
      | (refine st45 (by rfl) (.tmp 6) (.tmp 32) (by rfl) (w.heap.size + 1) (mcA (rn es F m).1 (some ⟨gm, 0, none⟩) n cap') (by rfl) (by rfl) (mcA_size hE3.ok.r16 _ _ _) (mcA_one _ _ _ _) _ hsz A13 ?_))
    refine bodyPost_ret (v := .tuple #[.agg (mcA (rn es F m).1 (some ⟨gm, 0, none⟩) n cap'), .int .i64 ((rn es F m).2 : Int), .int .i64 0]) (res45 Try.results23 rfl rfl rfl (mcA_size hE3.ok.r16 _ _ _) (A13.setRow _)) rfl ?_
    have hMWf : MW (u3.setRow (w.heap.size + 1) (mcA (rn es F m).1 (some ⟨gm, 0, none⟩) n cap')) gm (rn es F m).1.me := hE3.mem.block (setRow_other _ _ _ _ (by omega))
    exact ⟨some ⟨gm, 0, none⟩, n, cap', by rw [hr.out], by rw [hr.out]; exact hE3.ok, by rw [hr.out]; exact hMWf.ms hE3.len.out (by omega) ⟨hc1, hc2⟩, below_setRow hB3 (by omega) _, fun _ => ⟨gm, rfl, by omega, by rw [hr.out]; exact hMWf⟩⟩
  · go_simp
    go_wp2_with fail
    refine hK.out _ _ (((Below.refl W5.heap.size W5).drew).alloc (by simp) _) (fun hHeld => ?_)
    clear hK K
    try simp only [Act.put, List.setIfInBounds_toArray, List.set_cons_zero, List.set_cons_succ]
    refine wpAnyH_ready (rs := [2]) (by kernel_rfl) (by simp) ?_
    refine AllReadyH.cons (o := ⟨_, _, _, _, _, _⟩) rfl (fun K hK => ?_) AllReadyH.nil
    go_simp
    refine (newShelf_any _ sq nk ck rfl _).mono ?_
    rintro e u ⟨gp, rfl, hgp, hMp, hbu⟩
    have hHu : Below W5.heap.size W5 u := (((Below.refl W5.heap.size W5).drew).alloc (by simp) _).trans (hbu.mono (by simp))
    have hZu := (Arr.new W5.drew 82 #[.int .u64 0, .int .u64 0, .int .u64 0, .int .u64 0, .int .u64 0, .int .u64 0, .int .u64 0, .int .u64 0, .int .u64 0, .int .u64 0, .int .u64 0, .int .u64 0, .int .u64 0, .int .u64 0, .int .u64 0, .int .u64 0, .int .u64 0, .int .u8 0, .slice none 0 0, .slice none 0 0, .map none]).below hbu (by simp)
    have hus := hbu.size
    try simp only [World.size_alloc] at hus
    try simp only [World.size_alloc] at hgp
    go_wp2_with fail
    refine hK.out _ _ hHu (fun hHeld => ?_)
    clear hK K
    try simp only [Act.put, List.setIfInBounds_toArray, List.set_cons_zero, List.set_cons_succ]
    refine wpAnyH_take (i := 3) (oi := ⟨_, _, _, _, _, _⟩) rfl (by kernel_rfl) (by kernel_rfl) (by kernel_rfl) (fun _ _ _ h => h) (y_bd (by rfl) 82 #[(0, .tmp 25), (1, .tmp 27)] rfl (by rfl) (hb81 gp)) (by assumption) ?_
    try simp only [Act.put, List.setIfInBounds_toArray, List.set_cons_zero, List.set_cons_succ]
    refine wpAnyH_ready (rs := [5]) (by kernel_rfl) (by simp) ?_
    refine AllReadyH.cons (o := ⟨_, _, _, _, _, _⟩) rfl (fun K hK => ?_) AllReadyH.nil
    refine step_want rfl (wp_store_row 82 (.tmp 9) (.tmp 28) rfl W5.heap.size _ rfl rfl 82 _ hZu (by rw [enA_size hok.r16]; exact size81) (by rw [enA_size hok.r16]; rfl) (enA_one _ _ _ _ _ _ _ _) ?_)
    refine hK.out _ _ (below_setRow hHu (Nat.le_refl _) _) (fun hHeld => ?_)
    clear hK K
    try simp only [Act.put, List.setIfInBounds_toArray, List.set_cons_zero, List.set_cons_succ]
    refine wpAnyH_done (by kernel_rfl) ?_ _
    have hgpl := hMp.lt
    have hgp' : W5.heap.size + 1 ≤ gp := by simpa using hgp
    have hBs := B5.size
    have hEN := hZu.setRow (mcL m (.slice (some ⟨gm, 0, none⟩) n cap') ++ [Value.slice sq nk ck, Value.map (some gp)]).toArray
    have hMW' : MW (u.setRow W5.heap.size (mcL m (.slice (some ⟨gm, 0, none⟩) n cap') ++ [Value.slice sq nk ck, Value.map (some gp)]).toArray) gm m.me := (MW5.below hHu hgl).block (setRow_other _ _ _ _ (by omega))
    have hMp' : MapH (u.setRow W5.heap.size (mcL m (.slice (some ⟨gm, 0, none⟩) n cap') ++ [Value.slice sq nk ck, Value.map (some gp)]).toArray) gp (fun _ => none) := hMp.same (setRow_other _ _ _ _ (by omega))
    have hBU : Below w.heap.size w (u.setRow W5.heap.size (mcL m (.slice (some ⟨gm, 0, none⟩) n cap') ++ [Value.slice sq nk ck, Value.map (some gp)]).toArray) := B5.trans ((below_setRow hHu (Nat.le_refl _) _).mono B5.size)
    have hVM : VM w.heap.size es (u.setRow W5.heap.size (mcL m (.slice (some ⟨gm, 0, none⟩) n cap') ++ [Value.slice sq nk ck, Value.map (some gp)]).toArray) W5.heap.size gm gp n cap' sq nk ck m := ⟨⟨hEN, hMW', by omega, hl, hn4, ⟨hc1, hc2⟩, hok⟩, hSS.below hBU, ⟨_, hMp', FI.nil es⟩, ⟨by have := B5.size; omega, by omega, by omega⟩, ⟨by omega, by omega⟩⟩
    have A1U : Arr (u.setRow W5.heap.size (mcL m (.slice (some ⟨gm, 0, none⟩) n cap') ++ [Value.slice sq nk ck, Value.map (some gp)]).toArray) (w.heap.size + 1) 45 (mcA zM none 0 0) := (A15.below hHu (by omega)).setRowOther _ (by omega)
    generalize hUU : (u.setRow W5.heap.size (mcL m (.slice (some ⟨gm, 0, none⟩) n cap') ++ [Value.slice sq nk ck, Value.map (some gp)]).toArray) = U at hVM A1U
    have hBU' : Below w.heap.size w U := by rw [← hUU]; exact hBU
    clear hUU hEN hMW' hMp' hBU
    go_wp2_with (first
      | (go_at_call 36; go_must (refine (run_any U hVM (F := F) rfl hF).mono ?_; rintro e u3 ⟨rfl, hcg, hV3⟩; have A13 := hVM.oth A1U (by decide) (by decide) hcg; have hB3 := hBU'.trans (hcg.low (by have := hBU'.size; omega) (fun k hk hs => by rcases hs with e | e | e <;> omega)); have hE3 := hV3.en; have hr3 : u3.rangeAt W5.heap.size 0 (mcL (rn es F m).1 (.slice (some ⟨gm, 0, none⟩) n cap')) := (fun j v hv => by rw [Nat.zero_add, hE3.eng.cell, List.getElem?_toArray, List.getElem?_append_left (List.getElem?_eq_some_iff.1 hv).1]; exact hv)))
      | (refine wpList_load_mid (by rfl) 45 (.tmp 31) (by rfl) W5.heap.size 0 (by rfl) (mcL (rn es F m).1 (.slice (some ⟨gm, 0, none⟩) n cap')) _ hr3 Try.underlying45 rfl (by rw [mcL_len hE3.ok.r16]; exact size45) ?_)
      | (refine st45 (by rfl) (.tmp 6) (.tmp 32) (by rfl) (w.heap.size + 1) (mcA (rn es F m).1 (some ⟨gm, 0, none⟩) n cap') (by rfl) (by rfl) (mcA_size hE3.ok.r16 _ _ _) (mcA_one _ _ _ _) _ hsz A13 ?_))
    refine bodyPost_ret (v := .tuple #[.agg (mcA (rn es F m).1 (some ⟨gm, 0, none⟩) n cap'), .int .i64 ((rn es F m).2 : Int), .int .i64 0]) (res45 Try.results23 rfl rfl rfl (mcA_size hE3.ok.r16 _ _ _) (A13.setRow _)) rfl ?_
    have hMWf : MW (u3.setRow (w.heap.size + 1) (mcA (rn es F m).1 (some ⟨gm, 0, none⟩) n cap')) gm (rn es F m).1.me := hE3.mem.block (setRow_other _ _ _ _ (by omega))
    exact ⟨some ⟨gm, 0, none⟩, n, cap', by rw [hr.out], by rw [hr.out]; exact hE3.ok, by rw [hr.out]; exact hMWf.ms hE3.len.out (by omega) ⟨hc1, hc2⟩, below_setRow hB3 (by omega) _, fun _ => ⟨gm, rfl, by omega, by rw [hr.out]; exact hMWf⟩⟩
end Go.Proofs.Ytnjbmffgbgbjmaa
