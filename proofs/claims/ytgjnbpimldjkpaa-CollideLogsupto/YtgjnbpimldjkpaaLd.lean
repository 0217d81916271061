/- Layer collide: a log's Sum. -/
import Derived.Test.YtgjnbpimldjkpaaLc
namespace Go.Proofs.Ytgjnbpimldjkpaa
open Go.RowKit
set_option linter.unusedVariables false
set_option linter.unusedSimpArgs false

/-- What a log's Sum does. -/
def LSum (gl : Nat) (v : Value) (es : List En) (L : List Int) (w : World) (r : Ending) (w' : World) : Prop :=
  r = .returned (.agg (h8 (shl L))) ∧ ∃ v' e, Arr w' gl 75 #[.bool true, v'] ∧ EO (gl + 1) gl w' v' (es ++ [e]) ∧ e.bs = L ∧ e.sm = shl L ∧ (∀ b off, e.sp = some ⟨b, off, none⟩ → w.heap.size ≤ b) ∧ (v'.ownBlock = v.ownBlock ∨ ∃ k, v'.ownBlock = some k ∧ w.heap.size ≤ k) ∧ Chg (fun b => b = gl ∨ v.ownBlock = some b) w w'
theorem EO.slice {base ax : Nat} {w : World} {v : Value} {es : List En} (h : EO base ax w v es) : ∃ sp m cap, v = .slice sp m cap := by
  rcases h.own.2 with ⟨h, -⟩ | ⟨g, cap, cur, h, -⟩
  · exact ⟨_, _, _, h⟩
  · exact ⟨_, _, _, h⟩
/-- .. where another block was turned. -/
theorem EO.other {base ax g : Nat} {w w' : World} {v : Value} {es : List En} (h : EO base ax w v es) (hg : w.grownBy w' (some g)) (hv : v.ownBlock ≠ some g ∧ ∀ e ∈ es, ∀ b off, e.sp = some ⟨b, off, none⟩ → b ≠ g) : EO base ax w' v es :=
  ⟨own_same h.own (fun k hk => hg.block k (own_lt h.own hk) (fun e => hv.1 (hk.trans e))), fun e he => ⟨((h.ok e he).body.grown hg (fun b off hs => hv.2 e he b off hs)).mono hg.size, (h.ok e he).s32⟩, fun e he b off hs => by have := h.ap e he b off hs; have := hg.size; exact ⟨by omega, by omega, (h.ap e he b off hs).2.2⟩⟩
theorem y_bd {ops : Array Oper} {S : World → Prop} {op : Oper} {a : Act} (hw : Region.wanted op (yielded ops a.tmps) = true) (t : TypeId) (parts : Array (Nat × Operand)) (ho : op.op = .build t parts) {ps : List (Nat × Value)} (hp : parts.toList.map (fun p => (p.1, a.eval p.2)) = ps) {C : Array Value} (hb : Try.prog.built t ps = some C) : YieldsIf Try.prog ops S op (.agg C) a :=
  .inl ⟨hw, fun w _ => by
    have e : (parts.map fun (i, x) => (i, a.eval x)).toList = ps := by rw [Array.toList_map]; exact hp
    unfold execOp
    simp only [ho, Sem.run_bind, run_build w t _ C (by rw [e]; exact hb), Result.andThen_ok, Sem.run_pure]⟩
set_option maxRecDepth 100000 in
set_option maxHeartbeats 2000000 in
theorem logSum_any (gl : Nat) (v : Value) (es : List En) (sp : Option Addr) (n cap : Nat) (L : List Int) (N : Nat) (w : World) (hA : Arr w gl 75 #[.bool true, v]) (hE : EO (gl + 1) gl w v es) (hlen : es.length ≤ 1000000000) (hB : BS N w sp n cap L) :
    Calls Try.prog 21 #[.pointer (some ⟨gl, 0, none⟩), .slice sp n cap] w (LSum gl v es L w) := by
  have hgl := hA.lt
  have hBt := hB.bts
  have hns := hB.small
  have hvg : v.ownBlock ≠ some gl := fun e => by have := own_ge hE.own _ e; omega
  have hb0 := alloc_bel' w (.cells (h8 Z32) 29)
  have A0 := Arr.new w 29 (h8 Z32)
  obtain ⟨S, hS0⟩ : ∃ S, S = shl L := ⟨_, rfl⟩
  have hS32 : S.length = 32 := by rw [hS0]; exact shl_len _
  have hsu : ∀ (N : Nat) (u : World), BS N u sp n cap L → Calls Try.prog 27 #[.slice sp n cap] u fun e w' => e = .returned (.agg (h8 S)) ∧ Below u.heap.size u w' := fun N u h => by rw [hS0]; exact sum_h sp n cap L N u h
  have hSL := Hid.mk' hS0
  clear hS0
  replace hsu := Hid.mk' hsu
  go_enter Try.func21, Try.ntmps21
  go_upto_region 2 with (first
    | (go_at_call 27; go_must (refine (hsu.out _ _ (hB.here.below hb0)).mono ?_; rintro e w1 ⟨rfl, hb1⟩))
    | (refine st24n (by rfl) _ _ (by rfl) w1 w1.heap.size rfl (by rfl) S (by rfl) (by rfl) hS32 ?_))
  have hs1 := hb1.size
  simp at hs1
  have hB1 := (hb0.trans (hb1.mono hb0.size)).alloc (by omega) (.cells (h8 S) 29)
  have AG := hA.below hB1 hgl
  have EW := hE.below hB1
  have BW := (hB.here.below hB1).here
  have AS := Arr.new w1 29 (h8 S)
  have AR := (A0.bel hb1).alloc (.cells (h8 S) 29)
  have hBW := hB1
  have hsW : (w1.alloc (.cells (h8 S) 29)).heap.size = w1.heap.size + 1 := by simp
  generalize w1.alloc (.cells (h8 S) 29) = W at *
  have hASv : some w1.heap.size ≠ v.ownBlock := fun e => by have := own_lt hE.own e.symm; omega
  have hARv : some w.heap.size ≠ v.ownBlock := fun e => by have := own_lt hE.own e.symm; omega
  have cg := AG.cell 0
  simp at cg
  go_upto_region 3 with (go_at_call 33; go_must (refine (isThere_any gl W cg).mono ?_; rintro e w2 ⟨rfl, h22⟩; replace h22 := h22.symm; subst h22))
  have hold := Hid.mk' (fun e he b off hs => (hE.ap e he b off hs).2.1)
  have hvo := Hid.mk' (fun (k : Nat) hk => own_lt (b := k) hE.own hk)
  clear cg hB1 hb1 hb0 A0 hA hE
  replace BW : BS W.heap.size W.drew sp n cap L := BW.below (Below.refl _ _).drew
  refine wp_region_held_drew (S := fun u => Arr u w1.heap.size 29 (h8 S)) (by kernel_rfl) AS.drew (fun hHeld => ?_)
  refine wpAnyH_take (i := 0) (oi := ⟨_, _, _, _, _, _⟩) (v := ?_) rfl (by kernel_rfl) (by kernel_rfl) (by kernel_rfl) (fun _ _ _ h => h) (Or.inl ⟨by rfl, ?_⟩) (by assumption) ?_
  rotate_left
  · intro u hSw
    go_simp
    try (with_reducible rfl)
  try simp only [Act.put, List.setIfInBounds_toArray, List.set_cons_zero, List.set_cons_succ]
  refine wpAnyH_take (i := 1) (oi := ⟨_, _, _, _, _, _⟩) (v := ?_) rfl (by kernel_rfl) (by kernel_rfl) (by kernel_rfl) (fun _ _ _ h => h) (Or.inl ⟨by rfl, ?_⟩) (by assumption) ?_
  rotate_left
  · intro u hSw
    go_simp
    try (with_reducible rfl)
  try simp only [Act.put, List.setIfInBounds_toArray, List.set_cons_zero, List.set_cons_succ]
  refine wpAnyH_take (i := 2) (oi := ⟨_, _, _, _, _, _⟩) (v := ?_) rfl (by kernel_rfl) (by kernel_rfl) (by kernel_rfl) (fun _ _ _ h => h) (Or.inl ⟨by rfl, ?_⟩) (by assumption) ?_
  rotate_left
  · intro u hSw
    go_simp
    try (with_reducible rfl)
  try simp only [Act.put, List.setIfInBounds_toArray, List.set_cons_zero, List.set_cons_succ]
  refine wpAnyH_take (i := 3) (oi := ⟨_, _, _, _, _, _⟩) (v := ?_) rfl (by kernel_rfl) (by kernel_rfl) (by kernel_rfl) (fun _ _ _ h => h) (Or.inl ⟨by rfl, ?_⟩) (by assumption) ?_
  rotate_left
  · intro u hSw
    go_simp
    try (with_reducible rfl)
  try simp only [Act.put, List.setIfInBounds_toArray, List.set_cons_zero, List.set_cons_succ]
  refine wpAnyH_take (i := 5) (oi := ⟨_, _, _, _, _, _⟩) (v := ?_) rfl (by kernel_rfl) (by kernel_rfl) (by kernel_rfl) (fun _ _ _ h => h) (Or.inl ⟨by rfl, ?_⟩) (by assumption) ?_
  rotate_left
  · intro u hSw
    go_simp
    try (with_reducible rfl)
  try simp only [Act.put, List.setIfInBounds_toArray, List.set_cons_zero, List.set_cons_succ]
  refine wpAnyH_take (i := 7) (oi := ⟨_, _, _, _, _, _⟩) rfl (by kernel_rfl) (by kernel_rfl) (by kernel_rfl) (fun _ _ _ h => h) (y24 (by rfl) (.tmp 5) rfl (w1.heap.size) (0) rfl S hS32 (fun u hu => hu.range)) (by assumption) ?_
  try simp only [Act.put, List.setIfInBounds_toArray, List.set_cons_zero, List.set_cons_succ]
  refine wpAnyH_ready (rs := [4, 6]) (by kernel_rfl) (by simp) ?_
  refine AllReadyH.cons (o := ⟨_, _, _, _, _, _⟩) rfl (fun K hK => ?_) (AllReadyH.cons (o := ⟨_, _, _, _, _, _⟩) rfl (fun K hK => ?_) AllReadyH.nil)
  · have cc := (AG.drew).cell 1
    simp at cc
    go_simp
    go_wp2_with fail
    refine hK.out _ _ AS.drew (fun hHeld => ?_)
    clear hK K
    try simp only [Act.put, List.setIfInBounds_toArray, List.set_cons_zero, List.set_cons_succ]
    clear cc
    refine wpAnyH_ready (rs := [6]) (by kernel_rfl) (by simp) ?_
    refine AllReadyH.cons (o := ⟨_, _, _, _, _, _⟩) rfl (fun K hK => ?_) AllReadyH.nil
    go_simp
    refine (clone_any sp n cap L _ W.drew BW).mono ?_
    rintro r w4 ⟨vb, rfl, hown4, hb4⟩
    have U4 : Below W.heap.size W w4 := ((Below.refl _ _).drew).trans (hb4.mono (by simp))
    have hob := hown4
    obtain ⟨sp4, cp4, rfl, hB4, hg4⟩ := own_bs hown4 hBt hns
    have hlt4 : ∀ b off, sp4 = some ⟨b, off, none⟩ → b < w4.heap.size := fun b off e => own_lt hob (by rw [e]; rfl)
    clear hob hown4
    go_wp2_with fail
    refine hK.out _ _ (AS.below U4 AS.lt) (fun hHeld => ?_)
    clear hK K
    try simp only [Act.put, List.setIfInBounds_toArray, List.set_cons_zero, List.set_cons_succ]
    have hsm4 := U4.size
    refine wpAnyH_take (i := 8) (oi := ⟨_, _, _, _, _, _⟩) rfl (by kernel_rfl) (by kernel_rfl) (by kernel_rfl) (fun _ _ _ h => h) (y_bd (by rfl) 54 #[(0, .tmp 16), (1, .tmp 17)] rfl (by rfl) (built54 sp4 n cp4 S hS32 L)) (by assumption) ?_
    try simp only [Act.put, List.setIfInBounds_toArray, List.set_cons_zero, List.set_cons_succ]
    refine wpAnyH_ready (rs := [9]) (by kernel_rfl) (by simp) ?_
    refine AllReadyH.cons (o := ⟨_, _, _, _, _, _⟩) rfl (fun K hK => ?_) AllReadyH.nil
    refine step_want rfl (wp_bldE (.tmp 18) rfl ⟨sp4, n, cp4, L, S⟩ rfl hS32 ?_)
    have U5 := U4.alloc U4.size (.cells (En.arr ⟨sp4, n, cp4, L, S⟩) 54)
    have E5 := EW.below U5
    have A5 := Arr.new w4 54 (En.arr ⟨sp4, n, cp4, L, S⟩)
    have ok5 : EnOK (w4.alloc (.cells (En.arr ⟨sp4, n, cp4, L, S⟩) 54)).heap.size (w4.alloc (.cells (En.arr ⟨sp4, n, cp4, L, S⟩) 54)) ⟨sp4, n, cp4, L, S⟩ := ⟨(hB4.below (alloc_bel' w4 _)).mono (by simp), hS32⟩
    have AG5 := AG.below U5 AG.lt
    have AS5 := AS.below U5 AS.lt
    have AR5 := AR.below U5 AR.lt
    have hs5 : (w4.alloc (.cells (En.arr ⟨sp4, n, cp4, L, S⟩) 54)).heap.size = w4.heap.size + 1 := by simp
    refine hK.out _ _ AS5 (fun hHeld => ?_)
    clear hK K
    try simp only [Act.put, List.setIfInBounds_toArray, List.set_cons_zero, List.set_cons_succ]
    have hap5 : ∀ b off, sp4 = some ⟨b, off, none⟩ → gl + 1 ≤ b ∧ b < (w4.alloc (.cells (En.arr ⟨sp4, n, cp4, L, S⟩) 54)).heap.size ∧ some b ≠ v.ownBlock ∧ b ≠ gl := fun b off e => by have h1 := (hg4 b off e).1; have h2 := hlt4 b off e; simp at h1; exact ⟨by omega, by omega, fun e' => by have := own_lt EW.own e'.symm; omega, by omega⟩
    refine wpAnyH_ready (rs := [10]) (by kernel_rfl) (by simp) ?_
    refine AllReadyH.cons (o := ⟨_, _, _, _, _, _⟩) rfl (fun K hK => ?_) AllReadyH.nil
    refine step_want rfl (wp_appE (.tmp 14) (.tmp 19) rfl (gl + 1) gl _ es ⟨sp4, n, cp4, L, S⟩ rfl E5 w4.heap.size 1 rfl A5 ok5 hap5 hlen (by omega) (fun v' w6 hE6 hG6 hl6 => ?_))
    obtain ⟨sq6, mq6, cq6, hv6e⟩ := hE6.slice
    obtain ⟨v6, hv6d⟩ : ∃ u, u = v' := ⟨_, rfl⟩
    subst hv6d
    subst hv6e
    have hs6 := hG6.size
    have AG6 := AG5.grown hG6 (fun e => hvg e.symm)
    have AS6 := AS5.grown hG6 (fun e => by have := own_lt EW.own e.symm; have := hASv; exact absurd e (hASv))
    have AR6 := AR5.grown hG6 hARv
    refine hK.out _ _ AS6 (fun hHeld => ?_)
    clear hK K
    try simp only [Act.put, List.setIfInBounds_toArray, List.set_cons_zero, List.set_cons_succ]
    refine wpAnyH_take (i := 11) (oi := ⟨_, _, _, _, _, _⟩) (v := ?_) rfl (by kernel_rfl) (by kernel_rfl) (by kernel_rfl) (fun _ _ _ h => h) (Or.inl ⟨by rfl, ?_⟩) (by assumption) ?_
    rotate_left
    · intro u hSw
      go_simp
      try (with_reducible rfl)
    try simp only [Act.put, List.setIfInBounds_toArray, List.set_cons_zero, List.set_cons_succ]
    refine wpAnyH_take (i := 12) (oi := ⟨_, _, _, _, _, _⟩) (v := ?_) rfl (by kernel_rfl) (by kernel_rfl) (by kernel_rfl) (fun _ _ _ h => h) (Or.inl ⟨by rfl, ?_⟩) (by assumption) ?_
    rotate_left
    · intro u hSw
      go_simp
      try (with_reducible rfl)
    try simp only [Act.put, List.setIfInBounds_toArray, List.set_cons_zero, List.set_cons_succ]
    refine wpAnyH_ready (rs := [13]) (by kernel_rfl) (by simp) ?_
    refine AllReadyH.cons (o := ⟨_, _, _, _, _, _⟩) rfl (fun K hK => ?_) AllReadyH.nil
    have cc := AG6.cell 1; have fc := AG6.frozen 1; simp at cc
    go_simp
    go_wp2_with fail
    have AS7 := AS6.setOther (a := ⟨gl, 1, none⟩) (.slice sq6 mq6 cq6) (by show w1.heap.size ≠ gl; omega)
    have AR7 := AR6.setOther (a := ⟨gl, 1, none⟩) (.slice sq6 mq6 cq6) (by show w.heap.size ≠ gl; omega)
    have AG7 := AG6.set 1 (.slice sq6 mq6 cq6)
    have G7 := gb_setCell (World.grownBy.refl w6 (some gl)) 1 (.slice sq6 mq6 cq6)
    have hv6 : (Value.slice sq6 mq6 cq6).ownBlock ≠ some gl := fun e => by have := own_ge hE6.own _ e; omega
    have E7 := hE6.grown G7 hv6
    have C7 : Chg (fun b => b = gl ∨ v.ownBlock = some b) w (w6.setCell ⟨gl, 1, none⟩ (.slice sq6 mq6 cq6)) := ((Chg.of_below (hBW.trans (U5.mono (by omega)))).grown hG6 (fun k hk e => Or.inr e)).setCell (.slice sq6 mq6 cq6) (fun _ => Or.inl rfl)
    have s7 : (w6.setCell ⟨gl, 1, none⟩ (.slice sq6 mq6 cq6)).heap.size = w6.heap.size := by simp [World.setCell]
    generalize w6.setCell ⟨gl, 1, none⟩ (.slice sq6 mq6 cq6) = N7 at *
    refine hK.out _ _ AS7 (fun hHeld => ?_)
    clear hK K
    try simp only [Act.put, List.setIfInBounds_toArray, List.set_cons_zero, List.set_cons_succ]
    refine wpAnyH_done (by kernel_rfl) ?_ _
    clear cc fc
    go_wp2_with (first | (refine ld24 (by rfl) (.tmp 5) (by rfl) w1.heap.size 0 (by rfl) S hS32 AS7.range ?_) | (refine st24 (by rfl) (.tmp 4) (.tmp 23) (by rfl) w.heap.size S Z32 (by rfl) (by rfl) hS32 Z32_len AR7 ?_))
    have Gr := gb_row N7 w.heap.size (h8 S)
    have hvn : (Value.slice sq6 mq6 cq6).ownBlock ≠ some w.heap.size := fun e => by rcases hl6 with h | h; exact absurd (hvo.out _ (h.symm.trans e)) (by omega); have := Option.some.inj (h.symm.trans e); omega
    have hbn : ∀ e ∈ es ++ [(⟨sp4, n, cp4, L, S⟩ : En)], ∀ b off, e.sp = some ⟨b, off, none⟩ → b ≠ w.heap.size := fun e he b off hs => by rcases List.mem_append.1 he with h | h; exact Nat.ne_of_lt (hold.out e h b off hs); simp at h; subst h; have := (hg4 b off hs).1; simp at this; omega
    have hpost : LSum gl v es L w (.returned (.agg (h8 S))) (N7.setRow w.heap.size (h8 S)) := by
      refine ⟨by rw [hSL.out], (.slice sq6 mq6 cq6), ⟨sp4, n, cp4, L, S⟩, by simpa using AG7.setRowOther (k := w.heap.size) (h8 S) (by omega), EO.other E7 Gr ⟨hvn, hbn⟩, rfl, hSL.out, fun b off e => by have := (hg4 b off e).1; simp at this; omega, ?_, ⟨C7.os, C7.tape, C7.output, by simpa using C7.size, fun b hb hs => (setRow_other N7 w.heap.size b (h8 S) (by omega)).trans (C7.block b hb hs)⟩⟩
      rcases hl6 with e | e
      · exact .inl e
      · exact .inr ⟨_, e, by omega⟩
    exact bodyPost_ret (v := .agg (h8 S)) (res24 Try.results21 rfl hS32 (AR7.setRow _)) rfl hpost
  · go_simp
    refine (clone_any sp n cap L _ W.drew BW).mono ?_
    rintro r w4 ⟨vb, rfl, hown4, hb4⟩
    have U4 : Below W.heap.size W w4 := ((Below.refl _ _).drew).trans (hb4.mono (by simp))
    have hob := hown4
    obtain ⟨sp4, cp4, rfl, hB4, hg4⟩ := own_bs hown4 hBt hns
    have hlt4 : ∀ b off, sp4 = some ⟨b, off, none⟩ → b < w4.heap.size := fun b off e => own_lt hob (by rw [e]; rfl)
    clear hob hown4
    go_wp2_with fail
    refine hK.out _ _ (AS.below U4 AS.lt) (fun hHeld => ?_)
    clear hK K
    try simp only [Act.put, List.setIfInBounds_toArray, List.set_cons_zero, List.set_cons_succ]
    have hsm4 := U4.size
    refine wpAnyH_take (i := 8) (oi := ⟨_, _, _, _, _, _⟩) rfl (by kernel_rfl) (by kernel_rfl) (by kernel_rfl) (fun _ _ _ h => h) (y_bd (by rfl) 54 #[(0, .tmp 16), (1, .tmp 17)] rfl (by rfl) (built54 sp4 n cp4 S hS32 L)) (by assumption) ?_
    try simp only [Act.put, List.setIfInBounds_toArray, List.set_cons_zero, List.set_cons_succ]
    refine wpAnyH_ready (rs := [4, 9]) (by kernel_rfl) (by simp) ?_
    refine AllReadyH.cons (o := ⟨_, _, _, _, _, _⟩) rfl (fun K hK => ?_) (AllReadyH.cons (o := ⟨_, _, _, _, _, _⟩) rfl (fun K hK => ?_) AllReadyH.nil)
    · have cc := (AG.below U4 AG.lt).cell 1
      simp at cc
      go_simp
      go_wp2_with fail
      refine hK.out _ _ (AS.below U4 AS.lt) (fun hHeld => ?_)
      clear hK K
      try simp only [Act.put, List.setIfInBounds_toArray, List.set_cons_zero, List.set_cons_succ]
      clear cc
      refine wpAnyH_ready (rs := [9]) (by kernel_rfl) (by simp) ?_
      refine AllReadyH.cons (o := ⟨_, _, _, _, _, _⟩) rfl (fun K hK => ?_) AllReadyH.nil
      refine step_want rfl (wp_bldE (.tmp 18) rfl ⟨sp4, n, cp4, L, S⟩ rfl hS32 ?_)
      have U5 := U4.alloc U4.size (.cells (En.arr ⟨sp4, n, cp4, L, S⟩) 54)
      have E5 := EW.below U5
      have A5 := Arr.new w4 54 (En.arr ⟨sp4, n, cp4, L, S⟩)
      have ok5 : EnOK (w4.alloc (.cells (En.arr ⟨sp4, n, cp4, L, S⟩) 54)).heap.size (w4.alloc (.cells (En.arr ⟨sp4, n, cp4, L, S⟩) 54)) ⟨sp4, n, cp4, L, S⟩ := ⟨(hB4.below (alloc_bel' w4 _)).mono (by simp), hS32⟩
      have AG5 := AG.below U5 AG.lt
      have AS5 := AS.below U5 AS.lt
      have AR5 := AR.below U5 AR.lt
      have hs5 : (w4.alloc (.cells (En.arr ⟨sp4, n, cp4, L, S⟩) 54)).heap.size = w4.heap.size + 1 := by simp
      refine hK.out _ _ AS5 (fun hHeld => ?_)
      clear hK K
      try simp only [Act.put, List.setIfInBounds_toArray, List.set_cons_zero, List.set_cons_succ]
      have hap5 : ∀ b off, sp4 = some ⟨b, off, none⟩ → gl + 1 ≤ b ∧ b < (w4.alloc (.cells (En.arr ⟨sp4, n, cp4, L, S⟩) 54)).heap.size ∧ some b ≠ v.ownBlock ∧ b ≠ gl := fun b off e => by have h1 := (hg4 b off e).1; have h2 := hlt4 b off e; simp at h1; exact ⟨by omega, by omega, fun e' => by have := own_lt EW.own e'.symm; omega, by omega⟩
      refine wpAnyH_ready (rs := [10]) (by kernel_rfl) (by simp) ?_
      refine AllReadyH.cons (o := ⟨_, _, _, _, _, _⟩) rfl (fun K hK => ?_) AllReadyH.nil
      refine step_want rfl (wp_appE (.tmp 14) (.tmp 19) rfl (gl + 1) gl _ es ⟨sp4, n, cp4, L, S⟩ rfl E5 w4.heap.size 1 rfl A5 ok5 hap5 hlen (by omega) (fun v' w6 hE6 hG6 hl6 => ?_))
      obtain ⟨sq6, mq6, cq6, hv6e⟩ := hE6.slice
      obtain ⟨v6, hv6d⟩ : ∃ u, u = v' := ⟨_, rfl⟩
      subst hv6d
      subst hv6e
      have hs6 := hG6.size
      have AG6 := AG5.grown hG6 (fun e => hvg e.symm)
      have AS6 := AS5.grown hG6 (fun e => by have := own_lt EW.own e.symm; have := hASv; exact absurd e (hASv))
      have AR6 := AR5.grown hG6 hARv
      refine hK.out _ _ AS6 (fun hHeld => ?_)
      clear hK K
      try simp only [Act.put, List.setIfInBounds_toArray, List.set_cons_zero, List.set_cons_succ]
      refine wpAnyH_take (i := 11) (oi := ⟨_, _, _, _, _, _⟩) (v := ?_) rfl (by kernel_rfl) (by kernel_rfl) (by kernel_rfl) (fun _ _ _ h => h) (Or.inl ⟨by rfl, ?_⟩) (by assumption) ?_
      rotate_left
      · intro u hSw
        go_simp
        try (with_reducible rfl)
      try simp only [Act.put, List.setIfInBounds_toArray, List.set_cons_zero, List.set_cons_succ]
      refine wpAnyH_take (i := 12) (oi := ⟨_, _, _, _, _, _⟩) (v := ?_) rfl (by kernel_rfl) (by kernel_rfl) (by kernel_rfl) (fun _ _ _ h => h) (Or.inl ⟨by rfl, ?_⟩) (by assumption) ?_
      rotate_left
      · intro u hSw
        go_simp
        try (with_reducible rfl)
      try simp only [Act.put, List.setIfInBounds_toArray, List.set_cons_zero, List.set_cons_succ]
      refine wpAnyH_ready (rs := [13]) (by kernel_rfl) (by simp) ?_
      refine AllReadyH.cons (o := ⟨_, _, _, _, _, _⟩) rfl (fun K hK => ?_) AllReadyH.nil
      have cc := AG6.cell 1; have fc := AG6.frozen 1; simp at cc
      go_simp
      go_wp2_with fail
      have AS7 := AS6.setOther (a := ⟨gl, 1, none⟩) (.slice sq6 mq6 cq6) (by show w1.heap.size ≠ gl; omega)
      have AR7 := AR6.setOther (a := ⟨gl, 1, none⟩) (.slice sq6 mq6 cq6) (by show w.heap.size ≠ gl; omega)
      have AG7 := AG6.set 1 (.slice sq6 mq6 cq6)
      have G7 := gb_setCell (World.grownBy.refl w6 (some gl)) 1 (.slice sq6 mq6 cq6)
      have hv6 : (Value.slice sq6 mq6 cq6).ownBlock ≠ some gl := fun e => by have := own_ge hE6.own _ e; omega
      have E7 := hE6.grown G7 hv6
      have C7 : Chg (fun b => b = gl ∨ v.ownBlock = some b) w (w6.setCell ⟨gl, 1, none⟩ (.slice sq6 mq6 cq6)) := ((Chg.of_below (hBW.trans (U5.mono (by omega)))).grown hG6 (fun k hk e => Or.inr e)).setCell (.slice sq6 mq6 cq6) (fun _ => Or.inl rfl)
      have s7 : (w6.setCell ⟨gl, 1, none⟩ (.slice sq6 mq6 cq6)).heap.size = w6.heap.size := by simp [World.setCell]
      generalize w6.setCell ⟨gl, 1, none⟩ (.slice sq6 mq6 cq6) = N7 at *
      refine hK.out _ _ AS7 (fun hHeld => ?_)
      clear hK K
      try simp only [Act.put, List.setIfInBounds_toArray, List.set_cons_zero, List.set_cons_succ]
      refine wpAnyH_done (by kernel_rfl) ?_ _
      clear cc fc
      go_wp2_with (first | (refine ld24 (by rfl) (.tmp 5) (by rfl) w1.heap.size 0 (by rfl) S hS32 AS7.range ?_) | (refine st24 (by rfl) (.tmp 4) (.tmp 23) (by rfl) w.heap.size S Z32 (by rfl) (by rfl) hS32 Z32_len AR7 ?_))
      have Gr := gb_row N7 w.heap.size (h8 S)
      have hvn : (Value.slice sq6 mq6 cq6).ownBlock ≠ some w.heap.size := fun e => by rcases hl6 with h | h; exact absurd (hvo.out _ (h.symm.trans e)) (by omega); have := Option.some.inj (h.symm.trans e); omega
      have hbn : ∀ e ∈ es ++ [(⟨sp4, n, cp4, L, S⟩ : En)], ∀ b off, e.sp = some ⟨b, off, none⟩ → b ≠ w.heap.size := fun e he b off hs => by rcases List.mem_append.1 he with h | h; exact Nat.ne_of_lt (hold.out e h b off hs); simp at h; subst h; have := (hg4 b off hs).1; simp at this; omega
      have hpost : LSum gl v es L w (.returned (.agg (h8 S))) (N7.setRow w.heap.size (h8 S)) := by
        refine ⟨by rw [hSL.out], (.slice sq6 mq6 cq6), ⟨sp4, n, cp4, L, S⟩, by simpa using AG7.setRowOther (k := w.heap.size) (h8 S) (by omega), EO.other E7 Gr ⟨hvn, hbn⟩, rfl, hSL.out, fun b off e => by have := (hg4 b off e).1; simp at this; omega, ?_, ⟨C7.os, C7.tape, C7.output, by simpa using C7.size, fun b hb hs => (setRow_other N7 w.heap.size b (h8 S) (by omega)).trans (C7.block b hb hs)⟩⟩
        rcases hl6 with e | e
        · exact .inl e
        · exact .inr ⟨_, e, by omega⟩
      exact bodyPost_ret (v := .agg (h8 S)) (res24 Try.results21 rfl hS32 (AR7.setRow _)) rfl hpost
    · refine step_want rfl (wp_bldE (.tmp 18) rfl ⟨sp4, n, cp4, L, S⟩ rfl hS32 ?_)
      have U5 := U4.alloc U4.size (.cells (En.arr ⟨sp4, n, cp4, L, S⟩) 54)
      have E5 := EW.below U5
      have A5 := Arr.new w4 54 (En.arr ⟨sp4, n, cp4, L, S⟩)
      have ok5 : EnOK (w4.alloc (.cells (En.arr ⟨sp4, n, cp4, L, S⟩) 54)).heap.size (w4.alloc (.cells (En.arr ⟨sp4, n, cp4, L, S⟩) 54)) ⟨sp4, n, cp4, L, S⟩ := ⟨(hB4.below (alloc_bel' w4 _)).mono (by simp), hS32⟩
      have AG5 := AG.below U5 AG.lt
      have AS5 := AS.below U5 AS.lt
      have AR5 := AR.below U5 AR.lt
      have hs5 : (w4.alloc (.cells (En.arr ⟨sp4, n, cp4, L, S⟩) 54)).heap.size = w4.heap.size + 1 := by simp
      refine hK.out _ _ AS5 (fun hHeld => ?_)
      clear hK K
      try simp only [Act.put, List.setIfInBounds_toArray, List.set_cons_zero, List.set_cons_succ]
      refine wpAnyH_ready (rs := [4]) (by kernel_rfl) (by simp) ?_
      refine AllReadyH.cons (o := ⟨_, _, _, _, _, _⟩) rfl (fun K hK => ?_) AllReadyH.nil
      have cc := (AG5).cell 1
      simp at cc
      go_simp
      go_wp2_with fail
      refine hK.out _ _ AS5 (fun hHeld => ?_)
      clear hK K
      try simp only [Act.put, List.setIfInBounds_toArray, List.set_cons_zero, List.set_cons_succ]
      clear cc
      have hap5 : ∀ b off, sp4 = some ⟨b, off, none⟩ → gl + 1 ≤ b ∧ b < (w4.alloc (.cells (En.arr ⟨sp4, n, cp4, L, S⟩) 54)).heap.size ∧ some b ≠ v.ownBlock ∧ b ≠ gl := fun b off e => by have h1 := (hg4 b off e).1; have h2 := hlt4 b off e; simp at h1; exact ⟨by omega, by omega, fun e' => by have := own_lt EW.own e'.symm; omega, by omega⟩
      refine wpAnyH_ready (rs := [10]) (by kernel_rfl) (by simp) ?_
      refine AllReadyH.cons (o := ⟨_, _, _, _, _, _⟩) rfl (fun K hK => ?_) AllReadyH.nil
      refine step_want rfl (wp_appE (.tmp 14) (.tmp 19) rfl (gl + 1) gl _ es ⟨sp4, n, cp4, L, S⟩ rfl E5 w4.heap.size 1 rfl A5 ok5 hap5 hlen (by omega) (fun v' w6 hE6 hG6 hl6 => ?_))
      obtain ⟨sq6, mq6, cq6, hv6e⟩ := hE6.slice
      obtain ⟨v6, hv6d⟩ : ∃ u, u = v' := ⟨_, rfl⟩
      subst hv6d
      subst hv6e
      have hs6 := hG6.size
      have AG6 := AG5.grown hG6 (fun e => hvg e.symm)
      have AS6 := AS5.grown hG6 (fun e => by have := own_lt EW.own e.symm; have := hASv; exact absurd e (hASv))
      have AR6 := AR5.grown hG6 hARv
      refine hK.out _ _ AS6 (fun hHeld => ?_)
      clear hK K
      try simp only [Act.put, List.setIfInBounds_toArray, List.set_cons_zero, List.set_cons_succ]
      refine wpAnyH_take (i := 11) (oi := ⟨_, _, _, _, _, _⟩) (v := ?_) rfl (by kernel_rfl) (by kernel_rfl) (by kernel_rfl) (fun _ _ _ h => h) (Or.inl ⟨by rfl, ?_⟩) (by assumption) ?_
      rotate_left
      · intro u hSw
        go_simp
        try (with_reducible rfl)
      try simp only [Act.put, List.setIfInBounds_toArray, List.set_cons_zero, List.set_cons_succ]
      refine wpAnyH_take (i := 12) (oi := ⟨_, _, _, _, _, _⟩) (v := ?_) rfl (by kernel_rfl) (by kernel_rfl) (by kernel_rfl) (fun _ _ _ h => h) (Or.inl ⟨by rfl, ?_⟩) (by assumption) ?_
      rotate_left
      · intro u hSw
        go_simp
        try (with_reducible rfl)
      try simp only [Act.put, List.setIfInBounds_toArray, List.set_cons_zero, List.set_cons_succ]
      refine wpAnyH_ready (rs := [13]) (by kernel_rfl) (by simp) ?_
      refine AllReadyH.cons (o := ⟨_, _, _, _, _, _⟩) rfl (fun K hK => ?_) AllReadyH.nil
      have cc := AG6.cell 1; have fc := AG6.frozen 1; simp at cc
      go_simp
      go_wp2_with fail
      have AS7 := AS6.setOther (a := ⟨gl, 1, none⟩) (.slice sq6 mq6 cq6) (by show w1.heap.size ≠ gl; omega)
      have AR7 := AR6.setOther (a := ⟨gl, 1, none⟩) (.slice sq6 mq6 cq6) (by show w.heap.size ≠ gl; omega)
      have AG7 := AG6.set 1 (.slice sq6 mq6 cq6)
      have G7 := gb_setCell (World.grownBy.refl w6 (some gl)) 1 (.slice sq6 mq6 cq6)
      have hv6 : (Value.slice sq6 mq6 cq6).ownBlock ≠ some gl := fun e => by have := own_ge hE6.own _ e; omega
      have E7 := hE6.grown G7 hv6
      have C7 : Chg (fun b => b = gl ∨ v.ownBlock = some b) w (w6.setCell ⟨gl, 1, none⟩ (.slice sq6 mq6 cq6)) := ((Chg.of_below (hBW.trans (U5.mono (by omega)))).grown hG6 (fun k hk e => Or.inr e)).setCell (.slice sq6 mq6 cq6) (fun _ => Or.inl rfl)
      have s7 : (w6.setCell ⟨gl, 1, none⟩ (.slice sq6 mq6 cq6)).heap.size = w6.heap.size := by simp [World.setCell]
      generalize w6.setCell ⟨gl, 1, none⟩ (.slice sq6 mq6 cq6) = N7 at *
      refine hK.out _ _ AS7 (fun hHeld => ?_)
      clear hK K
      try simp only [Act.put, List.setIfInBounds_toArray, List.set_cons_zero, List.set_cons_succ]
      refine wpAnyH_done (by kernel_rfl) ?_ _
      clear cc fc
      go_wp2_with (first | (refine ld24 (by rfl) (.tmp 5) (by rfl) w1.heap.size 0 (by rfl) S hS32 AS7.range ?_) | (refine st24 (by rfl) (.tmp 4) (.tmp 23) (by rfl) w.heap.size S Z32 (by rfl) (by rfl) hS32 Z32_len AR7 ?_))
      have Gr := gb_row N7 w.heap.size (h8 S)
      have hvn : (Value.slice sq6 mq6 cq6).ownBlock ≠ some w.heap.size := fun e => by rcases hl6 with h | h; exact absurd (hvo.out _ (h.symm.trans e)) (by omega); have := Option.some.inj (h.symm.trans e); omega
      have hbn : ∀ e ∈ es ++ [(⟨sp4, n, cp4, L, S⟩ : En)], ∀ b off, e.sp = some ⟨b, off, none⟩ → b ≠ w.heap.size := fun e he b off hs => by rcases List.mem_append.1 he with h | h; exact Nat.ne_of_lt (hold.out e h b off hs); simp at h; subst h; have := (hg4 b off hs).1; simp at this; omega
      have hpost : LSum gl v es L w (.returned (.agg (h8 S))) (N7.setRow w.heap.size (h8 S)) := by
        refine ⟨by rw [hSL.out], (.slice sq6 mq6 cq6), ⟨sp4, n, cp4, L, S⟩, by simpa using AG7.setRowOther (k := w.heap.size) (h8 S) (by omega), EO.other E7 Gr ⟨hvn, hbn⟩, rfl, hSL.out, fun b off e => by have := (hg4 b off e).1; simp at this; omega, ?_, ⟨C7.os, C7.tape, C7.output, by simpa using C7.size, fun b hb hs => (setRow_other N7 w.heap.size b (h8 S) (by omega)).trans (C7.block b hb hs)⟩⟩
        rcases hl6 with e | e
        · exact .inl e
        · exact .inr ⟨_, e, by omega⟩
      exact bodyPost_ret (v := .agg (h8 S)) (res24 Try.results21 rfl hS32 (AR7.setRow _)) rfl hpost
end Go.Proofs.Ytgjnbpimldjkpaa
