/- The law's own anchor. -/
import Derived.Test.YtlebojbfcolkhaaQh
import Derived.Test.YtlebojbfcolkhaaA37
import Derived.Test.YtlebojbfcolkhaaPk
import Derived.Test.YtlebojbfcolkhaaPi
namespace Go.Proofs.Ytlebojbfcolkhaa
open Go.RowKit
set_option maxRecDepth 100000
set_option linter.unusedVariables false
set_option linter.unusedSimpArgs false

theorem y_bd {ops : Array Oper} {S : World → Prop} {op : Oper} {a : Act} (hw : Region.wanted op (yielded ops a.tmps) = true) (t : TypeId) (parts : Array (Nat × Operand)) (ho : op.op = .build t parts) {ps : List (Nat × Value)} (hp : parts.toList.map (fun p => (p.1, a.eval p.2)) = ps) {C : Array Value} (hb : Try.prog.built t ps = some C) : YieldsIf Try.prog ops S op (.agg C) a :=
  .inl ⟨hw, fun w _ => by
    have e : (parts.map fun (i, x) => (i, a.eval x)).toList = ps := by rw [Array.toList_map]; exact hp
    unfold execOp
    simp only [ho, Sem.run_bind, run_build w t _ C (by rw [e]; exact hb), Result.andThen_ok, Sem.run_pure]⟩
theorem y24c {ops : Array Oper} {S : World → Prop} {op : Oper} {a : Act} (hw : Region.wanted op (yielded ops a.tmps) = true) (x : Operand) (ho : op.op = .load 24 x)
    (b off : Nat) (hx : a.eval x = .pointer (some ⟨b, off, none⟩)) (X : List Int) (hX : X.length = 32) (hS : ∀ w, S w → w.rangeAt b off (by8 X)) : YieldsIf Try.prog ops S op (.agg (h8 X)) a :=
  yieldsIf_load_mid hw 24 x ho b off hx (by8 X) _ hS Try.underlying24 rfl (by rw [by8_len, hX]; exact size24)
theorem built26z : Try.prog.built 26 [] = some (Ac.arr za) := by kernel_rfl
theorem built26o : Try.prog.built 26 [(0, .int .u64 1)] = some (Ac.arr oa) := by kernel_rfl
theorem zero30 : (Try.prog.info? 30).map (·.zero) = some (some (.agg (stA zs none 0 0))) := by kernel_rfl
theorem zeroValue30 (w : World) : (zeroValue 30).run Try.prog w = .ok (.agg (stA zs none 0 0)) w := by
  have h := zero30
  cases hq : Try.prog.info? 30 with
  | none => rw [hq] at h; cases h
  | some i =>
    rw [hq] at h
    have hz : i.zero = some (.agg (stA zs none 0 0)) := by simpa using h
    simp [zeroValue, typeInfo, hq, hz]
theorem cells_zs : (Value.agg (stA zs none 0 0)).cells = stA zs none 0 0 := rfl
theorem zss (N : Nat) (w : World) : SS N w zs none 0 0 [] := ⟨Hid.mk' zs_len, Hid.mk' zs_ok, OS.nil0 N w⟩
theorem zs_l32 : ∀ a ∈ zs, a.lk.length = 32 := fun a ha => (zs_ok a ha).l32
theorem known_zs (w : World) : Calls Try.prog 32 #[.agg (stA zs none 0 0)] w fun r w' => ∃ (g off cap : Nat) (e f : En), r = .returned (.tuple #[.slice (some ⟨g, off, none⟩) 96 cap, .int .i64 0]) ∧ 96 ≤ cap ∧ g < w'.heap.size ∧ w'.cell? ⟨g, off, none⟩ = some (.slice e.sp 49 e.cap) ∧ w'.rangeAt g (off + 95 * 33 + 1) (by8 (rtS zs [])) ∧ Below w.heap.size w w' := by
  refine (known6_any zs w.heap.size none 0 0 [] w (zss _ _)).mono ?_
  rintro r w' ⟨sp, n, cap, es, rfl, hE, hbs, hsm, hb⟩
  have hm : may zs ([] : List Ou).length = true := zs_may
  have hbs := hbs.out
  rw [if_pos hm] at hbs
  have hl : es.length = 96 := by
    have := congrArg List.length hbs
    rw [List.length_map, knB_len zs_len (by simp)] at this
    simpa using this
  have hn : n = 96 := hE.len.out.trans hl
  subst hn
  obtain ⟨g, off, rfl, hg, hR⟩ := hE.at0 (by omega)
  obtain ⟨e, he⟩ : ∃ e, es[0]? = some e := ⟨es[0]'(by omega), List.getElem?_eq_getElem _⟩
  obtain ⟨f, hf⟩ : ∃ e, es[95]? = some e := ⟨es[95]'(by omega), List.getElem?_eq_getElem _⟩
  have e1 : e.bs = 0 :: acb za := by
    have h : (es.map En.bs)[0]? = some e.bs := by simp [he]
    rw [hbs, kn_first] at h
    exact (Option.some.inj h).symm
  have f1 : f.bs = 1 :: (pr (tr 5 (al zs)) (tr 5 []) ++ cnt 0) := by
    have h : (es.map En.bs)[95]? = some f.bs := by simp [hf]
    rw [hbs, kn_last] at h
    exact (Option.some.inj h).symm
  have f2 : f.sm = rtS zs [] := by rw [hsm.out f (List.mem_of_getElem? hf), f1]; rfl
  have en : e.n = 49 := by rw [(hE.ok e (List.mem_of_getElem? he)).body.len.out, e1, List.length_cons, acb_len za_ok]
  have he0 : rtE zs [] = 0 := by unfold rtE; rw [if_pos hm]
  refine ⟨g, off, cap, e, f, by rw [he0], hE.le, hg, ?_, ?_, hb⟩
  · have := range_c0 (hR 0 e he)
    rw [en] at this
    simpa using this
  · rw [← f2]
    exact range_sm (hR 95 f hf)
theorem root_zs (w : World) : Calls Try.prog 11 #[.agg (stA zs none 0 0)] w fun e w' => e = .returned (.tuple #[.agg (h8 (rtS zs [])), .int .i64 0]) ∧ Below w.heap.size w w' := root_ok zs w.heap.size none 0 0 [] w (zss _ _) zs_may
theorem prove_zs (w : World) : Calls Try.prog 17 #[.agg (stA zs none 0 0), .int .i64 3] w fun r w' => ∃ sp cap, r = .returned (.tuple #[.agg (wtA sp 5 cap (tr 5 []) 0), .int .i64 0]) ∧ WT w'.heap.size w' sp 5 cap (pf 5 (al zs) 3) (tr 5 []) 0 ∧ Below w.heap.size w w' := by
  refine (prove_ok zs w.heap.size none 0 0 [] 3 w (zss _ _) zs_may (by omega)).mono ?_
  rintro r w' ⟨sp, cap, rfl, hH, -, hb⟩
  exact ⟨sp, cap, rfl, ⟨hH, tr5_len (fun x h => by cases h), by omega, by omega⟩, hb⟩
set_option maxHeartbeats 4000000 in
theorem anchored_gen (Zs : List Ac) (RR EE : List Int) (LS : List (List Int)) (Az Ao : Ac) (hz : ∀ w, (zeroValue 30).run Try.prog w = .ok (.agg (stA Zs none 0 0)) w) (hlen : Zs.length = 32) (hl32 : ∀ a ∈ Zs, a.lk.length = 32) (hR32 : RR.length = 32) (hE32 : EE.length = 32) (hb0 : Try.prog.built 26 [] = some Az.arr) (hbo : Try.prog.built 26 [(0, .int .u64 1)] = some Ao.arr)
    (hk : ∀ w, Calls Try.prog 32 #[.agg (stA Zs none 0 0)] w fun r w' => ∃ (g off cap : Nat) (e f : En), r = .returned (.tuple #[.slice (some ⟨g, off, none⟩) 96 cap, .int .i64 0]) ∧ 96 ≤ cap ∧ g < w'.heap.size ∧ w'.cell? ⟨g, off, none⟩ = some (.slice e.sp 49 e.cap) ∧ w'.rangeAt g (off + 95 * 33 + 1) (by8 RR) ∧ Below w.heap.size w w')
    (hr : ∀ w, Calls Try.prog 11 #[.agg (stA Zs none 0 0)] w fun e w' => e = .returned (.tuple #[.agg (h8 RR), .int .i64 0]) ∧ Below w.heap.size w w')
    (hp : ∀ w, Calls Try.prog 17 #[.agg (stA Zs none 0 0), .int .i64 3] w fun r w' => ∃ sp cap, r = .returned (.tuple #[.agg (wtA sp 5 cap EE 0), .int .i64 0]) ∧ WT w'.heap.size w' sp 5 cap LS EE 0 ∧ Below w.heap.size w w')
    (hc1 : ∀ N sp cap w, WT N w sp 5 cap LS EE 0 → Calls Try.prog 23 #[.agg (h8 RR), .int .i64 3, .agg Az.arr, .agg (wtA sp 5 cap EE 0)] w fun e w' => e = .returned (.bool true) ∧ Below w.heap.size w w')
    (hc2 : ∀ N sp cap w, WT N w sp 5 cap LS EE 0 → Calls Try.prog 23 #[.agg (h8 RR), .int .i64 3, .agg Ao.arr, .agg (wtA sp 5 cap EE 0)] w fun e w' => e = .returned (.bool false) ∧ Below w.heap.size w w') (w : World) :
    Calls Try.prog 22 #[] w fun e w' => e = .returned (.bool true) ∧ Below w.heap.size w w' := by
  have hcz : (Value.agg (stA Zs none 0 0)).cells = stA Zs none 0 0 := rfl
  replace hk := Hid.mk' hk
  replace hr := Hid.mk' hr
  replace hp := Hid.mk' hp
  replace hc1 := Hid.mk' hc1
  replace hc2 := Hid.mk' hc2
  replace hb0 := Hid.mk' hb0
  replace hbo := Hid.mk' hbo
  have A0 := Arr.new w 30 (stA Zs none 0 0)
  have B0 := alloc_bel' w (.cells (stA Zs none 0 0) 30)
  go_enter Try.func22, Try.ntmps22
  go_upto_region 3 with (first
    | (refine ld30 (by rfl) _ (by rfl) w.heap.size 30 (by rfl) Zs none 0 0 hlen hl32 A0 ?_)
    | (go_at_call 32; go_must (refine (hk.out _).mono ?_; rintro r w1 ⟨g, off, cap, e, f, rfl, hcap, hg1, k1, r1, hb1⟩)))
  have A1 := A0.below hb1 A0.lt
  have B1 := B0.trans (hb1.mono (by simp))
  clear hz hcz
  go_upto_region 4 with (first
    | (refine ld30 (by rfl) _ (by rfl) w.heap.size 30 (by rfl) Zs none 0 0 hlen hl32 A1 ?_)
    | (go_at_call 11; go_must (refine (hr.out _).mono ?_; rintro r w2 ⟨rfl, hb2⟩))
    | (refine st24n (by rfl) _ _ (by rfl) w2 w2.heap.size rfl (by rfl) _ (by rfl) (by rfl) hR32 ?_))
  have A2 := (A1.below hb2 A1.lt).alloc (.cells (h8 (RR)) 24)
  have B2 := B1.trans (hb2.mono B1.size)
  have R2 := Arr.new w2 24 (h8 (RR))
  have B2' := B2.alloc B2.size (.cells (h8 (RR)) 24)
  have b12 : Below w1.heap.size w1 (w2.alloc (.cells (h8 (RR)) 24)) := hb2.alloc hb2.size _
  generalize w2.alloc (.cells (h8 (RR)) 24) = W2 at *
  go_upto_region 5 with (first
    | (refine ld30 (by rfl) _ (by rfl) w.heap.size 30 (by rfl) Zs none 0 0 hlen hl32 A2 ?_)
    | (go_at_call 17; go_must (refine (hp.out _).mono ?_; rintro r w3 ⟨s3, c3, rfl, hW3, hb3⟩))
    | (refine st44n (by rfl) _ _ (by rfl) w3 w3.heap.size rfl (by rfl) s3 5 c3 _ _ (by rfl) (by rfl) hE32 ?_))
  have AR := (R2.below hb3 R2.lt).alloc (.cells (wtA s3 5 c3 (EE) 0) 44)
  have AW := Arr.new w3 44 (wtA s3 5 c3 (EE) 0)
  have B3 := B2'.trans (hb3.mono B2'.size)
  have B3' := B3.alloc B3.size (.cells (wtA s3 5 c3 (EE) 0) 44)
  have b13 := (b12.trans (hb3.mono b12.size)).alloc (Nat.le_trans b12.size hb3.size) (.cells (wtA s3 5 c3 (EE) 0) 44)
  have hWW := (hW3.below (alloc_bel' w3 (.cells (wtA s3 5 c3 (EE) 0) 44))).mono (show w3.heap.size ≤ (w3.alloc (.cells (wtA s3 5 c3 (EE) 0) 44)).heap.size by simp)
  generalize w3.alloc (.cells (wtA s3 5 c3 (EE) 0) 44) = W at *
  have k0 := (b13.cell (p := ⟨g, off, none⟩) hg1).trans k1
  have r95 := range_below r1 b13 hg1
  have hgl : g < W.heap.size := Nat.lt_of_lt_of_le hg1 b13.size
  obtain ⟨gr, hgr⟩ : ∃ gr, gr = w2.heap.size := ⟨_, rfl⟩
  obtain ⟨gw, hgw⟩ : ∃ gw, gw = w3.heap.size := ⟨_, rfl⟩
  rw [← hgr] at AR ⊢
  rw [← hgw] at AW ⊢
  have heq := run_eq24 hR32 hR32
  rw [decide_eq_true rfl] at heq
  have hC1 := Hid.mk' (hc1.out _ s3 c3 W.drew (hWW.below (Below.refl _ _).drew))
  have hC2 := Hid.mk' (fun u (hu : Below W.heap.size W u) => hc2.out _ s3 c3 u (hWW.below hu))
  clear hgr hgw hWW hW3 r1 k1 hc1 hc2 hk hr hp
  replace hb0 := hb0.out
  replace hbo := hbo.out
  refine wp_region_held_drew (S := fun u => Below W.heap.size W u) (by kernel_rfl) ((Below.refl _ _).drew) (fun hHeld => ?_)
  refine wpAnyH_take (i := 0) (oi := ⟨_, _, _, _, _, _⟩) (v := ?_) rfl (by kernel_rfl) (by kernel_rfl) (by kernel_rfl) (fun _ _ _ h => h) (Or.inl ⟨by rfl, ?_⟩) (by assumption) ?_
  rotate_left
  · intro u hSw
    go_simp
    try (with_reducible rfl)
  try simp only [Act.put, List.setIfInBounds_toArray, List.set_cons_zero, List.set_cons_succ]
  refine wpAnyH_take (i := 1) (oi := ⟨_, _, _, _, _, _⟩) (v := ?_) rfl (by kernel_rfl) (by kernel_rfl) (by kernel_rfl) (fun _ _ _ h => h) (Or.inl ⟨by rfl, ?_⟩) (by assumption) ?_
  rotate_left
  · intro u hSw
    go_simp
    try (with_reducible rfl)
  try simp only [Act.put, List.setIfInBounds_toArray, List.set_cons_zero, List.set_cons_succ]
  refine wpAnyH_take (i := 2) (oi := ⟨_, _, _, _, _, _⟩) (v := ?_) rfl (by kernel_rfl) (by kernel_rfl) (by kernel_rfl) (fun _ _ _ h => h) (Or.inl ⟨by rfl, ?_⟩) (by assumption) ?_
  rotate_left
  · intro u hSw
    go_simp
    try (with_reducible rfl)
  try simp only [Act.put, List.setIfInBounds_toArray, List.set_cons_zero, List.set_cons_succ]
  refine wpAnyH_take (i := 3) (oi := ⟨_, _, _, _, _, _⟩) (v := ?_) rfl (by kernel_rfl) (by kernel_rfl) (by kernel_rfl) (fun _ _ _ h => h) (Or.inl ⟨by rfl, ?_⟩) (by assumption) ?_
  rotate_left
  · intro u hSw
    go_simp
    try (with_reducible rfl)
  try simp only [Act.put, List.setIfInBounds_toArray, List.set_cons_zero, List.set_cons_succ]
  refine wpAnyH_take (i := 4) (oi := ⟨_, _, _, _, _, _⟩) (v := ?_) rfl (by kernel_rfl) (by kernel_rfl) (by kernel_rfl) (fun _ _ _ h => h) (Or.inl ⟨by rfl, ?_⟩) (by assumption) ?_
  rotate_left
  · intro u hSw
    go_simp
    try (with_reducible rfl)
  try simp only [Act.put, List.setIfInBounds_toArray, List.set_cons_zero, List.set_cons_succ]
  refine wpAnyH_take (i := 5) (oi := ⟨_, _, _, _, _, _⟩) (v := ?_) rfl (by kernel_rfl) (by kernel_rfl) (by kernel_rfl) (fun _ _ _ h => h) (Or.inl ⟨by rfl, ?_⟩) (by assumption) ?_
  rotate_left
  · intro u hSw
    go_simp
    try (with_reducible rfl)
  try simp only [Act.put, List.setIfInBounds_toArray, List.set_cons_zero, List.set_cons_succ]
  refine wpAnyH_take (i := 6) (oi := ⟨_, _, _, _, _, _⟩) (v := ?_) rfl (by kernel_rfl) (by kernel_rfl) (by kernel_rfl) (fun _ _ _ h => h) (Or.inl ⟨by rfl, ?_⟩) (by assumption) ?_
  rotate_left
  · intro u hSw
    go_simp
    try (with_reducible rfl)
  try simp only [Act.put, List.setIfInBounds_toArray, List.set_cons_zero, List.set_cons_succ]
  refine wpAnyH_take (i := 7) (oi := ⟨_, _, _, _, _, _⟩) (v := ?_) rfl (by kernel_rfl) (by kernel_rfl) (by kernel_rfl) (fun _ _ _ h => h) (Or.inl ⟨by rfl, ?_⟩) (by assumption) ?_
  rotate_left
  · intro u hSw
    go_simp
    try (with_reducible rfl)
  try simp only [Act.put, List.setIfInBounds_toArray, List.set_cons_zero, List.set_cons_succ]
  refine wpAnyH_take (i := 8) (oi := ⟨_, _, _, _, _, _⟩) (v := ?_) rfl (by kernel_rfl) (by kernel_rfl) (by kernel_rfl) (fun _ _ _ h => h) (Or.inl ⟨by rfl, ?_⟩) (by assumption) ?_
  rotate_left
  · intro u hSw
    go_simp
    try (with_reducible rfl)
  try simp only [Act.put, List.setIfInBounds_toArray, List.set_cons_zero, List.set_cons_succ]
  refine wpAnyH_take (i := 9) (oi := ⟨_, _, _, _, _, _⟩) (v := ?_) rfl (by kernel_rfl) (by kernel_rfl) (by kernel_rfl) (fun _ _ _ h => h) (Or.inl ⟨by rfl, ?_⟩) (by assumption) ?_
  rotate_left
  · intro u hSw
    go_simp
    try (with_reducible rfl)
  try simp only [Act.put, List.setIfInBounds_toArray, List.set_cons_zero, List.set_cons_succ]
  refine wpAnyH_take (i := 10) (oi := ⟨_, _, _, _, _, _⟩) (v := ?_) rfl (by kernel_rfl) (by kernel_rfl) (by kernel_rfl) (fun _ _ _ h => h) (Or.inl ⟨by rfl, ?_⟩) (by assumption) ?_
  rotate_left
  · intro u hSw
    go_simp
    try (with_reducible rfl)
  try simp only [Act.put, List.setIfInBounds_toArray, List.set_cons_zero, List.set_cons_succ]
  refine wpAnyH_take (i := 11) (oi := ⟨_, _, _, _, _, _⟩) (v := ?_) rfl (by kernel_rfl) (by kernel_rfl) (by kernel_rfl) (fun _ _ _ h => h) (Or.inl ⟨by rfl, ?_⟩) (by assumption) ?_
  rotate_left
  · intro u hSw
    go_simp
    try (with_reducible rfl)
  try simp only [Act.put, List.setIfInBounds_toArray, List.set_cons_zero, List.set_cons_succ]
  refine wpAnyH_take (i := 12) (oi := ⟨_, _, _, _, _, _⟩) (v := ?_) rfl (by kernel_rfl) (by kernel_rfl) (by kernel_rfl) (fun _ _ _ h => h) (Or.inl ⟨by rfl, ?_⟩) (by assumption) ?_
  rotate_left
  · intro u hSw
    go_simp
    try (with_reducible rfl)
  try simp only [Act.put, List.setIfInBounds_toArray, List.set_cons_zero, List.set_cons_succ]
  refine wpAnyH_take (i := 13) (oi := ⟨_, _, _, _, _, _⟩) (v := ?_) rfl (by kernel_rfl) (by kernel_rfl) (by kernel_rfl) (fun _ _ _ h => h) (Or.inl ⟨by rfl, ?_⟩) (by assumption) ?_
  rotate_left
  · intro u hSw
    go_simp
    try (with_reducible rfl)
  try simp only [Act.put, List.setIfInBounds_toArray, List.set_cons_zero, List.set_cons_succ]
  refine wpAnyH_take (i := 14) (oi := ⟨_, _, _, _, _, _⟩) (v := ?_) rfl (by kernel_rfl) (by kernel_rfl) (by kernel_rfl) (fun _ _ _ h => h) (Or.inl ⟨by rfl, ?_⟩) (by assumption) ?_
  rotate_left
  · intro u hSw
    go_simp
    try (with_reducible rfl)
  try simp only [Act.put, List.setIfInBounds_toArray, List.set_cons_zero, List.set_cons_succ]
  refine wpAnyH_take (i := 15) (oi := ⟨_, _, _, _, _, _⟩) (v := ?_) rfl (by kernel_rfl) (by kernel_rfl) (by kernel_rfl) (fun _ _ _ h => h) (Or.inl ⟨by rfl, ?_⟩) (by assumption) ?_
  rotate_left
  · intro u hSw
    go_simp
    try (with_reducible rfl)
  try simp only [Act.put, List.setIfInBounds_toArray, List.set_cons_zero, List.set_cons_succ]
  refine wpAnyH_take (i := 16) (oi := ⟨_, _, _, _, _, _⟩) (v := ?_) rfl (by kernel_rfl) (by kernel_rfl) (by kernel_rfl) (fun _ _ _ h => h) (Or.inl ⟨by rfl, ?_⟩) (by assumption) ?_
  rotate_left
  · intro u hSw
    go_simp
    try (with_reducible rfl)
  try simp only [Act.put, List.setIfInBounds_toArray, List.set_cons_zero, List.set_cons_succ]
  refine wpAnyH_take (i := 17) (oi := ⟨_, _, _, _, _, _⟩) (v := ?_) rfl (by kernel_rfl) (by kernel_rfl) (by kernel_rfl) (fun _ _ _ h => h) (Or.inl ⟨by rfl, ?_⟩) (by assumption) ?_
  rotate_left
  · intro u hSw
    go_simp
    try (with_reducible rfl)
  try simp only [Act.put, List.setIfInBounds_toArray, List.set_cons_zero, List.set_cons_succ]
  refine wpAnyH_take (i := 18) (oi := ⟨_, _, _, _, _, _⟩) (v := ?_) rfl (by kernel_rfl) (by kernel_rfl) (by kernel_rfl) (fun _ _ _ h => h) (Or.inl ⟨by rfl, ?_⟩) (by assumption) ?_
  rotate_left
  · intro u hSw
    go_simp
    try (with_reducible rfl)
  try simp only [Act.put, List.setIfInBounds_toArray, List.set_cons_zero, List.set_cons_succ]
  refine wpAnyH_take (i := 19) (oi := ⟨_, _, _, _, _, _⟩) (v := ?_) rfl (by kernel_rfl) (by kernel_rfl) (by kernel_rfl) (fun _ _ _ h => h) (Or.inl ⟨by rfl, ?_⟩) (by assumption) ?_
  rotate_left
  · intro u hSw
    have cc := (hSw.cell (p := ⟨g, off, none⟩) hgl).trans k0
    go_simp
    try (with_reducible rfl)
  try simp only [Act.put, List.setIfInBounds_toArray, List.set_cons_zero, List.set_cons_succ]
  refine wpAnyH_take (i := 20) (oi := ⟨_, _, _, _, _, _⟩) (v := ?_) rfl (by kernel_rfl) (by kernel_rfl) (by kernel_rfl) (fun _ _ _ h => h) (Or.inl ⟨by rfl, ?_⟩) (by assumption) ?_
  rotate_left
  · intro u hSw
    go_simp
    try (with_reducible rfl)
  try simp only [Act.put, List.setIfInBounds_toArray, List.set_cons_zero, List.set_cons_succ]
  refine wpAnyH_take (i := 21) (oi := ⟨_, _, _, _, _, _⟩) (v := ?_) rfl (by kernel_rfl) (by kernel_rfl) (by kernel_rfl) (fun _ _ _ h => h) (Or.inl ⟨by rfl, ?_⟩) (by assumption) ?_
  rotate_left
  · intro u hSw
    go_simp
    try (with_reducible rfl)
  try simp only [Act.put, List.setIfInBounds_toArray, List.set_cons_zero, List.set_cons_succ]
  refine wpAnyH_take (i := 22) (oi := ⟨_, _, _, _, _, _⟩) (v := ?_) rfl (by kernel_rfl) (by kernel_rfl) (by kernel_rfl) (fun _ _ _ h => h) (Or.inl ⟨by rfl, ?_⟩) (by assumption) ?_
  rotate_left
  · intro u hSw
    go_simp
    try (with_reducible rfl)
  try simp only [Act.put, List.setIfInBounds_toArray, List.set_cons_zero, List.set_cons_succ]
  refine wpAnyH_take (i := 23) (oi := ⟨_, _, _, _, _, _⟩) (v := ?_) rfl (by kernel_rfl) (by kernel_rfl) (by kernel_rfl) (fun _ _ _ h => h) (Or.inl ⟨by rfl, ?_⟩) (by assumption) ?_
  rotate_left
  · intro u hSw
    go_simp
    try (with_reducible rfl)
  try simp only [Act.put, List.setIfInBounds_toArray, List.set_cons_zero, List.set_cons_succ]
  refine wpAnyH_take (i := 24) (oi := ⟨_, _, _, _, _, _⟩) (v := ?_) rfl (by kernel_rfl) (by kernel_rfl) (by kernel_rfl) (fun _ _ _ h => h) (Or.inl ⟨by rfl, ?_⟩) (by assumption) ?_
  rotate_left
  · intro u hSw
    go_simp
    try (with_reducible rfl)
  try simp only [Act.put, List.setIfInBounds_toArray, List.set_cons_zero, List.set_cons_succ]
  refine wpAnyH_take (i := 25) (oi := ⟨_, _, _, _, _, _⟩) (v := ?_) rfl (by kernel_rfl) (by kernel_rfl) (by kernel_rfl) (fun _ _ _ h => h) (Or.inl ⟨by rfl, ?_⟩) (by assumption) ?_
  rotate_left
  · intro u hSw
    go_simp
    try (with_reducible rfl)
  try simp only [Act.put, List.setIfInBounds_toArray, List.set_cons_zero, List.set_cons_succ]
  refine wpAnyH_take (i := 26) (oi := ⟨_, _, _, _, _, _⟩) (v := ?_) rfl (by kernel_rfl) (by kernel_rfl) (by kernel_rfl) (fun _ _ _ h => h) (Or.inl ⟨by rfl, ?_⟩) (by assumption) ?_
  rotate_left
  · intro u hSw
    go_simp
    try (with_reducible rfl)
  try simp only [Act.put, List.setIfInBounds_toArray, List.set_cons_zero, List.set_cons_succ]
  refine wpAnyH_take (i := 27) (oi := ⟨_, _, _, _, _, _⟩) rfl (by kernel_rfl) (by kernel_rfl) (by kernel_rfl) (fun _ _ _ h => h) (y24c (by rfl) (.tmp 49) rfl g (off + 95 * 33 + 1) rfl (RR) hR32 (fun u hu => range_below r95 hu hgl)) (by assumption) ?_
  try simp only [Act.put, List.setIfInBounds_toArray, List.set_cons_zero, List.set_cons_succ]
  refine wpAnyH_take (i := 28) (oi := ⟨_, _, _, _, _, _⟩) rfl (by kernel_rfl) (by kernel_rfl) (by kernel_rfl) (fun _ _ _ h => h) (y24c (by rfl) (.tmp 4) rfl gr 0 rfl (RR) hR32 (fun u hu => range_below AR.range hu AR.lt)) (by assumption) ?_
  try simp only [Act.put, List.setIfInBounds_toArray, List.set_cons_zero, List.set_cons_succ]
  refine wpAnyH_take (i := 29) (oi := ⟨_, _, _, _, _, _⟩) (v := ?_) rfl (by kernel_rfl) (by kernel_rfl) (by kernel_rfl) (fun _ _ _ h => h) (Or.inl ⟨by rfl, ?_⟩) (by assumption) ?_
  rotate_left
  · intro u hSw
    go_simp
    try (with_reducible rfl)
  try simp only [Act.put, List.setIfInBounds_toArray, List.set_cons_zero, List.set_cons_succ]
  refine wpAnyH_take (i := 30) (oi := ⟨_, _, _, _, _, _⟩) (v := ?_) rfl (by kernel_rfl) (by kernel_rfl) (by kernel_rfl) (fun _ _ _ h => h) (Or.inl ⟨by rfl, ?_⟩) (by assumption) ?_
  rotate_left
  · intro u hSw
    go_simp
    try (with_reducible rfl)
  try simp only [Act.put, List.setIfInBounds_toArray, List.set_cons_zero, List.set_cons_succ]
  refine wpAnyH_take (i := 31) (oi := ⟨_, _, _, _, _, _⟩) (v := ?_) rfl (by kernel_rfl) (by kernel_rfl) (by kernel_rfl) (fun _ _ _ h => h) (Or.inl ⟨by rfl, ?_⟩) (by assumption) ?_
  rotate_left
  · intro u hSw
    go_simp
    try (with_reducible rfl)
  try simp only [Act.put, List.setIfInBounds_toArray, List.set_cons_zero, List.set_cons_succ]
  refine wpAnyH_take (i := 32) (oi := ⟨_, _, _, _, _, _⟩) rfl (by kernel_rfl) (by kernel_rfl) (by kernel_rfl) (fun _ _ _ h => h) (y24c (by rfl) (.tmp 4) rfl gr 0 rfl (RR) hR32 (fun u hu => range_below AR.range hu AR.lt)) (by assumption) ?_
  try simp only [Act.put, List.setIfInBounds_toArray, List.set_cons_zero, List.set_cons_succ]
  refine wpAnyH_take (i := 33) (oi := ⟨_, _, _, _, _, _⟩) rfl (by kernel_rfl) (by kernel_rfl) (by kernel_rfl) (fun _ _ _ h => h) (y_bd (by rfl) 26 #[] rfl (ps := []) rfl hb0) (by assumption) ?_
  try simp only [Act.put, List.setIfInBounds_toArray, List.set_cons_zero, List.set_cons_succ]
  refine wpAnyH_take (i := 34) (oi := ⟨_, _, _, _, _, _⟩) rfl (by kernel_rfl) (by kernel_rfl) (by kernel_rfl) (fun _ _ _ h => h) (y44 (by rfl) (.tmp 6) rfl gw 0 rfl s3 5 c3 (EE) 0 hE32 (fun u hu => range_below AW.wt hu AW.lt)) (by assumption) ?_
  try simp only [Act.put, List.setIfInBounds_toArray, List.set_cons_zero, List.set_cons_succ]
  refine wpAnyH_ready (rs := [35]) (by kernel_rfl) (by simp) ?_
  refine AllReadyH.cons (o := ⟨_, _, _, _, _, _⟩) rfl (fun K hK => ?_) AllReadyH.nil
  go_simp
  refine hC1.out.mono ?_; rintro e u1 ⟨rfl, hb1⟩; have B1 := (Below.refl W.heap.size W).drew.trans (hb1.mono (by simp))
  go_wp2_with fail
  refine hK.out _ _ B1 (fun hHeld => ?_)
  clear hK K
  try simp only [Act.put, List.setIfInBounds_toArray, List.set_cons_zero, List.set_cons_succ]
  refine wpAnyH_take (i := 36) (oi := ⟨_, _, _, _, _, _⟩) (v := ?_) rfl (by kernel_rfl) (by kernel_rfl) (by kernel_rfl) (fun _ _ _ h => h) (Or.inl ⟨by rfl, ?_⟩) (by assumption) ?_
  rotate_left
  · intro u hSw
    go_simp
    try (with_reducible rfl)
  try simp only [Act.put, List.setIfInBounds_toArray, List.set_cons_zero, List.set_cons_succ]
  refine wpAnyH_take (i := 37) (oi := ⟨_, _, _, _, _, _⟩) (v := ?_) rfl (by kernel_rfl) (by kernel_rfl) (by kernel_rfl) (fun _ _ _ h => h) (Or.inl ⟨by rfl, ?_⟩) (by assumption) ?_
  rotate_left
  · intro u hSw
    go_simp
    try (with_reducible rfl)
  try simp only [Act.put, List.setIfInBounds_toArray, List.set_cons_zero, List.set_cons_succ]
  refine wpAnyH_take (i := 38) (oi := ⟨_, _, _, _, _, _⟩) rfl (by kernel_rfl) (by kernel_rfl) (by kernel_rfl) (fun _ _ _ h => h) (y24c (by rfl) (.tmp 4) rfl gr 0 rfl (RR) hR32 (fun u hu => range_below AR.range hu AR.lt)) (by assumption) ?_
  try simp only [Act.put, List.setIfInBounds_toArray, List.set_cons_zero, List.set_cons_succ]
  refine wpAnyH_take (i := 39) (oi := ⟨_, _, _, _, _, _⟩) rfl (by kernel_rfl) (by kernel_rfl) (by kernel_rfl) (fun _ _ _ h => h) (y_bd (by rfl) 26 #[(0, .const (.int .u64 1))] rfl (ps := [(0, .int .u64 1)]) rfl hbo) (by assumption) ?_
  try simp only [Act.put, List.setIfInBounds_toArray, List.set_cons_zero, List.set_cons_succ]
  refine wpAnyH_take (i := 40) (oi := ⟨_, _, _, _, _, _⟩) rfl (by kernel_rfl) (by kernel_rfl) (by kernel_rfl) (fun _ _ _ h => h) (y44 (by rfl) (.tmp 6) rfl gw 0 rfl s3 5 c3 (EE) 0 hE32 (fun u hu => range_below AW.wt hu AW.lt)) (by assumption) ?_
  try simp only [Act.put, List.setIfInBounds_toArray, List.set_cons_zero, List.set_cons_succ]
  refine wpAnyH_ready (rs := [41]) (by kernel_rfl) (by simp) ?_
  refine AllReadyH.cons (o := ⟨_, _, _, _, _, _⟩) rfl (fun K hK => ?_) AllReadyH.nil
  go_simp
  refine (hC2.out u1 B1).mono ?_; rintro e u2 ⟨rfl, hb2⟩; have B2 := B1.trans (hb2.mono B1.size)
  go_wp2_with fail
  refine hK.out _ _ B2 (fun hHeld => ?_)
  clear hK K
  try simp only [Act.put, List.setIfInBounds_toArray, List.set_cons_zero, List.set_cons_succ]
  refine wpAnyH_take (i := 42) (oi := ⟨_, _, _, _, _, _⟩) (v := ?_) rfl (by kernel_rfl) (by kernel_rfl) (by kernel_rfl) (fun _ _ _ h => h) (Or.inl ⟨by rfl, ?_⟩) (by assumption) ?_
  rotate_left
  · intro u hSw
    go_simp
    try (with_reducible rfl)
  try simp only [Act.put, List.setIfInBounds_toArray, List.set_cons_zero, List.set_cons_succ]
  refine wpAnyH_take (i := 43) (oi := ⟨_, _, _, _, _, _⟩) (v := ?_) rfl (by kernel_rfl) (by kernel_rfl) (by kernel_rfl) (fun _ _ _ h => h) (Or.inl ⟨by rfl, ?_⟩) (by assumption) ?_
  rotate_left
  · intro u hSw
    go_simp
    try (with_reducible rfl)
  try simp only [Act.put, List.setIfInBounds_toArray, List.set_cons_zero, List.set_cons_succ]
  refine wpAnyH_take (i := 44) (oi := ⟨_, _, _, _, _, _⟩) (v := ?_) rfl (by kernel_rfl) (by kernel_rfl) (by kernel_rfl) (fun _ _ _ h => h) (Or.inl ⟨by rfl, ?_⟩) (by assumption) ?_
  rotate_left
  · intro u hSw
    go_simp
    try (with_reducible rfl)
  try simp only [Act.put, List.setIfInBounds_toArray, List.set_cons_zero, List.set_cons_succ]
  refine wpAnyH_done (by kernel_rfl) ?_ _

  go_wp2_with fail
  go_ret
  exact ⟨rfl, B3'.trans (B2.mono B3'.size)⟩
theorem anchored_any (w : World) : Calls Try.prog 22 #[] w fun e w' => e = .returned (.bool true) ∧ Below w.heap.size w w' :=
  anchored_gen zs (rtS zs []) (tr 5 []) (pf 5 (al zs) 3) za oa zeroValue30 zs_len zs_l32 (rtS_len zs []) (tr5_len (fun x h => by cases h)) built26z built26o known_zs root_zs prove_zs
    (fun N sp cap w hW => by
      have h := scheck_any (rtS zs []) 3 za N sp 5 cap _ _ 0 w (rtS_len zs []) za_ok hW (by omega)
      rw [ck_yes] at h
      exact h)
    (fun N sp cap w hW => by
      have h := scheck_any (rtS zs []) 3 oa N sp 5 cap _ _ 0 w (rtS_len zs []) oa_ok hW (by omega)
      rw [ck_no] at h
      exact h) w
end Go.Proofs.Ytlebojbfcolkhaa
