/- In, Iw0, Iw, Ix0. -/
import Derived.Test.YtmljihggooaboaaW07
import Derived.Laws.Rows
import Derived.Handy
import Derived.BigQuiet
import Derived.BigRegion
import Derived.Laws.MakeOwn
import Derived.Laws.CopyOwn
import Derived.Test.YtmljihggooaboaaW06
/- Layer interp: a run that goes on to its end. -/
namespace Go.Proofs.Ytmljihggooaboaa
open Go.RowKit
set_option maxRecDepth 100000
set_option linter.unusedVariables false
set_option linter.unusedSimpArgs false

theorem s32O : (Try.prog.info? 32).map (·.size) = some 4 := by kernel_rfl
theorem resO {f : Func} {w : World} {tmps : Array Value} {g : Nat} {C : Array Value} {v : Value} (hf : f.results = #[.cell 8 32, .tmp 9]) (hp : tmps.getD 8 undef = .pointer (some ⟨g, 0, none⟩)) (hk : tmps.getD 9 undef = v) (hC : C.size = 4) (hA : Arr w g 32 C) :
    (results f tmps).run Try.prog w = .ok (.tuple #[.agg C, v]) w := by
  have hl := run_loadVar_mid (P := Try.prog) w g 0 32 C.toList _ (fun j u hu => by rw [Nat.zero_add, hA.cell]; simpa using hu) Try.underlying32 rfl (by rw [Array.length_toList, hC]; exact s32O)
  have hp' : tmps[8]?.getD undef = .pointer (some ⟨g, 0, none⟩) := by simpa using hp
  have hk' : tmps[9]?.getD undef = v := by simpa using hk
  simp [results, hf, hp', hk', asAddr, hl]
variable {N : Nat}
set_option maxHeartbeats 1000000 in
theorem run_on {p : PgT} {cs : List Value} {f : FuT} {nv lf : Nat} {l : List (StT 8)} {m : Nat} (S : Nat → SS) (w : World) (hN : N ≤ w.heap.size) (hM : PgM N w cs p) (hmay : (pgN p).isSome = true) (hf : p.fs.getLast? = some f) (hv : f.v = nv) (hnv : nv ≤ 64) (hlf : lf ≤ 4194304) (hb : f.b.length = m) (hle : (S m).lf ≤ lf)
    (hS0 : S 0 = ⟨List.replicate p.da.toNat 0, List.replicate nv 0, lf⟩)
    (hst : ∀ (gr gw : Nat) (p0 p1 kv mv : Value) (gv j : Nat) (t : StT 8) (u : World) (cs : List Value), f.b[j]? = some t → N ≤ u.heap.size → StI N gr gw p.da.toNat p0 p1 kv mv gv nv (S j).W (S j).V (S j).lf u → StM N u 8 cs t → Calls Try.prog 35 (stArgs gr gv nv cs) u (StP N gr gw p.da.toNat p0 p1 kv mv gv nv ⟨0, 0, S (j + 1)⟩ u)) :
    Calls Try.prog 7 #[.agg cs.toArray, .slice none 0 0, .slice none 0 0, .int .i64 (lf : Int)] w fun e w' => ∃ gw, e = .returned (.tuple #[.agg #[.int .u8 1, .int .u64 0, .slice (some ⟨gw, 0, none⟩) p.da.toNat p.da.toNat, .int .i64 ((lf : Int) - (S m).lf)], .int .i64 0]) ∧ Arr w' gw 30 (uA (S m).W) ∧ w.heap.size ≤ gw ∧ Below w.heap.size w w' := by
  have hmy := fun (u : World) (hb : Below w.heap.size w u) => may_any p u (PgM.below (hb.mono hN) cs p hM) (by have := hb.size; omega)
  rw [hmay] at hmy
  unfold BoP at hmy
  have hda : 0 ≤ p.da ∧ p.da ≤ 1024 := by
    unfold pgN at hmay
    by_cases h : begB p = true
    · have := of_decide_eq_true h; omega
    · rw [if_neg h] at hmay; cases hmay
  obtain ⟨n, hn⟩ : ∃ n : Nat, p.da = n := ⟨p.da.toNat, by omega⟩
  obtain ⟨sp, k, cap, rfl, -, hS⟩ := id hM
  rw [hn] at hS0 hst hda hM hmy ⊢
  rw [show ((n : Int)).toNat = n by omega] at hS0 hst ⊢
  have hn10 : n ≤ 1024 := by omega
  have b0 : Below w.heap.size w ((w.alloc (.cells #[.slice sp k cap, .int .i64 (n : Int)] 24)).alloc (.cells #[.int .u8 0, .int .u64 0, .slice none 0 0, .int .i64 0] 32)) := (ab w _).alloc (by simp) _
  have A0 := (Arr.new w 24 #[.slice sp k cap, .int .i64 (n : Int)]).alloc (.cells #[.int .u8 0, .int .u64 0, .slice none 0 0, .int .i64 0] 32)
  have A1 := Arr.new (w.alloc (.cells #[.slice sp k cap, .int .i64 (n : Int)] 24)) 32 #[.int .u8 0, .int .u64 0, .slice none 0 0, .int .i64 0]
  simp only [World.size_alloc] at A1
  have hmy1 := hmy _ b0
  have hmk := fun (u : World) => mk25 n n u (by omega) (by omega)
  have hk0 : 0 < k := by
    rw [hS.len.out]
    cases h : p.fs with
    | nil => rw [h] at hf; cases hf
    | cons a r => simp
  have z1 : ¬ ((n : Int) < 0) := by omega
  have z2 : ¬ ((lf : Int) < 0) := by omega
  have z3 : ¬ ((4194304 : Int) < lf) := by omega
  clear hmy hM hmay hda hn
  go_enter Try.func7, Try.ntmps7
  go_upto_region 5 with (go_at_call 16; go_must (refine hmy1.mono ?_; rintro e w1 ⟨rfl, hb1⟩; have A01 := A0.bl hb1; have A11 := A1.bl hb1; have k0 := A01.cell 0; have k1 := A01.cell 1))
  have hs1 : w.heap.size + 2 ≤ w1.heap.size := by have := hb1.size; simpa using this
  refine wp_region_held_drew (S := fun u => Below w1.heap.size w1 u) (by kernel_rfl) ((Below.refl _ w1).drew) (fun hHeld => ?_)
  refine wpAnyH_take (i := 0) (oi := ⟨_, _, _, _, _, _⟩) (v := ?_) rfl (by kernel_rfl) (by kernel_rfl) (by kernel_rfl) (fun _ _ _ h => h) (Or.inl ⟨by rfl, ?_⟩) (by assumption) ?_
  rotate_left
  · intro u hSw
    have s0 := (hSw.cell (p := ⟨w.heap.size, 0, none⟩) (by show w.heap.size < _; omega)).trans (k0)
    have s1 := (hSw.cell (p := ⟨w.heap.size, 1, none⟩) (by show w.heap.size < _; omega)).trans (k1)
    go_simp
    try (with_reducible rfl)
  try simp only [Act.put, List.setIfInBounds_toArray, List.set_cons_zero, List.set_cons_succ]
  refine wpAnyH_take (i := 1) (oi := ⟨_, _, _, _, _, _⟩) (v := ?_) rfl (by kernel_rfl) (by kernel_rfl) (by kernel_rfl) (fun _ _ _ h => h) (Or.inl ⟨by rfl, ?_⟩) (by assumption) ?_
  rotate_left
  · intro u hSw
    go_simp
    try (with_reducible rfl)
  try simp only [Act.put, List.setIfInBounds_toArray, List.set_cons_zero, List.set_cons_succ]
  refine wpAnyH_take (i := 2) (oi := ⟨_, _, _, _, _, _⟩) (v := ?_) rfl (by kernel_rfl) (by kernel_rfl) (by kernel_rfl) (fun _ _ _ h => h) (Or.inl ⟨by rfl, ?_⟩) (by assumption) ?_
  rotate_left
  · intro u hSw
    have s1 := (hSw.cell (p := ⟨w.heap.size, 1, none⟩) (by show w.heap.size < _; omega)).trans (k1)
    go_simp
    try (with_reducible rfl)
  try simp only [Act.put, List.setIfInBounds_toArray, List.set_cons_zero, List.set_cons_succ]
  refine wpAnyH_take (i := 4) (oi := ⟨_, _, _, _, _, _⟩) (v := ?_) rfl (by kernel_rfl) (by kernel_rfl) (by kernel_rfl) (fun _ _ _ h => h) (Or.inl ⟨by rfl, ?_⟩) (by assumption) ?_
  rotate_left
  · intro u hSw
    go_simp
    try (with_reducible rfl)
  try simp only [Act.put, List.setIfInBounds_toArray, List.set_cons_zero, List.set_cons_succ]
  refine wpAnyH_take (i := 5) (oi := ⟨_, _, _, _, _, _⟩) (v := ?_) rfl (by kernel_rfl) (by kernel_rfl) (by kernel_rfl) (fun _ _ _ h => h) (Or.inl ⟨by rfl, ?_⟩) (by assumption) ?_
  rotate_left
  · intro u hSw
    go_simp
    try (with_reducible rfl)
  try simp only [Act.put, List.setIfInBounds_toArray, List.set_cons_zero, List.set_cons_succ]
  refine wpAnyH_ready (rs := [3, 6]) (by kernel_rfl) (by simp) ?_
  refine AllReadyH.cons (o := ⟨_, _, _, _, _, _⟩) rfl (fun K hK => ?_) (AllReadyH.cons (o := ⟨_, _, _, _, _, _⟩) rfl (fun K hK => ?_) AllReadyH.nil)
  · go_simp
    refine hK.out _ _ ((Below.refl _ w1).drew.alloc (Nat.le_refl _) _) (fun hHeld => ?_)
    clear hK K
    try simp only [Act.put, List.setIfInBounds_toArray, List.set_cons_zero, List.set_cons_succ]
    refine wpAnyH_ready (rs := [6]) (by kernel_rfl) (by simp) ?_
    refine AllReadyH.cons (o := ⟨_, _, _, _, _, _⟩) rfl (fun K hK => ?_) AllReadyH.nil
    go_simp
    refine (newShelf_any none 0 0 _).mono ?_
    rintro e w2 ⟨gp, rfl, hgp, -, hb2⟩
    have n2 := (Arr.new w1.drew 30 (madeCells #[.int .u64 0] n)).bl hb2
    have hB2 : Below w1.heap.size w1 w2 := ((Below.refl _ w1).drew.alloc (Nat.le_refl _) _).trans (hb2.mono (by simp))
    go_wp2_with fail
    refine hK.out _ _ hB2 (fun hHeld => ?_)
    clear hK K
    try simp only [Act.put, List.setIfInBounds_toArray, List.set_cons_zero, List.set_cons_succ]
    refine wpAnyH_take (i := 7) (oi := ⟨_, _, _, _, _, _⟩) (v := ?_) rfl (by kernel_rfl) (by kernel_rfl) (by kernel_rfl) (fun _ _ _ h => h) (Or.inl ⟨by rfl, ?_⟩) (by assumption) ?_
    rotate_left
    · intro u hSw
      go_simp
      try (with_reducible rfl)
    try simp only [Act.put, List.setIfInBounds_toArray, List.set_cons_zero, List.set_cons_succ]
    refine wpAnyH_ready (rs := [8]) (by kernel_rfl) (by simp) ?_
    refine AllReadyH.cons (o := ⟨_, _, _, _, _, _⟩) rfl (fun K hK => ?_) AllReadyH.nil
    go_simp
    refine hK.out _ _ (hB2.alloc hB2.size _) (fun hHeld => ?_)
    clear hK K
    try simp only [Act.put, List.setIfInBounds_toArray, List.set_cons_zero, List.set_cons_succ]
    refine wpAnyH_take (i := 9) (oi := ⟨_, _, _, _, _, _⟩) (v := ?_) rfl (by kernel_rfl) (by kernel_rfl) (by kernel_rfl) (fun _ _ _ h => h) (Or.inl ⟨by rfl, ?_⟩) (by assumption) ?_
    rotate_left
    · intro u hSw
      go_simp
      try (with_reducible rfl)
    try simp only [Act.put, List.setIfInBounds_toArray, List.set_cons_zero, List.set_cons_succ]
    refine wpAnyH_done (by kernel_rfl) ?_ _
    have AR : Arr (w2.alloc (.cells #[.slice sp k cap, .int .i64 (n : Int), .slice (some ⟨w1.heap.size, 0, none⟩) n n, .int .i64 (lf : Int), .slice none 0 0, .map (some gp)] 65)) w2.heap.size 65 #[.slice sp k cap, .int .i64 (n : Int), .slice (some ⟨w1.heap.size, 0, none⟩) n n, .int .i64 (lf : Int), .slice none 0 0, .map (some gp)] := Arr.new w2 65 _
    have AW : Arr (w2.alloc (.cells #[.slice sp k cap, .int .i64 (n : Int), .slice (some ⟨w1.heap.size, 0, none⟩) n n, .int .i64 (lf : Int), .slice none 0 0, .map (some gp)] 65)) w1.heap.size 30 (madeCells #[.int .u64 0] n) := n2.alloc _
    have hne : w2.heap.size ≠ w1.heap.size := by have := n2.lt; show w2.heap.size ≠ w1.heap.size; have h : w1.drew.heap.size = w1.heap.size := rfl; omega
    have hBV : Below w1.heap.size w1 (w2.alloc (.cells #[.slice sp k cap, .int .i64 (n : Int), .slice (some ⟨w1.heap.size, 0, none⟩) n n, .int .i64 (lf : Int), .slice none 0 0, .map (some gp)] 65)) := hB2.alloc hB2.size _
    have hgw1 : w.heap.size + 2 ≤ w1.heap.size := by have := hB2.size; omega
    have hgr1 : w.heap.size + 2 ≤ w2.heap.size := by have := hB2.size; omega
    have B1 := b0.trans (hb1.mono b0.size)
    have BV := B1.trans (hBV.mono B1.size)
    have hNV : N ≤ (w2.alloc (.cells #[.slice sp k cap, .int .i64 (n : Int), .slice (some ⟨w1.heap.size, 0, none⟩) n n, .int .i64 (lf : Int), .slice none 0 0, .map (some gp)] 65)).heap.size := by have := BV.size; omega
    have A0V := A01.bl hBV
    have A1V := A11.bl hBV
    have hSV := hS.imp (BV.mono hN) (FuM.below (BV.mono hN))
    clear hHeld hBV hb1 hB2 hb2 hgp A01 A11 B1 k0 k1 hs1 n2
    generalize hVV : (w2.alloc (.cells #[.slice sp k cap, .int .i64 (n : Int), .slice (some ⟨w1.heap.size, 0, none⟩) n n, .int .i64 (lf : Int), .slice none 0 0, .map (some gp)] 65)) = V at *
    rw [made_uA] at AW
    generalize hgg : w2.heap.size = gr at AR hne hgr1 ⊢
    generalize hgg2 : w1.heap.size = gw at AR AW hne hgw1 ⊢
    clear hVV hgg hgg2
    have hI : RunI gr gw n (.slice sp k cap) (.int .i64 (n : Int)) (.slice none 0 0) (.map (some gp)) (List.replicate n 0) lf V := ⟨AR, AW, hne, hid (by simp), hn10, fun x hx => by rw [(List.mem_replicate.1 hx).2]; simp [U64]⟩
    obtain ⟨g, off, rfl, hg, hR⟩ := hSV.at0 hk0
    obtain ⟨cf, hrg, hMf⟩ := hR (k - 1) f (by rw [hS.len.out, ← List.getLast?_eq_getElem?]; exact hf)
    obtain ⟨sq, mq, cq, rfl, -, hSb⟩ := hMf
    have hmq : mq = m := by rw [hSb.len.out, hb]
    have hfun := function_on (p := f.p) (v := f.v) S V hNV hI (by omega) (by omega) hv hnv hS0 hSb (fun gv => hst gr gw _ _ _ _ gv)
    subst hmq
    have c0 := hrg 0 _ rfl
    have c1 := hrg 1 _ rfl
    have c2 := hrg 2 _ rfl
    simp only [Nat.add_zero] at c0
    have r2 := AR.cell 2
    have v0 := A0V.cell 0
    have hkw : IntKind.i64.wrap ((k : Int) - 1) = ((k - 1 : Nat) : Int) := by rw [IntKind.wrap_i64]; have := hS.small; omega
    have hk1 : ((k - 1 : Nat) : Int) < k := by omega
    have hk2 : (0 : Int) ≤ ((k - 1 : Nat) : Int) := by omega
    have hlt3 : k - 1 < k := by omega
    clear hS hSV hR hrg hSb hst AW hS0 hI hf hb hv
    generalize k - 1 = kk at *
    unfold fuC at *
    go_upto_region 8 with (first
      | (refine wpList_copy_nothing (by rfl) (.tmp 43) (.tmp 44) 25 25 (by rfl) 30 Try.underlying25 (by exact s30) _ _ n n 0 0 (by rfl) (by rfl) (Nat.zero_min n) ?_)
      | (go_at_call 18; go_must (refine hfun.mono ?_; rintro e w3 ⟨rfl, hI3, hc3⟩; have i2 := hI3.ar.cell 2; have i3 := hI3.ar.cell 3; have A3 := hc3.arr A1V (by rintro (e | e) <;> omega); have a0 := A3.cell 0; have a1 := A3.cell 1; have a2 := A3.cell 2; have a3 := A3.cell 3; have f0 := A3.frozen 0; have f1 := A3.frozen 1; have f2 := A3.frozen 2; have f3 := A3.frozen 3)))
    have hsub : IntKind.i64.wrap ((lf : Int) - ((S mq).lf : Int)) = (lf : Int) - ((S mq).lf : Int) := by rw [IntKind.wrap_i64]; omega
    have hgrl : gr < w3.heap.size := hI3.ar.lt
    have hne1 : ¬ gr = w.heap.size + 1 := by omega
    have hne2 : ¬ w.heap.size + 1 = gr := by omega
    have hB3 : Below w.heap.size V w3 := hc3.bl fun i hi => ⟨by have := BV.size; omega, by rintro (e | e) <;> omega⟩
    have A4 := ((((A3.set 0 (.int .u8 1)).set 1 (.int .u64 0)).set 2 (.slice (some ⟨gw, 0, none⟩) n n)).set 3 (.int .i64 ((lf : Int) - ((S mq).lf : Int)))).drew
    have W4 := ((((hI3.aw.setOther (a := ⟨w.heap.size + 1, 0, none⟩) (.int .u8 1) (by show gw ≠ w.heap.size + 1; omega)).setOther (a := ⟨w.heap.size + 1, 1, none⟩) (.int .u64 0) (by show gw ≠ w.heap.size + 1; omega)).setOther (a := ⟨w.heap.size + 1, 2, none⟩) (.slice (some ⟨gw, 0, none⟩) n n) (by show gw ≠ w.heap.size + 1; omega)).setOther (a := ⟨w.heap.size + 1, 3, none⟩) (.int .i64 ((lf : Int) - ((S mq).lf : Int))) (by show gw ≠ w.heap.size + 1; omega)).drew
    have C3 : Ch (fun _ => False) w w3 := Ch.ob (BV.trans hB3)
    have B4 := ((((C3.st (g := w.heap.size + 1) (j := 0) (.int .u8 1) (fun h => by omega)).st (g := w.heap.size + 1) (j := 1) (.int .u64 0) (fun h => by omega)).st (g := w.heap.size + 1) (j := 2) (.slice (some ⟨gw, 0, none⟩) n n) (fun h => by omega)).st (g := w.heap.size + 1) (j := 3) (.int .i64 ((lf : Int) - ((S mq).lf : Int))) (fun h => by omega)).dw.bl (N := w.heap.size) (fun i hi => ⟨hi, id⟩)
    go_region
    go_wp2_with fail
    exact bodyPost_ret (v := .tuple #[.agg #[.int .u8 1, .int .u64 0, .slice (some ⟨gw, 0, none⟩) n n, .int .i64 ((lf : Int) - ((S mq).lf : Int))], .int .i64 0]) (resO Try.results7 rfl rfl rfl A4) rfl ⟨gw, rfl, W4, by omega, B4⟩
  · go_simp
    refine (newShelf_any none 0 0 _).mono ?_
    rintro e w2 ⟨gp, rfl, hgp, -, hb2⟩
    have hB2 : Below w1.heap.size w1 w2 := (Below.refl _ w1).drew.trans hb2
    go_wp2_with fail
    refine hK.out _ _ hB2 (fun hHeld => ?_)
    clear hK K
    try simp only [Act.put, List.setIfInBounds_toArray, List.set_cons_zero, List.set_cons_succ]
    refine wpAnyH_ready (rs := [3]) (by kernel_rfl) (by simp) ?_
    refine AllReadyH.cons (o := ⟨_, _, _, _, _, _⟩) rfl (fun K hK => ?_) AllReadyH.nil
    go_simp
    refine hK.out _ _ (hB2.alloc hB2.size _) (fun hHeld => ?_)
    clear hK K
    try simp only [Act.put, List.setIfInBounds_toArray, List.set_cons_zero, List.set_cons_succ]
    refine wpAnyH_take (i := 7) (oi := ⟨_, _, _, _, _, _⟩) (v := ?_) rfl (by kernel_rfl) (by kernel_rfl) (by kernel_rfl) (fun _ _ _ h => h) (Or.inl ⟨by rfl, ?_⟩) (by assumption) ?_
    rotate_left
    · intro u hSw
      go_simp
      try (with_reducible rfl)
    try simp only [Act.put, List.setIfInBounds_toArray, List.set_cons_zero, List.set_cons_succ]
    refine wpAnyH_ready (rs := [8]) (by kernel_rfl) (by simp) ?_
    refine AllReadyH.cons (o := ⟨_, _, _, _, _, _⟩) rfl (fun K hK => ?_) AllReadyH.nil
    go_simp
    refine hK.out _ _ ((hB2.alloc hB2.size _).alloc (by have := hB2.size; simp; omega) _) (fun hHeld => ?_)
    clear hK K
    try simp only [Act.put, List.setIfInBounds_toArray, List.set_cons_zero, List.set_cons_succ]
    refine wpAnyH_take (i := 9) (oi := ⟨_, _, _, _, _, _⟩) (v := ?_) rfl (by kernel_rfl) (by kernel_rfl) (by kernel_rfl) (fun _ _ _ h => h) (Or.inl ⟨by rfl, ?_⟩) (by assumption) ?_
    rotate_left
    · intro u hSw
      go_simp
      try (with_reducible rfl)
    try simp only [Act.put, List.setIfInBounds_toArray, List.set_cons_zero, List.set_cons_succ]
    refine wpAnyH_done (by kernel_rfl) ?_ _
    have AR : Arr ((w2.alloc (.cells (madeCells #[.int .u64 0] n) 30)).alloc (.cells #[.slice sp k cap, .int .i64 (n : Int), .slice (some ⟨w2.heap.size, 0, none⟩) n n, .int .i64 (lf : Int), .slice none 0 0, .map (some gp)] 65)) (w2.heap.size + 1) 65 #[.slice sp k cap, .int .i64 (n : Int), .slice (some ⟨w2.heap.size, 0, none⟩) n n, .int .i64 (lf : Int), .slice none 0 0, .map (some gp)] := by simpa using Arr.new (w2.alloc (.cells (madeCells #[.int .u64 0] n) 30)) 65 _
    have AW : Arr ((w2.alloc (.cells (madeCells #[.int .u64 0] n) 30)).alloc (.cells #[.slice sp k cap, .int .i64 (n : Int), .slice (some ⟨w2.heap.size, 0, none⟩) n n, .int .i64 (lf : Int), .slice none 0 0, .map (some gp)] 65)) w2.heap.size 30 (madeCells #[.int .u64 0] n) := (Arr.new w2 30 _).alloc _
    have hne : (w2.heap.size + 1) ≠ w2.heap.size := by omega
    have hBV : Below w1.heap.size w1 ((w2.alloc (.cells (madeCells #[.int .u64 0] n) 30)).alloc (.cells #[.slice sp k cap, .int .i64 (n : Int), .slice (some ⟨w2.heap.size, 0, none⟩) n n, .int .i64 (lf : Int), .slice none 0 0, .map (some gp)] 65)) := (hB2.alloc hB2.size _).alloc (by have := hB2.size; simp; omega) _
    have hgw1 : w.heap.size + 2 ≤ w2.heap.size := by have := hB2.size; omega
    have hgr1 : w.heap.size + 2 ≤ (w2.heap.size + 1) := by have := hB2.size; omega
    have B1 := b0.trans (hb1.mono b0.size)
    have BV := B1.trans (hBV.mono B1.size)
    have hNV : N ≤ ((w2.alloc (.cells (madeCells #[.int .u64 0] n) 30)).alloc (.cells #[.slice sp k cap, .int .i64 (n : Int), .slice (some ⟨w2.heap.size, 0, none⟩) n n, .int .i64 (lf : Int), .slice none 0 0, .map (some gp)] 65)).heap.size := by have := BV.size; omega
    have A0V := A01.bl hBV
    have A1V := A11.bl hBV
    have hSV := hS.imp (BV.mono hN) (FuM.below (BV.mono hN))
    clear hHeld hBV hb1 hB2 hb2 hgp A01 A11 B1 k0 k1 hs1 
    generalize hVV : ((w2.alloc (.cells (madeCells #[.int .u64 0] n) 30)).alloc (.cells #[.slice sp k cap, .int .i64 (n : Int), .slice (some ⟨w2.heap.size, 0, none⟩) n n, .int .i64 (lf : Int), .slice none 0 0, .map (some gp)] 65)) = V at *
    rw [made_uA] at AW
    generalize hgg : (w2.heap.size + 1) = gr at AR hne hgr1 ⊢
    generalize hgg2 : w2.heap.size = gw at AR AW hne hgw1 ⊢
    clear hVV hgg hgg2
    have hI : RunI gr gw n (.slice sp k cap) (.int .i64 (n : Int)) (.slice none 0 0) (.map (some gp)) (List.replicate n 0) lf V := ⟨AR, AW, hne, hid (by simp), hn10, fun x hx => by rw [(List.mem_replicate.1 hx).2]; simp [U64]⟩
    obtain ⟨g, off, rfl, hg, hR⟩ := hSV.at0 hk0
    obtain ⟨cf, hrg, hMf⟩ := hR (k - 1) f (by rw [hS.len.out, ← List.getLast?_eq_getElem?]; exact hf)
    obtain ⟨sq, mq, cq, rfl, -, hSb⟩ := hMf
    have hmq : mq = m := by rw [hSb.len.out, hb]
    have hfun := function_on (p := f.p) (v := f.v) S V hNV hI (by omega) (by omega) hv hnv hS0 hSb (fun gv => hst gr gw _ _ _ _ gv)
    subst hmq
    have c0 := hrg 0 _ rfl
    have c1 := hrg 1 _ rfl
    have c2 := hrg 2 _ rfl
    simp only [Nat.add_zero] at c0
    have r2 := AR.cell 2
    have v0 := A0V.cell 0
    have hkw : IntKind.i64.wrap ((k : Int) - 1) = ((k - 1 : Nat) : Int) := by rw [IntKind.wrap_i64]; have := hS.small; omega
    have hk1 : ((k - 1 : Nat) : Int) < k := by omega
    have hk2 : (0 : Int) ≤ ((k - 1 : Nat) : Int) := by omega
    have hlt3 : k - 1 < k := by omega
    clear hS hSV hR hrg hSb hst AW hS0 hI hf hb hv
    generalize k - 1 = kk at *
    unfold fuC at *
    go_upto_region 8 with (first
      | (refine wpList_copy_nothing (by rfl) (.tmp 43) (.tmp 44) 25 25 (by rfl) 30 Try.underlying25 (by exact s30) _ _ n n 0 0 (by rfl) (by rfl) (Nat.zero_min n) ?_)
      | (go_at_call 18; go_must (refine hfun.mono ?_; rintro e w3 ⟨rfl, hI3, hc3⟩; have i2 := hI3.ar.cell 2; have i3 := hI3.ar.cell 3; have A3 := hc3.arr A1V (by rintro (e | e) <;> omega); have a0 := A3.cell 0; have a1 := A3.cell 1; have a2 := A3.cell 2; have a3 := A3.cell 3; have f0 := A3.frozen 0; have f1 := A3.frozen 1; have f2 := A3.frozen 2; have f3 := A3.frozen 3)))
    have hsub : IntKind.i64.wrap ((lf : Int) - ((S mq).lf : Int)) = (lf : Int) - ((S mq).lf : Int) := by rw [IntKind.wrap_i64]; omega
    have hgrl : gr < w3.heap.size := hI3.ar.lt
    have hne1 : ¬ gr = w.heap.size + 1 := by omega
    have hne2 : ¬ w.heap.size + 1 = gr := by omega
    have hB3 : Below w.heap.size V w3 := hc3.bl fun i hi => ⟨by have := BV.size; omega, by rintro (e | e) <;> omega⟩
    have A4 := ((((A3.set 0 (.int .u8 1)).set 1 (.int .u64 0)).set 2 (.slice (some ⟨gw, 0, none⟩) n n)).set 3 (.int .i64 ((lf : Int) - ((S mq).lf : Int)))).drew
    have W4 := ((((hI3.aw.setOther (a := ⟨w.heap.size + 1, 0, none⟩) (.int .u8 1) (by show gw ≠ w.heap.size + 1; omega)).setOther (a := ⟨w.heap.size + 1, 1, none⟩) (.int .u64 0) (by show gw ≠ w.heap.size + 1; omega)).setOther (a := ⟨w.heap.size + 1, 2, none⟩) (.slice (some ⟨gw, 0, none⟩) n n) (by show gw ≠ w.heap.size + 1; omega)).setOther (a := ⟨w.heap.size + 1, 3, none⟩) (.int .i64 ((lf : Int) - ((S mq).lf : Int))) (by show gw ≠ w.heap.size + 1; omega)).drew
    have C3 : Ch (fun _ => False) w w3 := Ch.ob (BV.trans hB3)
    have B4 := ((((C3.st (g := w.heap.size + 1) (j := 0) (.int .u8 1) (fun h => by omega)).st (g := w.heap.size + 1) (j := 1) (.int .u64 0) (fun h => by omega)).st (g := w.heap.size + 1) (j := 2) (.slice (some ⟨gw, 0, none⟩) n n) (fun h => by omega)).st (g := w.heap.size + 1) (j := 3) (.int .i64 ((lf : Int) - ((S mq).lf : Int))) (fun h => by omega)).dw.bl (N := w.heap.size) (fun i hi => ⟨hi, id⟩)
    go_region
    go_wp2_with fail
    exact bodyPost_ret (v := .tuple #[.agg #[.int .u8 1, .int .u64 0, .slice (some ⟨gw, 0, none⟩) n n, .int .i64 ((lf : Int) - ((S mq).lf : Int))], .int .i64 0]) (resO Try.results7 rfl rfl rfl A4) rfl ⟨gw, rfl, W4, by omega, B4⟩
end Go.Proofs.Ytmljihggooaboaa
/- Layer interp: a run, by thinking. -/
namespace Go.Proofs.Ytmljihggooaboaa
open Go.RowKit
set_option maxRecDepth 100000
set_option linter.unusedVariables false
set_option linter.unusedSimpArgs false

/-- Statements in turn. -/
def runL {α : Type} (F : α → SS → RR) : List α → SS → RR
  | [], s => ⟨0, 0, s⟩
  | t :: l, s => if (F t s).k = 0 then runL F l (F t s).s else F t s
/-- What a run looks at, but its own state. -/
structure Env where
  fs : List FuT
  hsh : List Int → Int → Int → Int → Int → Option (List Int)
  prm : List Int → Int → Option (List Int)
  pce : List Int → Int → Int
def SS.setV (s : SS) (v : Int) (x : Int) : SS := ⟨s.W, s.V.set v.toNat x, s.lf⟩
/-- A call's end, for who called. -/
def back (s : SS) (v : Int) (r : RR) : RR :=
  if r.k = 0 then ⟨0, 0, ⟨r.s.W, s.V.set v.toNat 0, r.s.lf⟩⟩
  else if r.k = 1 then ⟨0, 0, ⟨r.s.W, s.V.set v.toNat r.x, r.s.lf⟩⟩
  else ⟨r.k, 0, ⟨r.s.W, s.V, r.s.lf⟩⟩
/-- What a function begins with. -/
def fr0 (s : SS) (v : Int) (L : List Int) : SS := ⟨s.W, L ++ List.replicate (v.toNat - L.length) 0, s.lf⟩
/-- A statement behind its fuel and its arguments: B its parts, A itself once more, C a function's body. -/
def one (E : Env) {α : Type} (B : List α → SS → RR) (A : SS → RR) (C : List (StT 8) → SS → RR) (t : StN α) (L : List Int) (s : SS) : RR :=
  if t.k = 1 then ⟨0, 0, s.setV t.v (L.getD 0 0)⟩
  else if t.k = 2 then (if L.getD 0 0 < s.W.length then ⟨0, 0, ⟨s.W.set (L.getD 0 0).toNat (L.getD 1 0), s.V, s.lf⟩⟩ else ⟨2, 0, s⟩)
  else if t.k = 3 then B (if L.getD 0 0 = 0 then t.el else t.th) s
  else if t.k = 4 then (if L.getD 0 0 = 0 then ⟨0, 0, s⟩ else if (B t.th s).k = 0 then A (B t.th s).s else B t.th s)
  else if t.k = 5 then ⟨1, L.getD 0 0, s⟩
  else if t.k = 6 then back s t.v (C ((E.fs[t.f.toNat]?).elim [] FuT.b) (fr0 s ((E.fs[t.f.toNat]?).elim 0 FuT.v) L))
  else if t.k = 7 then (match E.hsh s.W t.t (L.getD 0 0) (L.getD 1 0) (L.getD 2 0) with | none => ⟨2, 0, s⟩ | some W => ⟨0, 0, ⟨W, s.V, s.lf⟩⟩)
  else if t.k = 8 then (match E.prm s.W (L.getD 0 0) with | none => ⟨2, 0, s⟩ | some b => ⟨0, 0, s.setV t.v (E.pce b (L.getD 1 0))⟩)
  else (match E.prm s.W (L.getD 0 0) with | none => ⟨2, 0, s⟩ | some b => ⟨0, 0, s.setV t.v b.length⟩)
/-- A statement, with gas as much as there is fuel. -/
def stm (E : Env) : Nat → (d : Nat) → StT d → SS → RR
  | 0 => fun _ _ s => ⟨3, 0, s⟩
  | G + 1 => fun d t s => match d, t with
    | 0, _ => ⟨3, 0, s⟩
    | d + 1, t => if s.lf = 0 then ⟨3, 0, s⟩ else match evs s.W s.V 8 (StN.a (α := StT d) t) with
      | none => ⟨2, 0, ⟨s.W, s.V, s.lf - 1⟩⟩
      | some L => one E (runL (stm E G d)) (stm E G (d + 1) t) (runL (stm E G 8)) (show StN (StT d) from t) L ⟨s.W, s.V, s.lf - 1⟩
theorem RR.end_on {r : RR} (h : r.k = 0) : r.end = .returned (.tuple #[]) := by unfold RR.end; rw [if_pos h]
theorem RR.end_off {r : RR} (h : r.k ≠ 0) : ∃ v, r.end = .panicked v := by
  unfold RR.end
  rw [if_neg h]
  split
  · exact ⟨_, rfl⟩
  · split
    · exact ⟨_, rfl⟩
    · exact ⟨_, rfl⟩
/-- What a call of a statement, of statements leaves. -/
def KP (K : SS → World → Prop) (P : Nat → Prop) (r : RR) (w : World) (e : Ending) (w' : World) : Prop := e = r.end ∧ K r.s w' ∧ Ch P w w'
theorem runL_drop {α : Type} {F : α → SS → RR} {l : List α} {j : Nat} {t : α} (h : l[j]? = some t) (s : SS) : runL F (l.drop j) s = if (F t s).k = 0 then runL F (l.drop (j + 1)) (F t s).s else F t s := by
  obtain ⟨hj, rfl⟩ := List.getElem?_eq_some_iff.1 h
  rw [List.drop_eq_getElem_cons hj]
  rfl
end Go.Proofs.Ytmljihggooaboaa
/- Layer interp: statements, whatever they come to. -/
namespace Go.Proofs.Ytmljihggooaboaa
open Go.RowKit
set_option maxRecDepth 100000
set_option linter.unusedVariables false
set_option linter.unusedSimpArgs false

variable {N gr gw n : Nat} {gv nv : Nat} {d : Nat}
set_option maxHeartbeats 1000000 in
theorem stmts_any {sp : Option Addr} {m cap : Nat} {l : List (StT d)} (K : SS → World → Prop) (hK : ∀ s u u', K s u → Below u.heap.size u u' → K s u') (P : Nat → Prop) (hP : ∀ k, P k → N ≤ k) (F : StT d → SS → RR) (s0 : SS) (w : World) (hN : N ≤ w.heap.size) (hI : K s0 w) (hS : RS N w 7 (StM N w d) sp m cap l)
    (hst : ∀ t ∈ l, ∀ (s : SS) (u : World) (cs : List Value), N ≤ u.heap.size → K s u → StM N u d cs t → Calls Try.prog 35 (stArgs gr gv nv cs) u (KP K P (F t s) u)) :
    Calls Try.prog 27 #[.pointer (some ⟨gr, 0, none⟩), .slice sp m cap, .slice (some ⟨gv, 0, none⟩) nv nv] w (KP K P (runL F l s0) w) := by
  have hlen := hS.len
  have hsm := hS.small
  obtain ⟨R, hR0⟩ : ∃ R, runL F l s0 = R := ⟨_, rfl⟩
  rw [hR0]
  go_enter Try.func27, Try.ntmps27
  go_upto_region 1 with fail
  go_loopw [10] (fun i wr => ∃ (j : Nat) (s : SS), i = .int .i64 (j : Int) ∧ j ≤ m ∧ K s wr ∧ Ch P w wr ∧ Hid (runL F (l.drop j) s = R))
    (fun i _ => m - (intOf i).toNat)
  case atStart => exact ⟨0, s0, rfl, by omega, hI, Ch.refl _ _, hid hR0⟩
  case round =>
    obtain ⟨j, s, rfl, hj, hIj, hc, hr⟩ := hrel
    have hlow : Below N w wr := hc.bl fun i hi => ⟨by omega, fun h => by have := hP i h; omega⟩
    by_cases hlt : j < m
    · obtain ⟨t, ht⟩ : ∃ t, l[j]? = some t := ⟨l[j]'(by rw [← hlen.out]; exact hlt), List.getElem?_eq_getElem _⟩
      obtain ⟨g, off, rfl, hg, hR⟩ := hS.at0 (by omega)
      obtain ⟨cs, hrg, hM⟩ := hR j t ht
      have hrg2 := rb hrg hlow hg
      have hM2 := StM.below hlow d cs t hM
      obtain ⟨xk, xv, xf, xt, xa, ya, za, xb, yb, zb, xc, yc, zc, rfl⟩ := hM.cells
      have c0 := hrg2 0 _ rfl
      have c1 := hrg2 1 _ rfl
      have c2 := hrg2 2 _ rfl
      have c3 := hrg2 3 _ rfl
      have c4 := hrg2 4 _ rfl
      have c5 := hrg2 5 _ rfl
      have c6 := hrg2 6 _ rfl
      simp only [Nat.add_zero] at c0
      have hlt' : (j : Int) < m := by omega
      have h0 : (0 : Int) ≤ j := by omega
      have hs := hlow.size
      have b1 := ab wr (.cells (stC xk xv xf xt (.slice xa ya za) (.slice xb yb zb) (.slice xc yc zc)).toArray 78)
      have hcc := hst t (List.mem_of_getElem? ht) s _ _ (by have := b1.size; omega) (hK _ _ _ hIj b1) (StM.below (b1.mono (by omega)) d _ t hM2)
      have hc1 := hc.trans (Ch.ob b1)
      have hrr := hr.out
      rw [runL_drop ht] at hrr
      clear hS hR hrg hrg2 hM hM2 hst hlen ht hI hIj hr hR0
      unfold stArgs at hcc
      unfold stC at *
      by_cases hk : (F t s).k = 0
      · have hr2 : Hid (runL F (l.drop (j + 1)) (F t s).s = R) := hid (by rw [if_pos hk] at hrr; exact hrr)
        have hee := RR.end_on hk
        clear hrr hk
        go_wp2_with (go_at_call 35; go_must (refine hcc.mono ?_; rintro e w1 ⟨he, hI1, hc2⟩; replace he := he.trans hee; subst he))
        go_roundw
        case rel => exact ⟨j + 1, _, by go_num, by omega, hI1, hc1.trans hc2, hr2⟩
        case measure => simp [intOf]; omega
      · rw [if_neg hk] at hrr
        obtain ⟨pv, hee⟩ := RR.end_off hk
        have hee2 : R.end = .panicked pv := by rw [← hrr]; exact hee
        have hrS : Hid ((F t s).s = R.s) := hid (by rw [hrr])
        clear hrr hk
        go_wp2_with (go_at_call 35; go_must (refine hcc.mono ?_; rintro e w1 ⟨he, hI1, hc2⟩; replace he := he.trans hee; subst he))
        exact ⟨rfl, hee2.symm, by rw [← hrS.out]; exact hI1, hc1.trans hc2⟩
    · obtain rfl : j = m := by omega
      have hrr := hr.out
      rw [List.drop_eq_nil_of_le (by rw [hlen.out]; exact Nat.le_refl _)] at hrr
      have hR1 : (⟨0, 0, s⟩ : RR) = R := hrr
      clear hS hlen hst hr hrr hR0
      go_wp2_with fail
      go_end0
      subst hR1
      exact ⟨rfl, hIj, hc⟩
end Go.Proofs.Ytmljihggooaboaa
/- Layer interp: what stays all through a run. -/
namespace Go.Proofs.Ytmljihggooaboaa
open Go.RowKit
set_option maxRecDepth 100000
set_option linter.unusedVariables false
set_option linter.unusedSimpArgs false

/-- What stays all through a run: X is what is said of the preimages. -/
structure KI (X : World → Prop) (Z N gr gw n : Nat) (p0 p1 kv mv : Value) (gv nv : Nat) (s : SS) (w : World) : Prop where
  st : StI N gr gw n p0 p1 kv mv gv nv s.W s.V s.lf w
  x : X w
  z : Z ≤ gv
  lf : s.lf ≤ 4194304
def PP (gr gw gm gv k : Nat) : Prop := k = gr ∨ k = gw ∨ k = gm ∨ k = gv
/-- No bytes stand there. -/
def NB (u : World) (k : Nat) : Prop := ∀ C, ¬ Arr u k 5 C
theorem nb_of {w : World} {g ty : Nat} {C0 : Array Value} (h : Arr w g ty C0) (ht : ty ≠ 5) : NB w g := fun C h5 => ht (by have := h.symm.trans h5; injection this with this; injection this)
/-- X hears of nothing but the blocks ahead of Z and bytes, and not of the runner and its words. -/
def XK (X : World → Prop) (Z gr gw : Nat) : Prop := ∀ u u', X u → Z ≤ u.heap.size → Ch (fun k => k = gr ∨ k = gw ∨ (Z ≤ k ∧ NB u k)) u u' → X u'
variable {X : World → Prop} {Z N gr gw n gm : Nat} {p0 p1 kv mv : Value} {gv nv : Nat} {s : SS}
theorem Ch.imp {P Q : Nat → Prop} {u u' : World} (h : Ch P u u') (hPQ : ∀ k, P k → Q k) : Ch Q u u' := h.mono fun i _ => hPQ i
theorem KI.zz {w : World} (h : KI X Z N gr gw n p0 p1 kv mv gv nv s w) : Z ≤ w.heap.size := by have := h.z; have := h.st.var.av.lt; omega
theorem KI.bl (hX : XK X Z gr gw) {w w' : World} (h : KI X Z N gr gw n p0 p1 kv mv gv nv s w) (hb : Below w.heap.size w w') : KI X Z N gr gw n p0 p1 kv mv gv nv s w' :=
  ⟨h.st.bl hb, hX _ _ h.x h.zz (Ch.ob hb), h.z, h.lf⟩
/-- From what a statement without preimages leaves. -/
theorem KI.of (hX : XK X Z gr gw) {r : RR} {w : World} (h : KI X Z N gr gw n p0 p1 kv mv gv nv s w) (hl : r.s.lf ≤ s.lf) {e : Ending} {w' : World} (hp : StP N gr gw n p0 p1 kv mv gv nv r w e w') : KP (KI X Z N gr gw n p0 p1 kv mv gv nv) (PP gr gw gm gv) r w e w' :=
  ⟨hp.1, ⟨hp.2.1, hX _ _ h.x h.zz (hp.2.2.imp fun k hk => by rcases hk with hk | hk | hk; exact .inl hk; exact .inr (.inl hk); exact .inr (.inr (by subst hk; exact ⟨h.z, nb_of h.st.var.av (by omega)⟩))), h.z, by have := h.lf; omega⟩, hp.2.2.imp fun k hk => by rcases hk with hk | hk | hk; exact .inl hk; exact .inr (.inl hk); exact .inr (.inr (.inr hk))⟩
theorem KI.low {w w' : World} (h : KI X Z N gr gw n p0 p1 kv mv gv nv s w) (hm : N ≤ gm) (hN : N ≤ w.heap.size) (hc : Ch (PP gr gw gm gv) w w') : Below N w w' :=
  hc.bl fun i hi => ⟨by omega, by have := h.st.l1; have := h.st.l2; have := h.st.l3; rintro (e | e | e | e) <;> omega⟩
end Go.Proofs.Ytmljihggooaboaa
