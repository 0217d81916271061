/- Layer interp: a run that goes on to its end. -/
import Derived.Test.YtmljihggooaboaaX10
import Derived.Laws.Rows
import Derived.Handy
import Derived.BigQuiet
import Derived.BigRegion
import Derived.Laws.MakeOwn
import Derived.Laws.CopyOwn
namespace Go.Proofs.Ytmljihggooaboaa
open Go.RowKit
set_option maxRecDepth 100000
set_option linter.unusedVariables false
set_option linter.unusedSimpArgs false

theorem s32O : (Try.prog.info? 32).map (·.size) = some 4 := by kernel_rfl
theorem resO {f : Func} {w : World} {tmps : Array Value} {g : Nat} {C : Array Value} {v : Value} (hf : f.results = #[.cell 8 32, .tmp 9]) (hp : tmps.getD 8 undef = .pointer (some ⟨g, 0, none⟩)) (hk : tmps.getD 9 undef = v) (hC : C.size = 4) (hA : Arr w g 32 C) :
    (results f tmps).run Try.prog w = .ok (.tuple #[.agg C, v]) w := by
  have hl := run_loadVar_mid (P := Try.prog) w g 0 32 C.toList _ (fun j u hu => by rw [Nat.zero_add, hA.cell]; simpa using hu) Try.underlying32 rfl (by rw [Array.length_toList, hC]; exact s32O)
  have hp' : tmps[8]?.getD undef = .pointer (some ⟨g, 0, none⟩) := by simpa using hp
  have hk' : tmps[9]?.getD undef = v := by simpa using hk
  simp [results, hf, hp', hk', asAddr, hl]
variable {N : Nat}
set_option maxHeartbeats 1000000 in
theorem run_on {p : PgT} {cs : List Value} {f : FuT} {nv lf : Nat} {l : List (StT 8)} {m : Nat} (S : Nat → SS) (w : World) (hN : N ≤ w.heap.size) (hM : PgM N w cs p) (hmay : (pgN p).isSome = true) (hf : p.fs.getLast? = some f) (hv : f.v = nv) (hnv : nv ≤ 64) (hlf : lf ≤ 4194304) (hb : f.b.length = m) (hle : (S m).lf ≤ lf)
    (hS0 : S 0 = ⟨List.replicate p.da.toNat 0, List.replicate nv 0, lf⟩)
    (hst : ∀ (gr gw : Nat) (p0 p1 kv mv : Value) (gv j : Nat) (t : StT 8) (u : World) (cs : List Value), f.b[j]? = some t → N ≤ u.heap.size → StI N gr gw p.da.toNat p0 p1 kv mv gv nv (S j).W (S j).V (S j).lf u → StM N u 8 cs t → Calls Try.prog 35 (stArgs gr gv nv cs) u (StP N gr gw p.da.toNat p0 p1 kv mv gv nv ⟨0, 0, S (j + 1)⟩ u)) :
    Calls Try.prog 7 #[.agg cs.toArray, .slice none 0 0, .slice none 0 0, .int .i64 (lf : Int)] w fun e w' => ∃ gw, e = .returned (.tuple #[.agg #[.int .u8 1, .int .u64 0, .slice (some ⟨gw, 0, none⟩) p.da.toNat p.da.toNat, .int .i64 ((lf : Int) - (S m).lf)], .int .i64 0]) ∧ Arr w' gw 30 (uA (S m).W) ∧ w.heap.size ≤ gw ∧ Below w.heap.size w w' := by
  have hmy := fun (u : World) (hb : Below w.heap.size w u) => may_any p u (PgM.below (hb.mono hN) cs p hM) (by have := hb.size; omega)
  rw [hmay] at hmy
  unfold BoP at hmy
  have hda : 0 ≤ p.da ∧ p.da ≤ 1024 := by
    unfold pgN at hmay
    by_cases h : begB p = true
    · have := of_decide_eq_true h; omega
    · rw [if_neg h] at hmay; cases hmay
  obtain ⟨n, hn⟩ : ∃ n : Nat, p.da = n := ⟨p.da.toNat, by omega⟩
  obtain ⟨sp, k, cap, rfl, -, hS⟩ := id hM
  rw [hn] at hS0 hst hda hM hmy ⊢
  rw [show ((n : Int)).toNat = n by omega] at hS0 hst ⊢
  have hn10 : n ≤ 1024 := by omega
  have b0 : Below w.heap.size w ((w.alloc (.cells #[.slice sp k cap, .int .i64 (n : Int)] 24)).alloc (.cells #[.int .u8 0, .int .u64 0, .slice none 0 0, .int .i64 0] 32)) := (ab w _).alloc (by simp) _
  have A0 := (Arr.new w 24 #[.slice sp k cap, .int .i64 (n : Int)]).alloc (.cells #[.int .u8 0, .int .u64 0, .slice none 0 0, .int .i64 0] 32)
  have A1 := Arr.new (w.alloc (.cells #[.slice sp k cap, .int .i64 (n : Int)] 24)) 32 #[.int .u8 0, .int .u64 0, .slice none 0 0, .int .i64 0]
  simp only [World.size_alloc] at A1
  have hmy1 := hmy _ b0
  have hmk := fun (u : World) => mk25 n n u (by omega) (by omega)
  have hk0 : 0 < k := by
    rw [hS.len.out]
    cases h : p.fs with
    | nil => rw [h] at hf; cases hf
    | cons a r => simp
  have z1 : ¬ ((n : Int) < 0) := by omega
  have z2 : ¬ ((lf : Int) < 0) := by omega
  have z3 : ¬ ((4194304 : Int) < lf) := by omega
  clear hmy hM hmay hda hn
  go_enter Try.func7, Try.ntmps7
  go_upto_region 5 with (go_at_call 16; go_must (refine hmy1.mono ?_; rintro e w1 ⟨rfl, hb1⟩; have A01 := A0.bl hb1; have A11 := A1.bl hb1; have k0 := A01.cell 0; have k1 := A01.cell 1))
  have hs1 : w.heap.size + 2 ≤ w1.heap.size := by have := hb1.size; simpa using this
  refine wp_region_held_drew (S := fun u => Below w1.heap.size w1 u) (by kernel_rfl) ((Below.refl _ w1).drew) (fun hHeld => ?_)
  refine wpAnyH_take (i := 0) (oi := ⟨_, _, _, _, _, _⟩) (v := ?_) rfl (by kernel_rfl) (by kernel_rfl) (by kernel_rfl) (fun _ _ _ h => h) (Or.inl ⟨by rfl, ?_⟩) (by assumption) ?_
  rotate_left
  · intro u hSw
    have s0 := (hSw.cell (p := ⟨w.heap.size, 0, none⟩) (by show w.heap.size < _; omega)).trans (k0)
    have s1 := (hSw.cell (p := ⟨w.heap.size, 1, none⟩) (by show w.heap.size < _; omega)).trans (k1)
    go_simp
    try (with_reducible rfl)
  try simp only [Act.put, List.setIfInBounds_toArray, List.set_cons_zero, List.set_cons_succ]
  refine wpAnyH_take (i := 1) (oi := ⟨_, _, _, _, _, _⟩) (v := ?_) rfl (by kernel_rfl) (by kernel_rfl) (by kernel_rfl) (fun _ _ _ h => h) (Or.inl ⟨by rfl, ?_⟩) (by assumption) ?_
  rotate_left
  · intro u hSw
    go_simp
    try (with_reducible rfl)
  try simp only [Act.put, List.setIfInBounds_toArray, List.set_cons_zero, List.set_cons_succ]
  refine wpAnyH_take (i := 2) (oi := ⟨_, _, _, _, _, _⟩) (v := ?_) rfl (by kernel_rfl) (by kernel_rfl) (by kernel_rfl) (fun _ _ _ h => h) (Or.inl ⟨by rfl, ?_⟩) (by assumption) ?_
  rotate_left
  · intro u hSw
    have s1 := (hSw.cell (p := ⟨w.heap.size, 1, none⟩) (by show w.heap.size < _; omega)).trans (k1)
    go_simp
    try (with_reducible rfl)
  try simp only [Act.put, List.setIfInBounds_toArray, List.set_cons_zero, List.set_cons_succ]
  refine wpAnyH_take (i := 4) (oi := ⟨_, _, _, _, _, _⟩) (v := ?_) rfl (by kernel_rfl) (by kernel_rfl) (by kernel_rfl) (fun _ _ _ h => h) (Or.inl ⟨by rfl, ?_⟩) (by assumption) ?_
  rotate_left
  · intro u hSw
    go_simp
    try (with_reducible rfl)
  try simp only [Act.put, List.setIfInBounds_toArray, List.set_cons_zero, List.set_cons_succ]
  refine wpAnyH_take (i := 5) (oi := ⟨_, _, _, _, _, _⟩) (v := ?_) rfl (by kernel_rfl) (by kernel_rfl) (by kernel_rfl) (fun _ _ _ h => h) (Or.inl ⟨by rfl, ?_⟩) (by assumption) ?_
  rotate_left
  · intro u hSw
    go_simp
    try (with_reducible rfl)
  try simp only [Act.put, List.setIfInBounds_toArray, List.set_cons_zero, List.set_cons_succ]
  refine wpAnyH_ready (rs := [3, 6]) (by kernel_rfl) (by simp) ?_
  refine AllReadyH.cons (o := ⟨_, _, _, _, _, _⟩) rfl (fun K hK => ?_) (AllReadyH.cons (o := ⟨_, _, _, _, _, _⟩) rfl (fun K hK => ?_) AllReadyH.nil)
  · go_simp
    refine hK.out _ _ ((Below.refl _ w1).drew.alloc (Nat.le_refl _) _) (fun hHeld => ?_)
    clear hK K
    try simp only [Act.put, List.setIfInBounds_toArray, List.set_cons_zero, List.set_cons_succ]
    refine wpAnyH_ready (rs := [6]) (by kernel_rfl) (by simp) ?_
    refine AllReadyH.cons (o := ⟨_, _, _, _, _, _⟩) rfl (fun K hK => ?_) AllReadyH.nil
    go_simp
    refine (newShelf_any none 0 0 _).mono ?_
    rintro e w2 ⟨gp, rfl, hgp, -, hb2⟩
    have n2 := (Arr.new w1.drew 30 (madeCells #[.int .u64 0] n)).bl hb2
    have hB2 : Below w1.heap.size w1 w2 := ((Below.refl _ w1).drew.alloc (Nat.le_refl _) _).trans (hb2.mono (by simp))
    go_wp2_with fail
    refine hK.out _ _ hB2 (fun hHeld => ?_)
    clear hK K
    try simp only [Act.put, List.setIfInBounds_toArray, List.set_cons_zero, List.set_cons_succ]
    refine wpAnyH_take (i := 7) (oi := ⟨_, _, _, _, _, _⟩) (v := ?_) rfl (by kernel_rfl) (by kernel_rfl) (by kernel_rfl) (fun _ _ _ h => h) (Or.inl ⟨by rfl, ?_⟩) (by assumption) ?_
    rotate_left
    · intro u hSw
      go_simp
      try (with_reducible rfl)
    try simp only [Act.put, List.setIfInBounds_toArray, List.set_cons_zero, List.set_cons_succ]
    refine wpAnyH_ready (rs := [8]) (by kernel_rfl) (by simp) ?_
    refine AllReadyH.cons (o := ⟨_, _, _, _, _, _⟩) rfl (fun K hK => ?_) AllReadyH.nil
    go_simp
    refine hK.out _ _ (hB2.alloc hB2.size _) (fun hHeld => ?_)
    clear hK K
    try simp only [Act.put, List.setIfInBounds_toArray, List.set_cons_zero, List.set_cons_succ]
    refine wpAnyH_take (i := 9) (oi := ⟨_, _, _, _, _, _⟩) (v := ?_) rfl (by kernel_rfl) (by kernel_rfl) (by kernel_rfl) (fun _ _ _ h => h) (Or.inl ⟨by rfl, ?_⟩) (by assumption) ?_
    rotate_left
    · intro u hSw
      go_simp
      try (with_reducible rfl)
    try simp only [Act.put, List.setIfInBounds_toArray, List.set_cons_zero, List.set_cons_succ]
    refine wpAnyH_done (by kernel_rfl) ?_ _
    have AR : Arr (w2.alloc (.cells #[.slice sp k cap, .int .i64 (n : Int), .slice (some ⟨w1.heap.size, 0, none⟩) n n, .int .i64 (lf : Int), .slice none 0 0, .map (some gp)] 65)) w2.heap.size 65 #[.slice sp k cap, .int .i64 (n : Int), .slice (some ⟨w1.heap.size, 0, none⟩) n n, .int .i64 (lf : Int), .slice none 0 0, .map (some gp)] := Arr.new w2 65 _
    have AW : Arr (w2.alloc (.cells #[.slice sp k cap, .int .i64 (n : Int), .slice (some ⟨w1.heap.size, 0, none⟩) n n, .int .i64 (lf : Int), .slice none 0 0, .map (some gp)] 65)) w1.heap.size 30 (madeCells #[.int .u64 0] n) := n2.alloc _
    have hne : w2.heap.size ≠ w1.heap.size := by have := n2.lt; show w2.heap.size ≠ w1.heap.size; have h : w1.drew.heap.size = w1.heap.size := rfl; omega
    have hBV : Below w1.heap.size w1 (w2.alloc (.cells #[.slice sp k cap, .int .i64 (n : Int), .slice (some ⟨w1.heap.size, 0, none⟩) n n, .int .i64 (lf : Int), .slice none 0 0, .map (some gp)] 65)) := hB2.alloc hB2.size _
    have hgw1 : w.heap.size + 2 ≤ w1.heap.size := by have := hB2.size; omega
    have hgr1 : w.heap.size + 2 ≤ w2.heap.size := by have := hB2.size; omega
    have B1 := b0.trans (hb1.mono b0.size)
    have BV := B1.trans (hBV.mono B1.size)
    have hNV : N ≤ (w2.alloc (.cells #[.slice sp k cap, .int .i64 (n : Int), .slice (some ⟨w1.heap.size, 0, none⟩) n n, .int .i64 (lf : Int), .slice none 0 0, .map (some gp)] 65)).heap.size := by have := BV.size; omega
    have A0V := A01.bl hBV
    have A1V := A11.bl hBV
    have hSV := hS.imp (BV.mono hN) (FuM.below (BV.mono hN))
    clear hHeld hBV hb1 hB2 hb2 hgp A01 A11 B1 k0 k1 hs1 n2
    generalize hVV : (w2.alloc (.cells #[.slice sp k cap, .int .i64 (n : Int), .slice (some ⟨w1.heap.size, 0, none⟩) n n, .int .i64 (lf : Int), .slice none 0 0, .map (some gp)] 65)) = V at *
    rw [made_uA] at AW
    generalize hgg : w2.heap.size = gr at AR hne hgr1 ⊢
    generalize hgg2 : w1.heap.size = gw at AR AW hne hgw1 ⊢
    clear hVV hgg hgg2
    have hI : RunI gr gw n (.slice sp k cap) (.int .i64 (n : Int)) (.slice none 0 0) (.map (some gp)) (List.replicate n 0) lf V := ⟨AR, AW, hne, hid (by simp), hn10, fun x hx => by rw [(List.mem_replicate.1 hx).2]; simp [U64]⟩
    obtain ⟨g, off, rfl, hg, hR⟩ := hSV.at0 hk0
    obtain ⟨cf, hrg, hMf⟩ := hR (k - 1) f (by rw [hS.len.out, ← List.getLast?_eq_getElem?]; exact hf)
    obtain ⟨sq, mq, cq, rfl, -, hSb⟩ := hMf
    have hmq : mq = m := by rw [hSb.len.out, hb]
    have hfun := function_on (p := f.p) (v := f.v) S V hNV hI (by omega) (by omega) hv hnv hS0 hSb (fun gv => hst gr gw _ _ _ _ gv)
    subst hmq
    have c0 := hrg 0 _ rfl
    have c1 := hrg 1 _ rfl
    have c2 := hrg 2 _ rfl
    simp only [Nat.add_zero] at c0
    have r2 := AR.cell 2
    have v0 := A0V.cell 0
    have hkw : IntKind.i64.wrap ((k : Int) - 1) = ((k - 1 : Nat) : Int) := by rw [IntKind.wrap_i64]; have := hS.small; omega
    have hk1 : ((k - 1 : Nat) : Int) < k := by omega
    have hk2 : (0 : Int) ≤ ((k - 1 : Nat) : Int) := by omega
    have hlt3 : k - 1 < k := by omega
    clear hS hSV hR hrg hSb hst AW hS0 hI hf hb hv
    generalize k - 1 = kk at *
    unfold fuC at *
    go_upto_region 8 with (first
      | (refine wpList_copy_nothing (by rfl) (.tmp 43) (.tmp 44) 25 25 (by rfl) 30 Try.underlying25 (by exact s30) _ _ n n 0 0 (by rfl) (by rfl) (Nat.zero_min n) ?_)
      | (go_at_call 18; go_must (refine hfun.mono ?_; rintro e w3 ⟨rfl, hI3, hc3⟩; have i2 := hI3.ar.cell 2; have i3 := hI3.ar.cell 3; have A3 := hc3.arr A1V (by rintro (e | e) <;> omega); have a0 := A3.cell 0; have a1 := A3.cell 1; have a2 := A3.cell 2; have a3 := A3.cell 3; have f0 := A3.frozen 0; have f1 := A3.frozen 1; have f2 := A3.frozen 2; have f3 := A3.frozen 3)))
    have hsub : IntKind.i64.wrap ((lf : Int) - ((S mq).lf : Int)) = (lf : Int) - ((S mq).lf : Int) := by rw [IntKind.wrap_i64]; omega
    have hgrl : gr < w3.heap.size := hI3.ar.lt
    have hne1 : ¬ gr = w.heap.size + 1 := by omega
    have hne2 : ¬ w.heap.size + 1 = gr := by omega
    have hB3 : Below w.heap.size V w3 := hc3.bl fun i hi => ⟨by have := BV.size; omega, by rintro (e | e) <;> omega⟩
    have A4 := ((((A3.set 0 (.int .u8 1)).set 1 (.int .u64 0)).set 2 (.slice (some ⟨gw, 0, none⟩) n n)).set 3 (.int .i64 ((lf : Int) - ((S mq).lf : Int)))).drew
    have W4 := ((((hI3.aw.setOther (a := ⟨w.heap.size + 1, 0, none⟩) (.int .u8 1) (by show gw ≠ w.heap.size + 1; omega)).setOther (a := ⟨w.heap.size + 1, 1, none⟩) (.int .u64 0) (by show gw ≠ w.heap.size + 1; omega)).setOther (a := ⟨w.heap.size + 1, 2, none⟩) (.slice (some ⟨gw, 0, none⟩) n n) (by show gw ≠ w.heap.size + 1; omega)).setOther (a := ⟨w.heap.size + 1, 3, none⟩) (.int .i64 ((lf : Int) - ((S mq).lf : Int))) (by show gw ≠ w.heap.size + 1; omega)).drew
    have C3 : Ch (fun _ => False) w w3 := Ch.ob (BV.trans hB3)
    have B4 := ((((C3.st (g := w.heap.size + 1) (j := 0) (.int .u8 1) (fun h => by omega)).st (g := w.heap.size + 1) (j := 1) (.int .u64 0) (fun h => by omega)).st (g := w.heap.size + 1) (j := 2) (.slice (some ⟨gw, 0, none⟩) n n) (fun h => by omega)).st (g := w.heap.size + 1) (j := 3) (.int .i64 ((lf : Int) - ((S mq).lf : Int))) (fun h => by omega)).dw.bl (N := w.heap.size) (fun i hi => ⟨hi, id⟩)
    go_region
    go_wp2_with fail
    exact bodyPost_ret (v := .tuple #[.agg #[.int .u8 1, .int .u64 0, .slice (some ⟨gw, 0, none⟩) n n, .int .i64 ((lf : Int) - ((S mq).lf : Int))], .int .i64 0]) (resO Try.results7 rfl rfl rfl A4) rfl ⟨gw, rfl, W4, by omega, B4⟩
  · go_simp
    refine (newShelf_any none 0 0 _).mono ?_
    rintro e w2 ⟨gp, rfl, hgp, -, hb2⟩
    have hB2 : Below w1.heap.size w1 w2 := (Below.refl _ w1).drew.trans hb2
    go_wp2_with fail
    refine hK.out _ _ hB2 (fun hHeld => ?_)
    clear hK K
    try simp only [Act.put, List.setIfInBounds_toArray, List.set_cons_zero, List.set_cons_succ]
    refine wpAnyH_ready (rs := [3]) (by kernel_rfl) (by simp) ?_
    refine AllReadyH.cons (o := ⟨_, _, _, _, _, _⟩) rfl (fun K hK => ?_) AllReadyH.nil
    go_simp
    refine hK.out _ _ (hB2.alloc hB2.size _) (fun hHeld => ?_)
    clear hK K
    try simp only [Act.put, List.setIfInBounds_toArray, List.set_cons_zero, List.set_cons_succ]
    refine wpAnyH_take (i := 7) (oi := ⟨_, _, _, _, _, _⟩) (v := ?_) rfl (by kernel_rfl) (by kernel_rfl) (by kernel_rfl) (fun _ _ _ h => h) (Or.inl ⟨by rfl, ?_⟩) (by assumption) ?_
    rotate_left
    · intro u hSw
      go_simp
      try (with_reducible rfl)
    try simp only [Act.put, List.setIfInBounds_toArray, List.set_cons_zero, List.set_cons_succ]
    refine wpAnyH_ready (rs := [8]) (by kernel_rfl) (by simp) ?_
    refine AllReadyH.cons (o := ⟨_, _, _, _, _, _⟩) rfl (fun K hK => ?_) AllReadyH.nil
    go_simp
    refine hK.out _ _ ((hB2.alloc hB2.size _).alloc (by have := hB2.size; simp; omega) _) (fun hHeld => ?_)
    clear hK K
    try simp only [Act.put, List.setIfInBounds_toArray, List.set_cons_zero, List.set_cons_succ]
    refine wpAnyH_take (i := 9) (oi := ⟨_, _, _, _, _, _⟩) (v := ?_) rfl (by kernel_rfl) (by kernel_rfl) (by kernel_rfl) (fun _ _ _ h => h) (Or.inl ⟨by rfl, ?_⟩) (by assumption) ?_
    rotate_left
    · intro u hSw
      go_simp
      try (with_reducible rfl)
    try simp only [Act.put, List.setIfInBounds_toArray, List.set_cons_zero, List.set_cons_succ]
    refine wpAnyH_done (by kernel_rfl) ?_ _
    have AR : Arr ((w2.alloc (.cells (madeCells #[.int .u64 0] n) 30)).alloc (.cells #[.slice sp k cap, .int .i64 (n : Int), .slice (some ⟨w2.heap.size, 0, none⟩) n n, .int .i64 (lf : Int), .slice none 0 0, .map (some gp)] 65)) (w2.heap.size + 1) 65 #[.slice sp k cap, .int .i64 (n : Int), .slice (some ⟨w2.heap.size, 0, none⟩) n n, .int .i64 (lf : Int), .slice none 0 0, .map (some gp)] := by simpa using Arr.new (w2.alloc (.cells (madeCells #[.int .u64 0] n) 30)) 65 _
    have AW : Arr ((w2.alloc (.cells (madeCells #[.int .u64 0] n) 30)).alloc (.cells #[.slice sp k cap, .int .i64 (n : Int), .slice (some ⟨w2.heap.size, 0, none⟩) n n, .int .i64 (lf : Int), .slice none 0 0, .map (some gp)] 65)) w2.heap.size 30 (madeCells #[.int .u64 0] n) := (Arr.new w2 30 _).alloc _
    have hne : (w2.heap.size + 1) ≠ w2.heap.size := by omega
    have hBV : Below w1.heap.size w1 ((w2.alloc (.cells (madeCells #[.int .u64 0] n) 30)).alloc (.cells #[.slice sp k cap, .int .i64 (n : Int), .slice (some ⟨w2.heap.size, 0, none⟩) n n, .int .i64 (lf : Int), .slice none 0 0, .map (some gp)] 65)) := (hB2.alloc hB2.size _).alloc (by have := hB2.size; simp; omega) _
    have hgw1 : w.heap.size + 2 ≤ w2.heap.size := by have := hB2.size; omega
    have hgr1 : w.heap.size + 2 ≤ (w2.heap.size + 1) := by have := hB2.size; omega
    have B1 := b0.trans (hb1.mono b0.size)
    have BV := B1.trans (hBV.mono B1.size)
    have hNV : N ≤ ((w2.alloc (.cells (madeCells #[.int .u64 0] n) 30)).alloc (.cells #[.slice sp k cap, .int .i64 (n : Int), .slice (some ⟨w2.heap.size, 0, none⟩) n n, .int .i64 (lf : Int), .slice none 0 0, .map (some gp)] 65)).heap.size := by have := BV.size; omega
    have A0V := A01.bl hBV
    have A1V := A11.bl hBV
    have hSV := hS.imp (BV.mono hN) (FuM.below (BV.mono hN))
    clear hHeld hBV hb1 hB2 hb2 hgp A01 A11 B1 k0 k1 hs1 
    generalize hVV : ((w2.alloc (.cells (madeCells #[.int .u64 0] n) 30)).alloc (.cells #[.slice sp k cap, .int .i64 (n : Int), .slice (some ⟨w2.heap.size, 0, none⟩) n n, .int .i64 (lf : Int), .slice none 0 0, .map (some gp)] 65)) = V at *
    rw [made_uA] at AW
    generalize hgg : (w2.heap.size + 1) = gr at AR hne hgr1 ⊢
    generalize hgg2 : w2.heap.size = gw at AR AW hne hgw1 ⊢
    clear hVV hgg hgg2
    have hI : RunI gr gw n (.slice sp k cap) (.int .i64 (n : Int)) (.slice none 0 0) (.map (some gp)) (List.replicate n 0) lf V := ⟨AR, AW, hne, hid (by simp), hn10, fun x hx => by rw [(List.mem_replicate.1 hx).2]; simp [U64]⟩
    obtain ⟨g, off, rfl, hg, hR⟩ := hSV.at0 hk0
    obtain ⟨cf, hrg, hMf⟩ := hR (k - 1) f (by rw [hS.len.out, ← List.getLast?_eq_getElem?]; exact hf)
    obtain ⟨sq, mq, cq, rfl, -, hSb⟩ := hMf
    have hmq : mq = m := by rw [hSb.len.out, hb]
    have hfun := function_on (p := f.p) (v := f.v) S V hNV hI (by omega) (by omega) hv hnv hS0 hSb (fun gv => hst gr gw _ _ _ _ gv)
    subst hmq
    have c0 := hrg 0 _ rfl
    have c1 := hrg 1 _ rfl
    have c2 := hrg 2 _ rfl
    simp only [Nat.add_zero] at c0
    have r2 := AR.cell 2
    have v0 := A0V.cell 0
    have hkw : IntKind.i64.wrap ((k : Int) - 1) = ((k - 1 : Nat) : Int) := by rw [IntKind.wrap_i64]; have := hS.small; omega
    have hk1 : ((k - 1 : Nat) : Int) < k := by omega
    have hk2 : (0 : Int) ≤ ((k - 1 : Nat) : Int) := by omega
    have hlt3 : k - 1 < k := by omega
    clear hS hSV hR hrg hSb hst AW hS0 hI hf hb hv
    generalize k - 1 = kk at *
    unfold fuC at *
    go_upto_region 8 with (first
      | (refine wpList_copy_nothing (by rfl) (.tmp 43) (.tmp 44) 25 25 (by rfl) 30 Try.underlying25 (by exact s30) _ _ n n 0 0 (by rfl) (by rfl) (Nat.zero_min n) ?_)
      | (go_at_call 18; go_must (refine hfun.mono ?_; rintro e w3 ⟨rfl, hI3, hc3⟩; have i2 := hI3.ar.cell 2; have i3 := hI3.ar.cell 3; have A3 := hc3.arr A1V (by rintro (e | e) <;> omega); have a0 := A3.cell 0; have a1 := A3.cell 1; have a2 := A3.cell 2; have a3 := A3.cell 3; have f0 := A3.frozen 0; have f1 := A3.frozen 1; have f2 := A3.frozen 2; have f3 := A3.frozen 3)))
    have hsub : IntKind.i64.wrap ((lf : Int) - ((S mq).lf : Int)) = (lf : Int) - ((S mq).lf : Int) := by rw [IntKind.wrap_i64]; omega
    have hgrl : gr < w3.heap.size := hI3.ar.lt
    have hne1 : ¬ gr = w.heap.size + 1 := by omega
    have hne2 : ¬ w.heap.size + 1 = gr := by omega
    have hB3 : Below w.heap.size V w3 := hc3.bl fun i hi => ⟨by have := BV.size; omega, by rintro (e | e) <;> omega⟩
    have A4 := ((((A3.set 0 (.int .u8 1)).set 1 (.int .u64 0)).set 2 (.slice (some ⟨gw, 0, none⟩) n n)).set 3 (.int .i64 ((lf : Int) - ((S mq).lf : Int)))).drew
    have W4 := ((((hI3.aw.setOther (a := ⟨w.heap.size + 1, 0, none⟩) (.int .u8 1) (by show gw ≠ w.heap.size + 1; omega)).setOther (a := ⟨w.heap.size + 1, 1, none⟩) (.int .u64 0) (by show gw ≠ w.heap.size + 1; omega)).setOther (a := ⟨w.heap.size + 1, 2, none⟩) (.slice (some ⟨gw, 0, none⟩) n n) (by show gw ≠ w.heap.size + 1; omega)).setOther (a := ⟨w.heap.size + 1, 3, none⟩) (.int .i64 ((lf : Int) - ((S mq).lf : Int))) (by show gw ≠ w.heap.size + 1; omega)).drew
    have C3 : Ch (fun _ => False) w w3 := Ch.ob (BV.trans hB3)
    have B4 := ((((C3.st (g := w.heap.size + 1) (j := 0) (.int .u8 1) (fun h => by omega)).st (g := w.heap.size + 1) (j := 1) (.int .u64 0) (fun h => by omega)).st (g := w.heap.size + 1) (j := 2) (.slice (some ⟨gw, 0, none⟩) n n) (fun h => by omega)).st (g := w.heap.size + 1) (j := 3) (.int .i64 ((lf : Int) - ((S mq).lf : Int))) (fun h => by omega)).dw.bl (N := w.heap.size) (fun i hi => ⟨hi, id⟩)
    go_region
    go_wp2_with fail
    exact bodyPost_ret (v := .tuple #[.agg #[.int .u8 1, .int .u64 0, .slice (some ⟨gw, 0, none⟩) n n, .int .i64 ((lf : Int) - ((S mq).lf : Int))], .int .i64 0]) (resO Try.results7 rfl rfl rfl A4) rfl ⟨gw, rfl, W4, by omega, B4⟩
end Go.Proofs.Ytmljihggooaboaa
