/- Layer interp: the document's run. -/
import Derived.Test.YtmljihggooaboaaW08
import Derived.Test.YtmljihggooaboaaW24
import Derived.Test.YtmljihggooaboaaW26
import Derived.Test.YtmljihggooaboaaW45
import Derived.Test.YtmljihggooaboaaW31
import Derived.Laws.Rows
import Derived.Handy
import Derived.BigQuiet
import Derived.BigRegion
import Derived.Laws.MakeOwn
import Derived.Laws.CopyOwn
namespace Go.Proofs.Ytmljihggooaboaa
open Go.RowKit
set_option maxRecDepth 100000
set_option linter.unusedVariables false
set_option linter.unusedSimpArgs false

variable {N : Nat}
set_option maxHeartbeats 2000000 in
theorem drun_ok {p : PgT} {cs : List Value} {f : FuT} {lf : Nat} {sd : Option Addr} {nd cd : Nat} {D : List Int} {kp : Option Addr} {kn kc : Nat} {es : List En} (w : World) (hN : N ≤ w.heap.size) (hM : PgM N w cs p) (hmay : (pgN p).isSome = true) (hf : p.fs.getLast? = some f) (hv : 0 ≤ f.v) (hnv : f.v ≤ 64) (hlf : lf ≤ 4194304) (hD : AG sd nd D w) (hDn : (D.length : Int) ≤ p.da) (hDU : ∀ x ∈ D, U64 x) (hE : ES N w kp kn kc es) (hF0 : okF p.fs) (hU : EnvU (EV p.fs es)) (hol : ∀ a ∈ f.b, okS ((p.fs.take (p.fs.length - 1)).map FuT.p) f.v 8 a) :
    Calls Try.prog 8 #[.agg cs.toArray, .slice sd nd cd, .slice kp kn kc, .int .i64 (lf : Int)] w fun e w' => ∃ gw, e = .returned (.tuple #[.agg #[.int .u8 (fsB (rnR p es f D lf)), .int .u64 (fvB (rnR p es f D lf)), .slice (some ⟨gw, 0, none⟩) p.da.toNat p.da.toNat, .int .i64 ((lf : Int) - (rnR p es f D lf).s.lf)], .int .i64 0]) ∧ Arr w' gw 30 (uA (rnR p es f D lf).s.W) ∧ w.heap.size ≤ gw ∧ Below w.heap.size w w' ∧ (rnR p es f D lf).s.W.length = p.da.toNat := by
  have hmy := fun (u : World) (hb : Below w.heap.size w u) => refMay_any p u (PgM.below (hb.mono hN) cs p hM) (by have := hb.size; omega)
  rw [hmay] at hmy
  unfold BoP at hmy
  have hda : 0 ≤ p.da ∧ p.da ≤ 1024 := by
    unfold pgN at hmay
    by_cases h : begB p = true
    · have := of_decide_eq_true h; omega
    · rw [if_neg h] at hmay; cases hmay
  obtain ⟨n, hn⟩ : ∃ n : Nat, p.da = n := ⟨p.da.toNat, by omega⟩
  obtain ⟨nv, hnw⟩ : ∃ nv : Nat, f.v = nv := ⟨f.v.toNat, by omega⟩
  obtain ⟨sp, k, cap, rfl, -, hS⟩ := id hM
  have hRR : rnR p es f D lf = runL (stm (EV p.fs es) lf 8) f.b ⟨D ++ List.replicate (n - D.length) 0, List.replicate nv 0, lf⟩ := by unfold rnR; rw [hn, hnw]; rfl
  have hRl : (rnR p es f D lf).s.lf ≤ lf := by rw [hRR]; exact runL_lf (fun t s => stm_lf lf 8 t s) _ _
  have hRk : (rnR p es f D lf).k ≤ 3 := by rw [hRR]; exact runL_k _ _ _ _
  rw [hn] at hDn hda hM hmy ⊢
  rw [show ((n : Int)).toNat = n by omega]
  generalize rnR p es f D lf = R at hRR hRl hRk ⊢
  obtain ⟨xs, hxs⟩ : ∃ x, fsB R = x := ⟨_, rfl⟩
  obtain ⟨xv, hxv⟩ : ∃ x, fvB R = x := ⟨_, rfl⟩
  obtain ⟨xl, hxl⟩ : ∃ x, R.s.lf = x := ⟨_, rfl⟩
  obtain ⟨xr, hxr⟩ : ∃ x, (if R.k ≤ 1 then fvB R else 0) = x := ⟨_, rfl⟩
  obtain ⟨xe, hxe⟩ : ∃ x, (if R.k ≤ 1 then 0 else (R.k : Int)) = x := ⟨_, rfl⟩
  have hcase : (xe = 0 ∧ xs = 1 ∧ xr = xv) ∨ (xe = 2 ∧ xs = 2 ∧ xv = 0) ∨ (xe = 3 ∧ xs = 0 ∧ xv = 0) := by
    rw [← hxe, ← hxs, ← hxr, ← hxv]
    unfold fsB fvB
    have : R.k = 0 ∨ R.k = 1 ∨ R.k = 2 ∨ R.k = 3 := by omega
    rcases this with h | h | h | h <;> simp [h]
  rw [hxs, hxv, hxl]
  rw [hxl] at hRl
  have hn10 : n ≤ 1024 := by omega
  have hnd : nd = D.length := hD.1.out.symm
  subst hnd
  have hDl : D.length ≤ n := by omega
  have b0 : Below w.heap.size w ((w.alloc (.cells #[.slice sp k cap, .int .i64 (n : Int)] 24)).alloc (.cells #[.int .u8 0, .int .u64 0, .slice none 0 0, .int .i64 0] 32)) := (ab w _).alloc (by simp) _
  have A0 := (Arr.new w 24 #[.slice sp k cap, .int .i64 (n : Int)]).alloc (.cells #[.int .u8 0, .int .u64 0, .slice none 0 0, .int .i64 0] 32)
  have A1 := Arr.new (w.alloc (.cells #[.slice sp k cap, .int .i64 (n : Int)] 24)) 32 #[.int .u8 0, .int .u64 0, .slice none 0 0, .int .i64 0]
  simp only [World.size_alloc] at A1
  have hmy1 := hmy _ b0
  have hmk := fun (u : World) => mk25 n n u (by omega) (by omega)
  have hk0 : 0 < k := by
    rw [hS.len.out]
    cases h : p.fs with
    | nil => rw [h] at hf; cases hf
    | cons a r => simp
  have z1 : ¬ ((n : Int) < D.length) := by omega
  have z2 : ¬ ((lf : Int) < 0) := by omega
  have z3 : ¬ ((4194304 : Int) < lf) := by omega
  clear hmy hM hmay hda hn
  replace hxs := Hid.mk' hxs
  replace hxv := Hid.mk' hxv
  replace hxl := Hid.mk' hxl
  replace hxr := Hid.mk' hxr
  replace hxe := Hid.mk' hxe
  replace hcase := Hid.mk' hcase
  replace hRR := Hid.mk' hRR
  replace hDU := Hid.mk' hDU
  replace hol := Hid.mk' hol
  replace hnw := Hid.mk' hnw
  replace hD := Hid.mk' hD
  go_enter Try.func8, Try.ntmps8
  go_upto_region 5 with (go_at_call 13; go_must (refine hmy1.mono ?_; rintro e w1 ⟨rfl, hb1⟩; have A01 := A0.bl hb1; have A11 := A1.bl hb1; have k0 := A01.cell 0; have k1 := A01.cell 1))
  have hs1 : w.heap.size + 2 ≤ w1.heap.size := by have := hb1.size; simpa using this
  refine wp_region_held_drew (S := fun u => Below w1.heap.size w1 u) (by kernel_rfl) ((Below.refl _ w1).drew) (fun hHeld => ?_)
  refine wpAnyH_take (i := 0) (oi := ⟨_, _, _, _, _, _⟩) (v := ?_) rfl (by kernel_rfl) (by kernel_rfl) (by kernel_rfl) (fun _ _ _ h => h) (Or.inl ⟨by rfl, ?_⟩) (by assumption) ?_
  rotate_left
  · intro u hSw
    have s0 := (hSw.cell (p := ⟨w.heap.size, 0, none⟩) (by show w.heap.size < _; omega)).trans (k0)
    have s1 := (hSw.cell (p := ⟨w.heap.size, 1, none⟩) (by show w.heap.size < _; omega)).trans (k1)
    go_simp
    try (with_reducible rfl)
  try simp only [Act.put, List.setIfInBounds_toArray, List.set_cons_zero, List.set_cons_succ]
  refine wpAnyH_take (i := 1) (oi := ⟨_, _, _, _, _, _⟩) (v := ?_) rfl (by kernel_rfl) (by kernel_rfl) (by kernel_rfl) (fun _ _ _ h => h) (Or.inl ⟨by rfl, ?_⟩) (by assumption) ?_
  rotate_left
  · intro u hSw
    go_simp
    try (with_reducible rfl)
  try simp only [Act.put, List.setIfInBounds_toArray, List.set_cons_zero, List.set_cons_succ]
  refine wpAnyH_take (i := 2) (oi := ⟨_, _, _, _, _, _⟩) (v := ?_) rfl (by kernel_rfl) (by kernel_rfl) (by kernel_rfl) (fun _ _ _ h => h) (Or.inl ⟨by rfl, ?_⟩) (by assumption) ?_
  rotate_left
  · intro u hSw
    go_simp
    try (with_reducible rfl)
  try simp only [Act.put, List.setIfInBounds_toArray, List.set_cons_zero, List.set_cons_succ]
  refine wpAnyH_take (i := 3) (oi := ⟨_, _, _, _, _, _⟩) (v := ?_) rfl (by kernel_rfl) (by kernel_rfl) (by kernel_rfl) (fun _ _ _ h => h) (Or.inl ⟨by rfl, ?_⟩) (by assumption) ?_
  rotate_left
  · intro u hSw
    have s1 := (hSw.cell (p := ⟨w.heap.size, 1, none⟩) (by show w.heap.size < _; omega)).trans (k1)
    go_simp
    try (with_reducible rfl)
  try simp only [Act.put, List.setIfInBounds_toArray, List.set_cons_zero, List.set_cons_succ]
  refine wpAnyH_take (i := 5) (oi := ⟨_, _, _, _, _, _⟩) (v := ?_) rfl (by kernel_rfl) (by kernel_rfl) (by kernel_rfl) (fun _ _ _ h => h) (Or.inl ⟨by rfl, ?_⟩) (by assumption) ?_
  rotate_left
  · intro u hSw
    go_simp
    try (with_reducible rfl)
  try simp only [Act.put, List.setIfInBounds_toArray, List.set_cons_zero, List.set_cons_succ]
  refine wpAnyH_ready (rs := [4]) (by kernel_rfl) (by simp) ?_
  refine AllReadyH.cons (o := ⟨_, _, _, _, _, _⟩) rfl (fun K hK => ?_) AllReadyH.nil
  go_simp
  refine hK.out _ _ ((Below.refl _ w1).drew.alloc (Nat.le_refl _) _) (fun hHeld => ?_)
  clear hK K
  try simp only [Act.put, List.setIfInBounds_toArray, List.set_cons_zero, List.set_cons_succ]
  refine wpAnyH_take (i := 6) (oi := ⟨_, _, _, _, _, _⟩) (v := ?_) rfl (by kernel_rfl) (by kernel_rfl) (by kernel_rfl) (fun _ _ _ h => h) (Or.inl ⟨by rfl, ?_⟩) (by assumption) ?_
  rotate_left
  · intro u hSw
    go_simp
    try (with_reducible rfl)
  try simp only [Act.put, List.setIfInBounds_toArray, List.set_cons_zero, List.set_cons_succ]
  refine wpAnyH_ready (rs := [7]) (by kernel_rfl) (by simp) ?_
  refine AllReadyH.cons (o := ⟨_, _, _, _, _, _⟩) rfl (fun K hK => ?_) AllReadyH.nil
  go_simp
  refine hK.out _ _ (((Below.refl _ w1).drew.alloc (Nat.le_refl _) _).alloc (by simp) _) (fun hHeld => ?_)
  clear hK K
  try simp only [Act.put, List.setIfInBounds_toArray, List.set_cons_zero, List.set_cons_succ]
  refine wpAnyH_take (i := 8) (oi := ⟨_, _, _, _, _, _⟩) (v := ?_) rfl (by kernel_rfl) (by kernel_rfl) (by kernel_rfl) (fun _ _ _ h => h) (Or.inl ⟨by rfl, ?_⟩) (by assumption) ?_
  rotate_left
  · intro u hSw
    go_simp
    try (with_reducible rfl)
  try simp only [Act.put, List.setIfInBounds_toArray, List.set_cons_zero, List.set_cons_succ]
  refine wpAnyH_done (by kernel_rfl) ?_ _
  have AR : Arr (((w1.alloc (.cells (madeCells #[.int .u64 0] n) 30)).alloc (.cells #[.slice sp k cap, .int .i64 (n : Int), .slice kp kn kc, .slice (some ⟨w1.heap.size, 0, none⟩) n n, .int .i64 (lf : Int), .int .i64 0, .int .i64 0, .int .u64 0] 70)).drew) (w1.heap.size + 1) 70 #[.slice sp k cap, .int .i64 (n : Int), .slice kp kn kc, .slice (some ⟨w1.heap.size, 0, none⟩) n n, .int .i64 (lf : Int), .int .i64 0, .int .i64 0, .int .u64 0] := by
    have := (Arr.new (w1.alloc (.cells (madeCells #[.int .u64 0] n) 30)) 70 #[.slice sp k cap, .int .i64 (n : Int), .slice kp kn kc, .slice (some ⟨w1.heap.size, 0, none⟩) n n, .int .i64 (lf : Int), .int .i64 0, .int .i64 0, .int .u64 0]).drew
    simp only [World.size_alloc] at this
    exact this
  have AW : Arr (((w1.alloc (.cells (madeCells #[.int .u64 0] n) 30)).alloc (.cells #[.slice sp k cap, .int .i64 (n : Int), .slice kp kn kc, .slice (some ⟨w1.heap.size, 0, none⟩) n n, .int .i64 (lf : Int), .int .i64 0, .int .i64 0, .int .u64 0] 70)).drew) w1.heap.size 30 (madeCells #[.int .u64 0] n) := ((Arr.new w1 30 (madeCells #[.int .u64 0] n)).alloc _).drew
  have hne : w1.heap.size + 1 ≠ w1.heap.size := by omega
  have hBV : Below w1.heap.size w1 (((w1.alloc (.cells (madeCells #[.int .u64 0] n) 30)).alloc (.cells #[.slice sp k cap, .int .i64 (n : Int), .slice kp kn kc, .slice (some ⟨w1.heap.size, 0, none⟩) n n, .int .i64 (lf : Int), .int .i64 0, .int .i64 0, .int .u64 0] 70)).drew) := (((Below.refl _ w1).alloc (Nat.le_refl _) _).alloc (by simp) _).drew
  have hgw1 : w.heap.size + 2 ≤ w1.heap.size := hs1
  have hgr1 : w.heap.size + 2 ≤ w1.heap.size + 1 := by omega
  have B1 := b0.trans (hb1.mono b0.size)
  have BV := B1.trans (hBV.mono B1.size)
  have hNV : N ≤ (((w1.alloc (.cells (madeCells #[.int .u64 0] n) 30)).alloc (.cells #[.slice sp k cap, .int .i64 (n : Int), .slice kp kn kc, .slice (some ⟨w1.heap.size, 0, none⟩) n n, .int .i64 (lf : Int), .int .i64 0, .int .i64 0, .int .u64 0] 70)).drew).heap.size := by have := BV.size; omega
  have A0V := A01.bl hBV
  have A1V := A11.bl hBV
  have hSV := hS.imp (BV.mono hN) (FuM.below (BV.mono hN))
  clear hBV hb1 A01 A11 B1 k0 k1 hs1
  generalize hVV : (((w1.alloc (.cells (madeCells #[.int .u64 0] n) 30)).alloc (.cells #[.slice sp k cap, .int .i64 (n : Int), .slice kp kn kc, .slice (some ⟨w1.heap.size, 0, none⟩) n n, .int .i64 (lf : Int), .int .i64 0, .int .i64 0, .int .u64 0] 70)).drew) = V at *
  generalize hgg : w1.heap.size + 1 = gr at AR hne hgr1 ⊢
  generalize hgg2 : w1.heap.size = gw at AR AW hne hgw1 ⊢
  clear hVV hgg hgg2
  have r2 := AR.cell 3
  by_cases hD0 : D = []
  · have hl0 := Hid.mk' (show D.length = 0 by rw [hD0]; rfl)
    have AW1 : Arr V gw 30 (uA (D ++ List.replicate (n - D.length) 0)) := by rw [made_uA] at AW; rw [hD0]; simpa using AW
    clear hD0
    go_upto_region 7 with (refine wpList_copy_nothing (by rfl) (.tmp 42) (.tmp 43) 25 25 (by rfl) 30 Try.underlying25 (by exact s30) _ _ n n D.length cd (by rfl) (by rfl) (by rw [hl0.out]; exact Nat.zero_min n) ?_)
    have hc1 : Ch (fun k => k = gw) V V := Ch.refl _ _
    have AR1 := AR
    have BV1 : Below w.heap.size w V := BV.trans (hc1.bl fun i hi => ⟨by have := BV.size; omega, by omega⟩)
    have hNV1 : N ≤ V.heap.size := by have := BV1.size; omega
    have hSV1 := hS.imp (BV1.mono hN) (FuM.below (BV1.mono hN))
    have hsz1 := hc1.size
    have A0W := hc1.arr A0V (by omega)
    have A1W := hc1.arr A1V (by omega)
    have hI : DunI gr gw n (.slice sp k cap) (.int .i64 (n : Int)) (.slice kp kn kc) (D ++ List.replicate (n - D.length) 0) lf ((lf : Int) - lf) 0 0 V := ⟨by rw [Int.sub_self]; exact AR1, AW1, hne, hid (by simp; omega), hn10, fun x hx => by
      rcases List.mem_append.1 hx with h | h
      · exact hDU.out x h
      · rw [(List.mem_replicate.1 h).2]; exact u0⟩
    have hRB : RB (fun u => RS N u 3 (FuM N u) sp k cap p.fs ∧ ES N u kp kn kc es) N := fun u u' hb h => ⟨h.1.imp hb (FuM.below hb), h.2.below hb⟩
    have hf2 : p.fs[k - 1]? = some f := by rw [hS.len.out, ← List.getLast?_eq_getElem?]; exact hf
    have hfun := dcall (R := fun u => RS N u 3 (FuM N u) sp k cap p.fs ∧ ES N u kp kn kc es) (jf := k - 1) (nf := nv) (sx := none) (na := 0) (ca := 0) (L := []) (B := R) hRB V hNV1 hI (by omega) (by omega) ⟨hSV1, hE.below (BV1.mono hN)⟩ (Nat.le_refl lf) hlf hSV1 hf2 hnw.out (by have := hnw.out; omega) ⟨hid rfl, fun h => by simp at h⟩ (by simp) (fun x hx => by cases hx) (fun gv u sq mq cq h1 h2 h3 => by
      rw [hRR.out]
      refine dbody hRB (stm (EV p.fs es) lf 8) (fun t s h => stm_sp t s h) _ u h1 (by simpa using h2) h3 (fun a ha W V j u2 cs2 hk2 hN2 hK2 hM2 => ?_) (fun t s => stm_lf _ _ _ _)
      obtain ⟨G, rfl⟩ : ∃ G, lf = G + 1 := ⟨lf - 1, by have : j + 1 ≤ lf := hk2; omega⟩
      have ho := hol.out a ha
      rw [hnw.out] at ho
      exact dstm_any hRB (fun u h => h.1) (fun u h => h.2) hF0 hU G 8 a W V j gv nv (p.fs.length - 1) u2 cs2 (by have : j + 1 ≤ G + 1 := hk2; omega) hN2 hK2 hM2 ho)
    unfold CQ at hfun
    rw [hxr.out, hxe.out, hxl.out] at hfun
    have v0 := A0W.cell 0
    have hkw : IntKind.i64.wrap ((k : Int) - 1) = ((k - 1 : Nat) : Int) := by rw [IntKind.wrap_i64]; have := hS.small; omega
    replace hfun := Hid.mk' hfun
    clear hS hSV hI hf hf2 hU hE hF0 hSV1 AR1 AW1 AR AW hRB
    generalize k - 1 = kk at *
    go_upto_region 8 with (go_at_call 19; go_must (refine hfun.out.mono ?_; rintro e w3 ⟨he, hI3, hc3, -⟩; subst he))
    have i2 := hI3.ar.cell 3
    have i4 := hI3.ar.cell 5
    have i5 := hI3.ar.cell 6
    have I4 := (hI3.ar.alloc (.cells #[.int .u8 0, .int .u64 0, .slice none 0 0, .int .i64 0] 32)).drew
    have N4 := (Arr.new w3 32 #[.int .u8 0, .int .u64 0, .slice none 0 0, .int .i64 0]).drew
    have j2 := I4.cell 3
    have j4 := I4.cell 5
    have n0 := N4.cell 0
    have n1 := N4.cell 1
    have n2 := N4.cell 2
    have n3 := N4.cell 3
    have f0 := N4.frozen 0
    have f1 := N4.frozen 1
    have f2 := N4.frozen 2
    have f3 := N4.frozen 3
    go_region
    have hsub0 : (0 : Int) ≤ (lf : Int) - xl := by omega
    have hB3 : Below w.heap.size V w3 := hc3.bl fun i hi => ⟨by have := BV1.size; omega, by rintro (e | e) <;> omega⟩
    have A3 := hc3.arr A1W (by rintro (e | e) <;> omega)
    have hw3 : w.heap.size + 2 ≤ w3.heap.size := by have := hI3.ar.lt; omega
    have hgr3 := hI3.ar.lt
    have hgw3 := hI3.aw.lt
    have O4 := (Arr.new w3 32 #[.int .u8 1, .int .u64 xr, .slice (some ⟨gw, 0, none⟩) n n, .int .i64 ((lf : Int) - xl)]).drew
    have A4 := (A3.alloc (.cells #[.int .u8 1, .int .u64 xr, .slice (some ⟨gw, 0, none⟩) n n, .int .i64 ((lf : Int) - xl)] 32)).drew
    have R4 := (hI3.ar.alloc (.cells #[.int .u8 1, .int .u64 xr, .slice (some ⟨gw, 0, none⟩) n n, .int .i64 ((lf : Int) - xl)] 32)).drew
    have W4 := (hI3.aw.alloc (.cells #[.int .u8 1, .int .u64 xr, .slice (some ⟨gw, 0, none⟩) n n, .int .i64 ((lf : Int) - xl)] 32)).drew
    have C4 : Ch (fun _ => False) w _ := Ch.ob ((BV1.trans hB3).alloc (by omega) (.cells #[.int .u8 1, .int .u64 xr, .slice (some ⟨gw, 0, none⟩) n n, .int .i64 ((lf : Int) - xl)] 32)).drew
    have hlen := hI3.len
    generalize hoo : w3.heap.size = go at *
    have hg1 : go ≠ w.heap.size + 1 := by omega
    have hg2 : gw ≠ go := by omega
    have hg3 : gw ≠ w.heap.size + 1 := by omega
    have hg4 : gr ≠ go := by omega
    have hg5 : w.heap.size ≤ go := by omega
    clear j2 j4 n0 n1 n2 n3 f0 f1 f2 f3 I4 N4 i2 i4 i5 hI3 hc3 hB3 A3
    generalize hUU : (w3.alloc (.cells #[.int .u8 1, .int .u64 xr, .slice (some ⟨gw, 0, none⟩) n n, .int .i64 ((lf : Int) - xl)] 32)).drew = U at *
    have r6 := R4.cell 6
    have a0 := A4.cell 0
    have a1 := A4.cell 1
    have a2 := A4.cell 2
    have a3 := A4.cell 3
    have b0' := A4.frozen 0
    have b1' := A4.frozen 1
    have b2' := A4.frozen 2
    have b3' := A4.frozen 3
    have o0 := O4.cell 0
    have o1 := O4.cell 1
    have o2 := O4.cell 2
    have o3 := O4.cell 3
    have p0' := O4.frozen 0
    have p1' := O4.frozen 1
    rcases hcase.out with ⟨rfl, rfl, rfl⟩ | ⟨rfl, rfl, rfl⟩ | ⟨rfl, rfl, rfl⟩
    · have A5 := ((((A4.set 0 (.int .u8 1)).set 1 (.int .u64 xr)).set 2 (.slice (some ⟨gw, 0, none⟩) n n)).set 3 (.int .i64 ((lf : Int) - xl)))
      have W5 := ((((W4.setOther (a := ⟨w.heap.size + 1, 0, none⟩) (.int .u8 1) (by show gw ≠ w.heap.size + 1; omega)).setOther (a := ⟨w.heap.size + 1, 1, none⟩) (.int .u64 xr) (by show gw ≠ w.heap.size + 1; omega)).setOther (a := ⟨w.heap.size + 1, 2, none⟩) (.slice (some ⟨gw, 0, none⟩) n n) (by show gw ≠ w.heap.size + 1; omega)).setOther (a := ⟨w.heap.size + 1, 3, none⟩) (.int .i64 ((lf : Int) - xl)) (by show gw ≠ w.heap.size + 1; omega))
      have B5 := ((((C4.st (g := w.heap.size + 1) (j := 0) (.int .u8 1) (fun h => by omega)).st (g := w.heap.size + 1) (j := 1) (.int .u64 xr) (fun h => by omega)).st (g := w.heap.size + 1) (j := 2) (.slice (some ⟨gw, 0, none⟩) n n) (fun h => by omega)).st (g := w.heap.size + 1) (j := 3) (.int .i64 ((lf : Int) - xl)) (fun h => by omega))
      go_wp2_with fail
      exact bodyPost_ret (v := .tuple #[.agg #[.int .u8 1, .int .u64 xr, .slice (some ⟨gw, 0, none⟩) n n, .int .i64 ((lf : Int) - xl)], .int .i64 0]) (resO Try.results8 rfl rfl rfl A5) rfl ⟨gw, rfl, W5, by omega, B5.bl fun i hi => ⟨hi, fun h => h⟩, hlen.out⟩
    · have A5 := ((((((A4.setOther (a := ⟨go, 0, none⟩) (.int .u8 2) (by show w.heap.size + 1 ≠ go; omega)).setOther (a := ⟨go, 1, none⟩) (.int .u64 0) (by show w.heap.size + 1 ≠ go; omega)).set 0 (.int .u8 2)).set 1 (.int .u64 0)).set 2 (.slice (some ⟨gw, 0, none⟩) n n)).set 3 (.int .i64 ((lf : Int) - xl)))
      have W5 := ((((((W4.setOther (a := ⟨go, 0, none⟩) (.int .u8 2) (by show gw ≠ go; omega)).setOther (a := ⟨go, 1, none⟩) (.int .u64 0) (by show gw ≠ go; omega)).setOther (a := ⟨w.heap.size + 1, 0, none⟩) (.int .u8 2) (by show gw ≠ w.heap.size + 1; omega)).setOther (a := ⟨w.heap.size + 1, 1, none⟩) (.int .u64 0) (by show gw ≠ w.heap.size + 1; omega)).setOther (a := ⟨w.heap.size + 1, 2, none⟩) (.slice (some ⟨gw, 0, none⟩) n n) (by show gw ≠ w.heap.size + 1; omega)).setOther (a := ⟨w.heap.size + 1, 3, none⟩) (.int .i64 ((lf : Int) - xl)) (by show gw ≠ w.heap.size + 1; omega))
      have B5 := ((((((C4.st (g := go) (j := 0) (.int .u8 2) (fun h => by omega)).st (g := go) (j := 1) (.int .u64 0) (fun h => by omega)).st (g := w.heap.size + 1) (j := 0) (.int .u8 2) (fun h => by omega)).st (g := w.heap.size + 1) (j := 1) (.int .u64 0) (fun h => by omega)).st (g := w.heap.size + 1) (j := 2) (.slice (some ⟨gw, 0, none⟩) n n) (fun h => by omega)).st (g := w.heap.size + 1) (j := 3) (.int .i64 ((lf : Int) - xl)) (fun h => by omega))
      go_wp2_with fail
      exact bodyPost_ret (v := .tuple #[.agg #[.int .u8 2, .int .u64 0, .slice (some ⟨gw, 0, none⟩) n n, .int .i64 ((lf : Int) - xl)], .int .i64 0]) (resO Try.results8 rfl rfl rfl A5) rfl ⟨gw, rfl, W5, by omega, B5.bl fun i hi => ⟨hi, fun h => h⟩, hlen.out⟩
    · have A5 := ((((((A4.setOther (a := ⟨go, 0, none⟩) (.int .u8 0) (by show w.heap.size + 1 ≠ go; omega)).setOther (a := ⟨go, 1, none⟩) (.int .u64 0) (by show w.heap.size + 1 ≠ go; omega)).set 0 (.int .u8 0)).set 1 (.int .u64 0)).set 2 (.slice (some ⟨gw, 0, none⟩) n n)).set 3 (.int .i64 ((lf : Int) - xl)))
      have W5 := ((((((W4.setOther (a := ⟨go, 0, none⟩) (.int .u8 0) (by show gw ≠ go; omega)).setOther (a := ⟨go, 1, none⟩) (.int .u64 0) (by show gw ≠ go; omega)).setOther (a := ⟨w.heap.size + 1, 0, none⟩) (.int .u8 0) (by show gw ≠ w.heap.size + 1; omega)).setOther (a := ⟨w.heap.size + 1, 1, none⟩) (.int .u64 0) (by show gw ≠ w.heap.size + 1; omega)).setOther (a := ⟨w.heap.size + 1, 2, none⟩) (.slice (some ⟨gw, 0, none⟩) n n) (by show gw ≠ w.heap.size + 1; omega)).setOther (a := ⟨w.heap.size + 1, 3, none⟩) (.int .i64 ((lf : Int) - xl)) (by show gw ≠ w.heap.size + 1; omega))
      have B5 := ((((((C4.st (g := go) (j := 0) (.int .u8 0) (fun h => by omega)).st (g := go) (j := 1) (.int .u64 0) (fun h => by omega)).st (g := w.heap.size + 1) (j := 0) (.int .u8 0) (fun h => by omega)).st (g := w.heap.size + 1) (j := 1) (.int .u64 0) (fun h => by omega)).st (g := w.heap.size + 1) (j := 2) (.slice (some ⟨gw, 0, none⟩) n n) (fun h => by omega)).st (g := w.heap.size + 1) (j := 3) (.int .i64 ((lf : Int) - xl)) (fun h => by omega))
      go_wp2_with fail
      exact bodyPost_ret (v := .tuple #[.agg #[.int .u8 0, .int .u64 0, .slice (some ⟨gw, 0, none⟩) n n, .int .i64 ((lf : Int) - xl)], .int .i64 0]) (resO Try.results8 rfl rfl rfl A5) rfl ⟨gw, rfl, W5, by omega, B5.bl fun i hi => ⟨hi, fun h => h⟩, hlen.out⟩
  · obtain ⟨ad, had, hcs⟩ := hD.out.2 (List.length_pos_iff.2 hD0)
    subst had
    have hsrc : Hid (∀ j v, (D.map fun x => Value.int .u64 x)[j]? = some v → V.cell? (ad.add j) = some v) := Hid.mk' fun j v hv => by
      rw [List.getElem?_map] at hv
      obtain ⟨x, hx, rfl⟩ := Option.map_eq_some_iff.1 hv
      have := hcs j x hx
      exact (BV.cell (block_lt_of_cell this)).trans this
    have hsp := spl hDl
    have hc1 := (Ch.refl (fun k => k = gw) V).setRow (g := gw) (splice (madeCells #[Value.int .u64 0] n).toList 0 (D.map fun x => Value.int .u64 x)).toArray (fun _ => rfl)
    have AR1 := AR.setRowOther (splice (madeCells #[Value.int .u64 0] n).toList 0 (D.map fun x => Value.int .u64 x)).toArray hne
    have AW1 := Eq.mp (congrArg (fun C => Arr (V.setRow gw (splice (madeCells #[Value.int .u64 0] n).toList 0 (D.map fun x => Value.int .u64 x)).toArray) gw 30 C) hsp) (AW.setRow (splice (madeCells #[Value.int .u64 0] n).toList 0 (D.map fun x => Value.int .u64 x)).toArray)
    clear hcs
    go_upto_region 7 with (refine wpList_copy_own (by rfl) (.tmp 42) (.tmp 43) 25 25 (by rfl) 30 Try.underlying25 (by exact s30) gw 0 n n ad D.length cd (by rfl) (by rfl) (madeCells #[.int .u64 0] n) 30 AW (D.map fun x => Value.int .u64 x) (by rw [List.length_map]; exact (Nat.min_eq_left hDl).symm) hsrc.out (by rw [List.length_map, size_madeCells]; simp; omega) (by intro v hv; obtain ⟨x, -, rfl⟩ := List.mem_map.1 hv; rfl) ?_)
    generalize hV1 : V.setRow gw (splice (madeCells #[Value.int .u64 0] n).toList 0 (D.map fun x => Value.int .u64 x)).toArray = V1 at *
    try rw [show V.setRow gw ((madeCells #[Value.int .u64 0] n).toList.take 0 ++ ((D.map fun x => Value.int .u64 x) ++ (madeCells #[Value.int .u64 0] n).toList.drop (0 + (D.map fun x => Value.int .u64 x).length))).toArray = V1 from hV1]
    clear hV1
    have BV1 : Below w.heap.size w V1 := BV.trans (hc1.bl fun i hi => ⟨by have := BV.size; omega, by omega⟩)
    have hNV1 : N ≤ V1.heap.size := by have := BV1.size; omega
    have hSV1 := hS.imp (BV1.mono hN) (FuM.below (BV1.mono hN))
    have hsz1 := hc1.size
    have A0W := hc1.arr A0V (by omega)
    have A1W := hc1.arr A1V (by omega)
    have hI : DunI gr gw n (.slice sp k cap) (.int .i64 (n : Int)) (.slice kp kn kc) (D ++ List.replicate (n - D.length) 0) lf ((lf : Int) - lf) 0 0 V1 := ⟨by rw [Int.sub_self]; exact AR1, AW1, hne, hid (by simp; omega), hn10, fun x hx => by
      rcases List.mem_append.1 hx with h | h
      · exact hDU.out x h
      · rw [(List.mem_replicate.1 h).2]; exact u0⟩
    have hRB : RB (fun u => RS N u 3 (FuM N u) sp k cap p.fs ∧ ES N u kp kn kc es) N := fun u u' hb h => ⟨h.1.imp hb (FuM.below hb), h.2.below hb⟩
    have hf2 : p.fs[k - 1]? = some f := by rw [hS.len.out, ← List.getLast?_eq_getElem?]; exact hf
    have hfun := dcall (R := fun u => RS N u 3 (FuM N u) sp k cap p.fs ∧ ES N u kp kn kc es) (jf := k - 1) (nf := nv) (sx := none) (na := 0) (ca := 0) (L := []) (B := R) hRB V1 hNV1 hI (by omega) (by omega) ⟨hSV1, hE.below (BV1.mono hN)⟩ (Nat.le_refl lf) hlf hSV1 hf2 hnw.out (by have := hnw.out; omega) ⟨hid rfl, fun h => by simp at h⟩ (by simp) (fun x hx => by cases hx) (fun gv u sq mq cq h1 h2 h3 => by
      rw [hRR.out]
      refine dbody hRB (stm (EV p.fs es) lf 8) (fun t s h => stm_sp t s h) _ u h1 (by simpa using h2) h3 (fun a ha W V j u2 cs2 hk2 hN2 hK2 hM2 => ?_) (fun t s => stm_lf _ _ _ _)
      obtain ⟨G, rfl⟩ : ∃ G, lf = G + 1 := ⟨lf - 1, by have : j + 1 ≤ lf := hk2; omega⟩
      have ho := hol.out a ha
      rw [hnw.out] at ho
      exact dstm_any hRB (fun u h => h.1) (fun u h => h.2) hF0 hU G 8 a W V j gv nv (p.fs.length - 1) u2 cs2 (by have : j + 1 ≤ G + 1 := hk2; omega) hN2 hK2 hM2 ho)
    unfold CQ at hfun
    rw [hxr.out, hxe.out, hxl.out] at hfun
    have v0 := A0W.cell 0
    have hkw : IntKind.i64.wrap ((k : Int) - 1) = ((k - 1 : Nat) : Int) := by rw [IntKind.wrap_i64]; have := hS.small; omega
    replace hfun := Hid.mk' hfun
    clear hS hSV hI hf hf2 hU hE hF0 hSV1 AR1 AW1 AR AW hRB
    generalize k - 1 = kk at *
    go_upto_region 8 with (go_at_call 19; go_must (refine hfun.out.mono ?_; rintro e w3 ⟨he, hI3, hc3, -⟩; subst he))
    have i2 := hI3.ar.cell 3
    have i4 := hI3.ar.cell 5
    have i5 := hI3.ar.cell 6
    have I4 := (hI3.ar.alloc (.cells #[.int .u8 0, .int .u64 0, .slice none 0 0, .int .i64 0] 32)).drew
    have N4 := (Arr.new w3 32 #[.int .u8 0, .int .u64 0, .slice none 0 0, .int .i64 0]).drew
    have j2 := I4.cell 3
    have j4 := I4.cell 5
    have n0 := N4.cell 0
    have n1 := N4.cell 1
    have n2 := N4.cell 2
    have n3 := N4.cell 3
    have f0 := N4.frozen 0
    have f1 := N4.frozen 1
    have f2 := N4.frozen 2
    have f3 := N4.frozen 3
    go_region
    have hsub0 : (0 : Int) ≤ (lf : Int) - xl := by omega
    have hB3 : Below w.heap.size V1 w3 := hc3.bl fun i hi => ⟨by have := BV1.size; omega, by rintro (e | e) <;> omega⟩
    have A3 := hc3.arr A1W (by rintro (e | e) <;> omega)
    have hw3 : w.heap.size + 2 ≤ w3.heap.size := by have := hI3.ar.lt; omega
    have hgr3 := hI3.ar.lt
    have hgw3 := hI3.aw.lt
    have O4 := (Arr.new w3 32 #[.int .u8 1, .int .u64 xr, .slice (some ⟨gw, 0, none⟩) n n, .int .i64 ((lf : Int) - xl)]).drew
    have A4 := (A3.alloc (.cells #[.int .u8 1, .int .u64 xr, .slice (some ⟨gw, 0, none⟩) n n, .int .i64 ((lf : Int) - xl)] 32)).drew
    have R4 := (hI3.ar.alloc (.cells #[.int .u8 1, .int .u64 xr, .slice (some ⟨gw, 0, none⟩) n n, .int .i64 ((lf : Int) - xl)] 32)).drew
    have W4 := (hI3.aw.alloc (.cells #[.int .u8 1, .int .u64 xr, .slice (some ⟨gw, 0, none⟩) n n, .int .i64 ((lf : Int) - xl)] 32)).drew
    have C4 : Ch (fun _ => False) w _ := Ch.ob ((BV1.trans hB3).alloc (by omega) (.cells #[.int .u8 1, .int .u64 xr, .slice (some ⟨gw, 0, none⟩) n n, .int .i64 ((lf : Int) - xl)] 32)).drew
    have hlen := hI3.len
    generalize hoo : w3.heap.size = go at *
    have hg1 : go ≠ w.heap.size + 1 := by omega
    have hg2 : gw ≠ go := by omega
    have hg3 : gw ≠ w.heap.size + 1 := by omega
    have hg4 : gr ≠ go := by omega
    have hg5 : w.heap.size ≤ go := by omega
    clear j2 j4 n0 n1 n2 n3 f0 f1 f2 f3 I4 N4 i2 i4 i5 hI3 hc3 hB3 A3
    generalize hUU : (w3.alloc (.cells #[.int .u8 1, .int .u64 xr, .slice (some ⟨gw, 0, none⟩) n n, .int .i64 ((lf : Int) - xl)] 32)).drew = U at *
    have r6 := R4.cell 6
    have a0 := A4.cell 0
    have a1 := A4.cell 1
    have a2 := A4.cell 2
    have a3 := A4.cell 3
    have b0' := A4.frozen 0
    have b1' := A4.frozen 1
    have b2' := A4.frozen 2
    have b3' := A4.frozen 3
    have o0 := O4.cell 0
    have o1 := O4.cell 1
    have o2 := O4.cell 2
    have o3 := O4.cell 3
    have p0' := O4.frozen 0
    have p1' := O4.frozen 1
    rcases hcase.out with ⟨rfl, rfl, rfl⟩ | ⟨rfl, rfl, rfl⟩ | ⟨rfl, rfl, rfl⟩
    · have A5 := ((((A4.set 0 (.int .u8 1)).set 1 (.int .u64 xr)).set 2 (.slice (some ⟨gw, 0, none⟩) n n)).set 3 (.int .i64 ((lf : Int) - xl)))
      have W5 := ((((W4.setOther (a := ⟨w.heap.size + 1, 0, none⟩) (.int .u8 1) (by show gw ≠ w.heap.size + 1; omega)).setOther (a := ⟨w.heap.size + 1, 1, none⟩) (.int .u64 xr) (by show gw ≠ w.heap.size + 1; omega)).setOther (a := ⟨w.heap.size + 1, 2, none⟩) (.slice (some ⟨gw, 0, none⟩) n n) (by show gw ≠ w.heap.size + 1; omega)).setOther (a := ⟨w.heap.size + 1, 3, none⟩) (.int .i64 ((lf : Int) - xl)) (by show gw ≠ w.heap.size + 1; omega))
      have B5 := ((((C4.st (g := w.heap.size + 1) (j := 0) (.int .u8 1) (fun h => by omega)).st (g := w.heap.size + 1) (j := 1) (.int .u64 xr) (fun h => by omega)).st (g := w.heap.size + 1) (j := 2) (.slice (some ⟨gw, 0, none⟩) n n) (fun h => by omega)).st (g := w.heap.size + 1) (j := 3) (.int .i64 ((lf : Int) - xl)) (fun h => by omega))
      go_wp2_with fail
      exact bodyPost_ret (v := .tuple #[.agg #[.int .u8 1, .int .u64 xr, .slice (some ⟨gw, 0, none⟩) n n, .int .i64 ((lf : Int) - xl)], .int .i64 0]) (resO Try.results8 rfl rfl rfl A5) rfl ⟨gw, rfl, W5, by omega, B5.bl fun i hi => ⟨hi, fun h => h⟩, hlen.out⟩
    · have A5 := ((((((A4.setOther (a := ⟨go, 0, none⟩) (.int .u8 2) (by show w.heap.size + 1 ≠ go; omega)).setOther (a := ⟨go, 1, none⟩) (.int .u64 0) (by show w.heap.size + 1 ≠ go; omega)).set 0 (.int .u8 2)).set 1 (.int .u64 0)).set 2 (.slice (some ⟨gw, 0, none⟩) n n)).set 3 (.int .i64 ((lf : Int) - xl)))
      have W5 := ((((((W4.setOther (a := ⟨go, 0, none⟩) (.int .u8 2) (by show gw ≠ go; omega)).setOther (a := ⟨go, 1, none⟩) (.int .u64 0) (by show gw ≠ go; omega)).setOther (a := ⟨w.heap.size + 1, 0, none⟩) (.int .u8 2) (by show gw ≠ w.heap.size + 1; omega)).setOther (a := ⟨w.heap.size + 1, 1, none⟩) (.int .u64 0) (by show gw ≠ w.heap.size + 1; omega)).setOther (a := ⟨w.heap.size + 1, 2, none⟩) (.slice (some ⟨gw, 0, none⟩) n n) (by show gw ≠ w.heap.size + 1; omega)).setOther (a := ⟨w.heap.size + 1, 3, none⟩) (.int .i64 ((lf : Int) - xl)) (by show gw ≠ w.heap.size + 1; omega))
      have B5 := ((((((C4.st (g := go) (j := 0) (.int .u8 2) (fun h => by omega)).st (g := go) (j := 1) (.int .u64 0) (fun h => by omega)).st (g := w.heap.size + 1) (j := 0) (.int .u8 2) (fun h => by omega)).st (g := w.heap.size + 1) (j := 1) (.int .u64 0) (fun h => by omega)).st (g := w.heap.size + 1) (j := 2) (.slice (some ⟨gw, 0, none⟩) n n) (fun h => by omega)).st (g := w.heap.size + 1) (j := 3) (.int .i64 ((lf : Int) - xl)) (fun h => by omega))
      go_wp2_with fail
      exact bodyPost_ret (v := .tuple #[.agg #[.int .u8 2, .int .u64 0, .slice (some ⟨gw, 0, none⟩) n n, .int .i64 ((lf : Int) - xl)], .int .i64 0]) (resO Try.results8 rfl rfl rfl A5) rfl ⟨gw, rfl, W5, by omega, B5.bl fun i hi => ⟨hi, fun h => h⟩, hlen.out⟩
    · have A5 := ((((((A4.setOther (a := ⟨go, 0, none⟩) (.int .u8 0) (by show w.heap.size + 1 ≠ go; omega)).setOther (a := ⟨go, 1, none⟩) (.int .u64 0) (by show w.heap.size + 1 ≠ go; omega)).set 0 (.int .u8 0)).set 1 (.int .u64 0)).set 2 (.slice (some ⟨gw, 0, none⟩) n n)).set 3 (.int .i64 ((lf : Int) - xl)))
      have W5 := ((((((W4.setOther (a := ⟨go, 0, none⟩) (.int .u8 0) (by show gw ≠ go; omega)).setOther (a := ⟨go, 1, none⟩) (.int .u64 0) (by show gw ≠ go; omega)).setOther (a := ⟨w.heap.size + 1, 0, none⟩) (.int .u8 0) (by show gw ≠ w.heap.size + 1; omega)).setOther (a := ⟨w.heap.size + 1, 1, none⟩) (.int .u64 0) (by show gw ≠ w.heap.size + 1; omega)).setOther (a := ⟨w.heap.size + 1, 2, none⟩) (.slice (some ⟨gw, 0, none⟩) n n) (by show gw ≠ w.heap.size + 1; omega)).setOther (a := ⟨w.heap.size + 1, 3, none⟩) (.int .i64 ((lf : Int) - xl)) (by show gw ≠ w.heap.size + 1; omega))
      have B5 := ((((((C4.st (g := go) (j := 0) (.int .u8 0) (fun h => by omega)).st (g := go) (j := 1) (.int .u64 0) (fun h => by omega)).st (g := w.heap.size + 1) (j := 0) (.int .u8 0) (fun h => by omega)).st (g := w.heap.size + 1) (j := 1) (.int .u64 0) (fun h => by omega)).st (g := w.heap.size + 1) (j := 2) (.slice (some ⟨gw, 0, none⟩) n n) (fun h => by omega)).st (g := w.heap.size + 1) (j := 3) (.int .i64 ((lf : Int) - xl)) (fun h => by omega))
      go_wp2_with fail
      exact bodyPost_ret (v := .tuple #[.agg #[.int .u8 0, .int .u64 0, .slice (some ⟨gw, 0, none⟩) n n, .int .i64 ((lf : Int) - xl)], .int .i64 0]) (resO Try.results8 rfl rfl rfl A5) rfl ⟨gw, rfl, W5, by omega, B5.bl fun i hi => ⟨hi, fun h => h⟩, hlen.out⟩
end Go.Proofs.Ytmljihggooaboaa
