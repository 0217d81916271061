/- Layer interp: a run. -/
import Derived.Test.YtmljihggooaboaaW08
import Derived.Test.YtmljihggooaboaaW23
import Derived.Laws.Rows
import Derived.Handy
import Derived.BigQuiet
import Derived.BigRegion
import Derived.Laws.MakeOwn
import Derived.Laws.CopyOwn
namespace Go.Proofs.Ytmljihggooaboaa
open Go.RowKit
set_option maxRecDepth 100000
set_option linter.unusedVariables false
set_option linter.unusedSimpArgs false

variable {N : Nat}
/-- Statements, of whatever depth. -/
theorem body_any {Z N gr gw n gm : Nat} {p1 : Value} {es : List En} {kp : Option Addr} {kn kc : Nat} {fp : Option Addr} {fm fc : Nat} {fs : List FuT} {d : Nat} (hp : PL Z N gr gw gm) (hF0 : okF fs) (hU : EnvU (EV fs es)) (G : Nat) (l : List (StT d)) (gv nv i : Nat) (s : SS) (u : World) (sp : Option Addr) (m cap : Nat) (hol : ∀ a ∈ l, okS ((fs.take i).map FuT.p) nv d a) (hlf : s.lf ≤ G) (hNu : N ≤ u.heap.size) (hKu : KR fs es Z N gr gw n gm p1 kp kn kc fp fm fc gv nv s u) (hSu : RS N u 7 (StM N u d) sp m cap l) :
    Calls Try.prog 27 #[.pointer (some ⟨gr, 0, none⟩), .slice sp m cap, .slice (some ⟨gv, 0, none⟩) nv nv] u (KP (KR fs es Z N gr gw n gm p1 kp kn kc fp fm fc gv nv) (PP gr gw gm gv) (runL (stm (EV fs es) G d) l s) u) := by
  have hX : XK (XR fs es Z N gm kp kn kc fp fm fc) Z gr gw := XB.keeps hp.r1 hp.w1 hp.nz hp.rz hp.wz hp.m2 hp.n1 hp.n2
  refine Calls.mono (stmts_any (fun s u => KR fs es Z N gr gw n gm p1 kp kn kc fp fm fc gv nv s u ∧ s.lf ≤ G) (fun s u u' h hb => ⟨h.1.bl hX hb, h.2⟩) (PP gr gw gm gv) (fun k hk => ?_) (stm (EV fs es) G d) s u hNu ⟨hKu, hlf⟩ hSu (fun a ha s2 u2 cs2 hN2 hK2 hM2 => ?_)) (fun e w' h => ⟨h.1, h.2.1.1, h.2.2⟩)
  · rcases hk with h | h | h | h
    · rw [h]; exact hp.r1
    · rw [h]; exact hp.w1
    · rw [h]; exact hp.m1
    · rw [h]; exact hKu.st.l3
  · exact Calls.mono (stm_any hp hF0 hU G d a s2 gv nv i u2 cs2 hN2 hK2.2 hK2.1 hM2 (hol a ha)) (fun e w' h => ⟨h.1, ⟨h.2.1, Nat.le_trans (stm_lf _ _ _ _) hK2.2⟩, h.2.2⟩)
/-- What a run comes to. -/
def rnR (p : PgT) (es : List En) (f : FuT) (D : List Int) (lf : Nat) : RR := runL (stm (EV p.fs es) lf 8) f.b ⟨D ++ List.replicate (p.da.toNat - D.length) 0, List.replicate f.v.toNat 0, lf⟩
set_option maxHeartbeats 2000000 in
theorem run_ok {p : PgT} {cs : List Value} {f : FuT} {lf : Nat} {sd : Option Addr} {nd cd : Nat} {D : List Int} {kp : Option Addr} {kn kc : Nat} {es : List En} (w : World) (hN : N ≤ w.heap.size) (hM : PgM N w cs p) (hmay : (pgN p).isSome = true) (hf : p.fs.getLast? = some f) (hv : 0 ≤ f.v) (hnv : f.v ≤ 64) (hlf : lf ≤ 4194304) (hD : AG sd nd D w) (hDn : (D.length : Int) ≤ p.da) (hDU : ∀ x ∈ D, U64 x) (hE : ES N w kp kn kc es) (hF0 : okF p.fs) (hU : EnvU (EV p.fs es)) (hol : ∀ a ∈ f.b, okS ((p.fs.take (p.fs.length - 1)).map FuT.p) f.v 8 a) :
    Calls Try.prog 7 #[.agg cs.toArray, .slice sd nd cd, .slice kp kn kc, .int .i64 (lf : Int)] w fun e w' => ∃ gw, e = .returned (.tuple #[.agg #[.int .u8 (fsB (rnR p es f D lf)), .int .u64 (fvB (rnR p es f D lf)), .slice (some ⟨gw, 0, none⟩) p.da.toNat p.da.toNat, .int .i64 ((lf : Int) - (rnR p es f D lf).s.lf)], .int .i64 0]) ∧ Arr w' gw 30 (uA (rnR p es f D lf).s.W) ∧ w.heap.size ≤ gw ∧ Below w.heap.size w w' ∧ (rnR p es f D lf).s.W.length = p.da.toNat := by
  have hmy := fun (u : World) (hb : Below w.heap.size w u) => may_any p u (PgM.below (hb.mono hN) cs p hM) (by have := hb.size; omega)
  rw [hmay] at hmy
  unfold BoP at hmy
  have hda : 0 ≤ p.da ∧ p.da ≤ 1024 := by
    unfold pgN at hmay
    by_cases h : begB p = true
    · have := of_decide_eq_true h; omega
    · rw [if_neg h] at hmay; cases hmay
  obtain ⟨n, hn⟩ : ∃ n : Nat, p.da = n := ⟨p.da.toNat, by omega⟩
  obtain ⟨nv, hnw⟩ : ∃ nv : Nat, f.v = nv := ⟨f.v.toNat, by omega⟩
  obtain ⟨sp, k, cap, rfl, -, hS⟩ := id hM
  have hRR : rnR p es f D lf = runL (stm (EV p.fs es) lf 8) f.b ⟨D ++ List.replicate (n - D.length) 0, List.replicate nv 0, lf⟩ := by unfold rnR; rw [hn, hnw]; rfl
  have hRl : (rnR p es f D lf).s.lf ≤ lf := by rw [hRR]; exact runL_lf (fun t s => stm_lf lf 8 t s) _ _
  rw [hn] at hDn hda hM hmy ⊢
  rw [show ((n : Int)).toNat = n by omega]
  generalize rnR p es f D lf = R at hRR hRl ⊢
  obtain ⟨xs, hxs⟩ : ∃ x, fsB R = x := ⟨_, rfl⟩
  obtain ⟨xv, hxv⟩ : ∃ x, fvB R = x := ⟨_, rfl⟩
  obtain ⟨xl, hxl⟩ : ∃ x, R.s.lf = x := ⟨_, rfl⟩
  rw [hxs, hxv, hxl]
  rw [hxl] at hRl
  replace hxs := Hid.mk' hxs
  replace hxv := Hid.mk' hxv
  replace hxl := Hid.mk' hxl
  have hn10 : n ≤ 1024 := by omega
  have hnd : nd = D.length := hD.1.out.symm
  subst hnd
  have hDl : D.length ≤ n := by omega
  have b0 : Below w.heap.size w ((w.alloc (.cells #[.slice sp k cap, .int .i64 (n : Int)] 24)).alloc (.cells #[.int .u8 0, .int .u64 0, .slice none 0 0, .int .i64 0] 32)) := (ab w _).alloc (by simp) _
  have A0 := (Arr.new w 24 #[.slice sp k cap, .int .i64 (n : Int)]).alloc (.cells #[.int .u8 0, .int .u64 0, .slice none 0 0, .int .i64 0] 32)
  have A1 := Arr.new (w.alloc (.cells #[.slice sp k cap, .int .i64 (n : Int)] 24)) 32 #[.int .u8 0, .int .u64 0, .slice none 0 0, .int .i64 0]
  simp only [World.size_alloc] at A1
  have hmy1 := hmy _ b0
  have hmk := fun (u : World) => mk25 n n u (by omega) (by omega)
  have hk0 : 0 < k := by
    rw [hS.len.out]
    cases h : p.fs with
    | nil => rw [h] at hf; cases hf
    | cons a r => simp
  have z1 : ¬ ((n : Int) < D.length) := by omega
  have z2 : ¬ ((lf : Int) < 0) := by omega
  have z3 : ¬ ((4194304 : Int) < lf) := by omega
  clear hmy hM hmay hda hn
  replace hRR := Hid.mk' hRR
  replace hDU := Hid.mk' hDU
  replace hol := Hid.mk' hol
  replace hnw := Hid.mk' hnw
  replace hD := Hid.mk' hD
  go_enter Try.func7, Try.ntmps7
  go_upto_region 5 with (go_at_call 16; go_must (refine hmy1.mono ?_; rintro e w1 ⟨rfl, hb1⟩; have A01 := A0.bl hb1; have A11 := A1.bl hb1; have k0 := A01.cell 0; have k1 := A01.cell 1))
  have hs1 : w.heap.size + 2 ≤ w1.heap.size := by have := hb1.size; simpa using this
  refine wp_region_held_drew (S := fun u => Below w1.heap.size w1 u) (by kernel_rfl) ((Below.refl _ w1).drew) (fun hHeld => ?_)
  refine wpAnyH_take (i := 0) (oi := ⟨_, _, _, _, _, _⟩) (v := ?_) rfl (by kernel_rfl) (by kernel_rfl) (by kernel_rfl) (fun _ _ _ h => h) (Or.inl ⟨by rfl, ?_⟩) (by assumption) ?_
  rotate_left
  · intro u hSw
    have s0 := (hSw.cell (p := ⟨w.heap.size, 0, none⟩) (by show w.heap.size < _; omega)).trans (k0)
    have s1 := (hSw.cell (p := ⟨w.heap.size, 1, none⟩) (by show w.heap.size < _; omega)).trans (k1)
    go_simp
    try (with_reducible rfl)
  try simp only [Act.put, List.setIfInBounds_toArray, List.set_cons_zero, List.set_cons_succ]
  refine wpAnyH_take (i := 1) (oi := ⟨_, _, _, _, _, _⟩) (v := ?_) rfl (by kernel_rfl) (by kernel_rfl) (by kernel_rfl) (fun _ _ _ h => h) (Or.inl ⟨by rfl, ?_⟩) (by assumption) ?_
  rotate_left
  · intro u hSw
    go_simp
    try (with_reducible rfl)
  try simp only [Act.put, List.setIfInBounds_toArray, List.set_cons_zero, List.set_cons_succ]
  refine wpAnyH_take (i := 2) (oi := ⟨_, _, _, _, _, _⟩) (v := ?_) rfl (by kernel_rfl) (by kernel_rfl) (by kernel_rfl) (fun _ _ _ h => h) (Or.inl ⟨by rfl, ?_⟩) (by assumption) ?_
  rotate_left
  · intro u hSw
    have s1 := (hSw.cell (p := ⟨w.heap.size, 1, none⟩) (by show w.heap.size < _; omega)).trans (k1)
    go_simp
    try (with_reducible rfl)
  try simp only [Act.put, List.setIfInBounds_toArray, List.set_cons_zero, List.set_cons_succ]
  refine wpAnyH_take (i := 4) (oi := ⟨_, _, _, _, _, _⟩) (v := ?_) rfl (by kernel_rfl) (by kernel_rfl) (by kernel_rfl) (fun _ _ _ h => h) (Or.inl ⟨by rfl, ?_⟩) (by assumption) ?_
  rotate_left
  · intro u hSw
    go_simp
    try (with_reducible rfl)
  try simp only [Act.put, List.setIfInBounds_toArray, List.set_cons_zero, List.set_cons_succ]
  refine wpAnyH_take (i := 5) (oi := ⟨_, _, _, _, _, _⟩) (v := ?_) rfl (by kernel_rfl) (by kernel_rfl) (by kernel_rfl) (fun _ _ _ h => h) (Or.inl ⟨by rfl, ?_⟩) (by assumption) ?_
  rotate_left
  · intro u hSw
    go_simp
    try (with_reducible rfl)
  try simp only [Act.put, List.setIfInBounds_toArray, List.set_cons_zero, List.set_cons_succ]
  refine wpAnyH_ready (rs := [3, 6]) (by kernel_rfl) (by simp) ?_
  refine AllReadyH.cons (o := ⟨_, _, _, _, _, _⟩) rfl (fun K hK => ?_) (AllReadyH.cons (o := ⟨_, _, _, _, _, _⟩) rfl (fun K hK => ?_) AllReadyH.nil)
  · go_simp
    refine hK.out _ _ ((Below.refl _ w1).drew.alloc (Nat.le_refl _) _) (fun hHeld => ?_)
    clear hK K
    try simp only [Act.put, List.setIfInBounds_toArray, List.set_cons_zero, List.set_cons_succ]
    refine wpAnyH_ready (rs := [6]) (by kernel_rfl) (by simp) ?_
    refine AllReadyH.cons (o := ⟨_, _, _, _, _, _⟩) rfl (fun K hK => ?_) AllReadyH.nil
    go_simp
    refine (newShelf_any kp kn kc _).mono ?_
    rintro e w2 ⟨gp, rfl, hgp, hgmm, hb2⟩
    have n2 := (Arr.new w1.drew 30 (madeCells #[.int .u64 0] n)).bl hb2
    have hB2 : Below w1.heap.size w1 w2 := ((Below.refl _ w1).drew.alloc (Nat.le_refl _) _).trans (hb2.mono (by simp))
    go_wp2_with fail
    refine hK.out _ _ hB2 (fun hHeld => ?_)
    clear hK K
    try simp only [Act.put, List.setIfInBounds_toArray, List.set_cons_zero, List.set_cons_succ]
    refine wpAnyH_take (i := 7) (oi := ⟨_, _, _, _, _, _⟩) (v := ?_) rfl (by kernel_rfl) (by kernel_rfl) (by kernel_rfl) (fun _ _ _ h => h) (Or.inl ⟨by rfl, ?_⟩) (by assumption) ?_
    rotate_left
    · intro u hSw
      go_simp
      try (with_reducible rfl)
    try simp only [Act.put, List.setIfInBounds_toArray, List.set_cons_zero, List.set_cons_succ]
    refine wpAnyH_ready (rs := [8]) (by kernel_rfl) (by simp) ?_
    refine AllReadyH.cons (o := ⟨_, _, _, _, _, _⟩) rfl (fun K hK => ?_) AllReadyH.nil
    go_simp
    refine hK.out _ _ (hB2.alloc hB2.size _) (fun hHeld => ?_)
    clear hK K
    try simp only [Act.put, List.setIfInBounds_toArray, List.set_cons_zero, List.set_cons_succ]
    refine wpAnyH_take (i := 9) (oi := ⟨_, _, _, _, _, _⟩) (v := ?_) rfl (by kernel_rfl) (by kernel_rfl) (by kernel_rfl) (fun _ _ _ h => h) (Or.inl ⟨by rfl, ?_⟩) (by assumption) ?_
    rotate_left
    · intro u hSw
      go_simp
      try (with_reducible rfl)
    try simp only [Act.put, List.setIfInBounds_toArray, List.set_cons_zero, List.set_cons_succ]
    refine wpAnyH_done (by kernel_rfl) ?_ _
    have AR : Arr (w2.alloc (.cells #[.slice sp k cap, .int .i64 (n : Int), .slice (some ⟨w1.heap.size, 0, none⟩) n n, .int .i64 (lf : Int), .slice kp kn kc, .map (some gp)] 65)) w2.heap.size 65 #[.slice sp k cap, .int .i64 (n : Int), .slice (some ⟨w1.heap.size, 0, none⟩) n n, .int .i64 (lf : Int), .slice kp kn kc, .map (some gp)] := Arr.new w2 65 _
    have AW : Arr (w2.alloc (.cells #[.slice sp k cap, .int .i64 (n : Int), .slice (some ⟨w1.heap.size, 0, none⟩) n n, .int .i64 (lf : Int), .slice kp kn kc, .map (some gp)] 65)) w1.heap.size 30 (madeCells #[.int .u64 0] n) := n2.alloc _
    have hne : w2.heap.size ≠ w1.heap.size := by have := n2.lt; show w2.heap.size ≠ w1.heap.size; have h : w1.drew.heap.size = w1.heap.size := rfl; omega
    have hBV : Below w1.heap.size w1 (w2.alloc (.cells #[.slice sp k cap, .int .i64 (n : Int), .slice (some ⟨w1.heap.size, 0, none⟩) n n, .int .i64 (lf : Int), .slice kp kn kc, .map (some gp)] 65)) := hB2.alloc hB2.size _
    have hgw1 : w.heap.size + 2 ≤ w1.heap.size := by have := hB2.size; omega
    have hgr1 : w.heap.size + 2 ≤ w2.heap.size := by have := hB2.size; omega
    have hgpl : gp < w2.heap.size := (Array.getElem?_eq_some_iff.1 hgmm).1
    have hgm : (w2.alloc (.cells #[.slice sp k cap, .int .i64 (n : Int), .slice (some ⟨w1.heap.size, 0, none⟩) n n, .int .i64 (lf : Int), .slice kp kn kc, .map (some gp)] 65)).heap[gp]? = some (.map #[] 0) := ((ab w2 _).block gp hgpl).trans hgmm
    have hgp1 : w.heap.size + 2 ≤ gp := by have : w1.drew.heap.size = w1.heap.size := rfl; simp at hgp; omega
    have hgp2 : gp ≠ w2.heap.size := by omega
    have hgp3 : gp ≠ w1.heap.size := by have : w1.drew.heap.size = w1.heap.size := rfl; simp at hgp; omega
    have hgp4 : gp < (w2.alloc (.cells #[.slice sp k cap, .int .i64 (n : Int), .slice (some ⟨w1.heap.size, 0, none⟩) n n, .int .i64 (lf : Int), .slice kp kn kc, .map (some gp)] 65)).heap.size := (Array.getElem?_eq_some_iff.1 hgm).1
    have B1 := b0.trans (hb1.mono b0.size)
    have BV := B1.trans (hBV.mono B1.size)
    have hNV : N ≤ (w2.alloc (.cells #[.slice sp k cap, .int .i64 (n : Int), .slice (some ⟨w1.heap.size, 0, none⟩) n n, .int .i64 (lf : Int), .slice kp kn kc, .map (some gp)] 65)).heap.size := by have := BV.size; omega
    have A0V := A01.bl hBV
    have A1V := A11.bl hBV
    have hSV := hS.imp (BV.mono hN) (FuM.below (BV.mono hN))
    clear hHeld hBV hb1 hB2 hb2 hgp A01 A11 B1 k0 k1 hs1 hgpl hgmm n2
    generalize hVV : (w2.alloc (.cells #[.slice sp k cap, .int .i64 (n : Int), .slice (some ⟨w1.heap.size, 0, none⟩) n n, .int .i64 (lf : Int), .slice kp kn kc, .map (some gp)] 65)) = V at *
    generalize hgg : w2.heap.size = gr at AR hne hgr1 hgp2 ⊢
    generalize hgg2 : w1.heap.size = gw at AR AW hne hgw1 hgp3 ⊢
    clear hVV hgg hgg2
    have r2 := AR.cell 2
    by_cases hD0 : D = []
    · have hl0 := Hid.mk' (show D.length = 0 by rw [hD0]; rfl)
      have AW1 : Arr V gw 30 (uA (D ++ List.replicate (n - D.length) 0)) := by rw [made_uA] at AW; rw [hD0]; simpa using AW
      clear hD0
      go_upto_region 7 with (refine wpList_copy_nothing (by rfl) (.tmp 43) (.tmp 44) 25 25 (by rfl) 30 Try.underlying25 (by exact s30) _ _ n n D.length cd (by rfl) (by rfl) (by rw [hl0.out]; exact Nat.zero_min n) ?_)
      have hc1 : Ch (fun k => k = gw) V V := Ch.refl _ _
      have AR1 := AR
      have BV1 : Below w.heap.size w V := BV.trans (hc1.bl fun i hi => ⟨by have := BV.size; omega, by omega⟩)
      have hNV1 : N ≤ V.heap.size := by have := BV1.size; omega
      have hSV1 := hS.imp (BV1.mono hN) (FuM.below (BV1.mono hN))
      have hsz1 := hc1.size
      have A0W := hc1.arr A0V (by omega)
      have A1W := hc1.arr A1V (by omega)
      have hI : RunI gr gw n (.slice sp k cap) (.int .i64 (n : Int)) (.slice kp kn kc) (.map (some gp)) (D ++ List.replicate (n - D.length) 0) lf V := ⟨AR1, AW1, hne, hid (by simp; omega), hn10, fun x hx => by
        rcases List.mem_append.1 hx with h | h
        · exact hDU.out x h
        · rw [(List.mem_replicate.1 h).2]; exact u0⟩
      have hPL : PL V.heap.size N gr gw gp := ⟨hNV1, by omega, by omega, hI.ar.lt, hI.aw.lt, hgp2, hgp3, by omega, by omega⟩
      have hXX : XR p.fs es V.heap.size N gp kp kn kc sp k cap V := ⟨hE.below (BV1.mono hN), ⟨fun _ => none, ⟨[], 0, (hc1.block gp (by omega) hgp3).trans hgm, (fun x h => by cases h), fun _ => rfl⟩, fun Y v _ h => by cases h⟩, hSV1, fun u u' hb h => h.imp hb (FuM.below hb)⟩
      have hXK : XK (XR p.fs es V.heap.size N gp kp kn kc sp k cap) V.heap.size gr gw := XB.keeps hPL.r1 hPL.w1 hPL.nz hPL.rz hPL.wz hPL.m2 hPL.n1 hPL.n2
      have hRX : RX (XR p.fs es V.heap.size N gp kp kn kc sp k cap) V.heap.size N gr gw n gp (.slice sp k cap) (.int .i64 (n : Int)) (.slice kp kn kc) (.map (some gp)) (D ++ List.replicate (n - D.length) 0) lf V := ⟨hI, hXX, Nat.le_refl _, hlf, hPL.r1, hPL.w1, hPL.m1, hPL.m2, hPL.rz, hPL.wz⟩
      obtain ⟨g, off, rfl, hg, hR⟩ := hSV1.at0 hk0
      obtain ⟨cf, hrg, hMf⟩ := hR (k - 1) f (by rw [hS.len.out, ← List.getLast?_eq_getElem?]; exact hf)
      obtain ⟨sq, mq, cq, rfl, -, hSb⟩ := hMf
      have hfun := function_any (p := f.p) (v := f.v) (nv := nv) (sx := none) (na := 0) (ca := 0) (L := []) (B := R) V hNV1 hXK hRX hnw.out (by have := hnw.out; omega) ⟨hid rfl, fun h => by simp at h⟩ (by simp) (fun x hx => by cases hx) (by rw [hxl.out]; omega) hSb (fun gv u h1 h2 h3 => by
        rw [hRR.out]
        refine body_any hPL hF0 hU lf f.b gv nv (p.fs.length - 1) _ u sq mq cq (fun a ha => ?_) (Nat.le_refl _) h1 (by simpa using h2) h3
        have := hol.out a ha
        rw [hnw.out] at this
        exact this)
      have c0 := hrg 0 _ rfl
      have c1 := hrg 1 _ rfl
      have c2 := hrg 2 _ rfl
      simp only [Nat.add_zero] at c0
      have v0 := A0W.cell 0
      have hkw : IntKind.i64.wrap ((k : Int) - 1) = ((k - 1 : Nat) : Int) := by rw [IntKind.wrap_i64]; have := hS.small; omega
      have hk1 : ((k - 1 : Nat) : Int) < k := by omega
      have hk2 : (0 : Int) ≤ ((k - 1 : Nat) : Int) := by omega
      have hlt3 : k - 1 < k := by omega
      replace hfun := Hid.mk' hfun
      clear hS hSV hR hrg hSb hI hf hXX hXK hRX hU hE hF0 hSV1 AR1 AW1 AR AW
      generalize k - 1 = kk at *
      unfold fuC at *
      go_upto_region 8 with (go_at_call 18; go_must (refine hfun.out.mono ?_; rintro e w3 ⟨he, hR3, hc3⟩; rw [hxs.out, hxv.out] at he; subst he; have hI3 := hR3.run; rw [hxl.out] at hI3; have i2 := hI3.ar.cell 2; have i3 := hI3.ar.cell 3; have A3 := hc3.arr A1W (by rintro (e | e | e) <;> omega); have a0 := A3.cell 0; have a1 := A3.cell 1; have a2 := A3.cell 2; have a3 := A3.cell 3; have f0 := A3.frozen 0; have f1 := A3.frozen 1; have f2 := A3.frozen 2; have f3 := A3.frozen 3))
      have hsub : IntKind.i64.wrap ((lf : Int) - (xl : Int)) = (lf : Int) - (xl : Int) := by rw [IntKind.wrap_i64]; omega
      have hgrl : gr < w3.heap.size := hI3.ar.lt
      have hne1 : ¬ gr = w.heap.size + 1 := by omega
      have hne2 : ¬ w.heap.size + 1 = gr := by omega
      have hB3 : Below w.heap.size V w3 := hc3.bl fun i hi => ⟨by have := BV1.size; omega, by rintro (e | e | e) <;> omega⟩
      have A4 := ((((A3.set 0 (.int .u8 xs)).set 1 (.int .u64 xv)).set 2 (.slice (some ⟨gw, 0, none⟩) n n)).set 3 (.int .i64 ((lf : Int) - (xl : Int)))).drew
      have W4 := ((((hI3.aw.setOther (a := ⟨w.heap.size + 1, 0, none⟩) (.int .u8 xs) (by show gw ≠ w.heap.size + 1; omega)).setOther (a := ⟨w.heap.size + 1, 1, none⟩) (.int .u64 xv) (by show gw ≠ w.heap.size + 1; omega)).setOther (a := ⟨w.heap.size + 1, 2, none⟩) (.slice (some ⟨gw, 0, none⟩) n n) (by show gw ≠ w.heap.size + 1; omega)).setOther (a := ⟨w.heap.size + 1, 3, none⟩) (.int .i64 ((lf : Int) - (xl : Int))) (by show gw ≠ w.heap.size + 1; omega)).drew
      have C3 : Ch (fun _ => False) w w3 := Ch.ob (BV1.trans hB3)
      have B4 := ((((C3.st (g := w.heap.size + 1) (j := 0) (.int .u8 xs) (fun h => by omega)).st (g := w.heap.size + 1) (j := 1) (.int .u64 xv) (fun h => by omega)).st (g := w.heap.size + 1) (j := 2) (.slice (some ⟨gw, 0, none⟩) n n) (fun h => by omega)).st (g := w.heap.size + 1) (j := 3) (.int .i64 ((lf : Int) - (xl : Int))) (fun h => by omega)).dw.bl (N := w.heap.size) (fun i hi => ⟨hi, id⟩)
      go_region
      go_wp2_with fail
      exact bodyPost_ret (v := .tuple #[.agg #[.int .u8 xs, .int .u64 xv, .slice (some ⟨gw, 0, none⟩) n n, .int .i64 ((lf : Int) - (xl : Int))], .int .i64 0]) (resO Try.results7 rfl rfl rfl A4) rfl ⟨gw, rfl, W4, by omega, B4, hI3.len.out⟩
    · obtain ⟨ad, had, hcs⟩ := hD.out.2 (List.length_pos_iff.2 hD0)
      subst had
      have hsrc : Hid (∀ j v, (D.map fun x => Value.int .u64 x)[j]? = some v → V.cell? (ad.add j) = some v) := Hid.mk' fun j v hv => by
        rw [List.getElem?_map] at hv
        obtain ⟨x, hx, rfl⟩ := Option.map_eq_some_iff.1 hv
        have := hcs j x hx
        exact (BV.cell (block_lt_of_cell this)).trans this
      have hsp := spl hDl
      have hc1 := (Ch.refl (fun k => k = gw) V).setRow (g := gw) (splice (madeCells #[Value.int .u64 0] n).toList 0 (D.map fun x => Value.int .u64 x)).toArray (fun _ => rfl)
      have AR1 := AR.setRowOther (splice (madeCells #[Value.int .u64 0] n).toList 0 (D.map fun x => Value.int .u64 x)).toArray hne
      have AW1 := Eq.mp (congrArg (fun C => Arr (V.setRow gw (splice (madeCells #[Value.int .u64 0] n).toList 0 (D.map fun x => Value.int .u64 x)).toArray) gw 30 C) hsp) (AW.setRow (splice (madeCells #[Value.int .u64 0] n).toList 0 (D.map fun x => Value.int .u64 x)).toArray)
      clear hcs
      go_upto_region 7 with (refine wpList_copy_own (by rfl) (.tmp 43) (.tmp 44) 25 25 (by rfl) 30 Try.underlying25 (by exact s30) gw 0 n n ad D.length cd (by rfl) (by rfl) (madeCells #[.int .u64 0] n) 30 AW (D.map fun x => Value.int .u64 x) (by rw [List.length_map]; exact (Nat.min_eq_left hDl).symm) hsrc.out (by rw [List.length_map, size_madeCells]; simp; omega) (by intro v hv; obtain ⟨x, -, rfl⟩ := List.mem_map.1 hv; rfl) ?_)
      generalize hV1 : V.setRow gw (splice (madeCells #[Value.int .u64 0] n).toList 0 (D.map fun x => Value.int .u64 x)).toArray = V1 at *
      try rw [show V.setRow gw ((madeCells #[Value.int .u64 0] n).toList.take 0 ++ ((D.map fun x => Value.int .u64 x) ++ (madeCells #[Value.int .u64 0] n).toList.drop (0 + (D.map fun x => Value.int .u64 x).length))).toArray = V1 from hV1]
      clear hV1
      have BV1 : Below w.heap.size w V1 := BV.trans (hc1.bl fun i hi => ⟨by have := BV.size; omega, by omega⟩)
      have hNV1 : N ≤ V1.heap.size := by have := BV1.size; omega
      have hSV1 := hS.imp (BV1.mono hN) (FuM.below (BV1.mono hN))
      have hsz1 := hc1.size
      have A0W := hc1.arr A0V (by omega)
      have A1W := hc1.arr A1V (by omega)
      have hI : RunI gr gw n (.slice sp k cap) (.int .i64 (n : Int)) (.slice kp kn kc) (.map (some gp)) (D ++ List.replicate (n - D.length) 0) lf V1 := ⟨AR1, AW1, hne, hid (by simp; omega), hn10, fun x hx => by
        rcases List.mem_append.1 hx with h | h
        · exact hDU.out x h
        · rw [(List.mem_replicate.1 h).2]; exact u0⟩
      have hPL : PL V1.heap.size N gr gw gp := ⟨hNV1, by omega, by omega, hI.ar.lt, hI.aw.lt, hgp2, hgp3, by omega, by omega⟩
      have hXX : XR p.fs es V1.heap.size N gp kp kn kc sp k cap V1 := ⟨hE.below (BV1.mono hN), ⟨fun _ => none, ⟨[], 0, (hc1.block gp (by omega) hgp3).trans hgm, (fun x h => by cases h), fun _ => rfl⟩, fun Y v _ h => by cases h⟩, hSV1, fun u u' hb h => h.imp hb (FuM.below hb)⟩
      have hXK : XK (XR p.fs es V1.heap.size N gp kp kn kc sp k cap) V1.heap.size gr gw := XB.keeps hPL.r1 hPL.w1 hPL.nz hPL.rz hPL.wz hPL.m2 hPL.n1 hPL.n2
      have hRX : RX (XR p.fs es V1.heap.size N gp kp kn kc sp k cap) V1.heap.size N gr gw n gp (.slice sp k cap) (.int .i64 (n : Int)) (.slice kp kn kc) (.map (some gp)) (D ++ List.replicate (n - D.length) 0) lf V1 := ⟨hI, hXX, Nat.le_refl _, hlf, hPL.r1, hPL.w1, hPL.m1, hPL.m2, hPL.rz, hPL.wz⟩
      obtain ⟨g, off, rfl, hg, hR⟩ := hSV1.at0 hk0
      obtain ⟨cf, hrg, hMf⟩ := hR (k - 1) f (by rw [hS.len.out, ← List.getLast?_eq_getElem?]; exact hf)
      obtain ⟨sq, mq, cq, rfl, -, hSb⟩ := hMf
      have hfun := function_any (p := f.p) (v := f.v) (nv := nv) (sx := none) (na := 0) (ca := 0) (L := []) (B := R) V1 hNV1 hXK hRX hnw.out (by have := hnw.out; omega) ⟨hid rfl, fun h => by simp at h⟩ (by simp) (fun x hx => by cases hx) (by rw [hxl.out]; omega) hSb (fun gv u h1 h2 h3 => by
        rw [hRR.out]
        refine body_any hPL hF0 hU lf f.b gv nv (p.fs.length - 1) _ u sq mq cq (fun a ha => ?_) (Nat.le_refl _) h1 (by simpa using h2) h3
        have := hol.out a ha
        rw [hnw.out] at this
        exact this)
      have c0 := hrg 0 _ rfl
      have c1 := hrg 1 _ rfl
      have c2 := hrg 2 _ rfl
      simp only [Nat.add_zero] at c0
      have v0 := A0W.cell 0
      have hkw : IntKind.i64.wrap ((k : Int) - 1) = ((k - 1 : Nat) : Int) := by rw [IntKind.wrap_i64]; have := hS.small; omega
      have hk1 : ((k - 1 : Nat) : Int) < k := by omega
      have hk2 : (0 : Int) ≤ ((k - 1 : Nat) : Int) := by omega
      have hlt3 : k - 1 < k := by omega
      replace hfun := Hid.mk' hfun
      clear hS hSV hR hrg hSb hI hf hXX hXK hRX hU hE hF0 hSV1 AR1 AW1 AR AW
      generalize k - 1 = kk at *
      unfold fuC at *
      go_upto_region 8 with (go_at_call 18; go_must (refine hfun.out.mono ?_; rintro e w3 ⟨he, hR3, hc3⟩; rw [hxs.out, hxv.out] at he; subst he; have hI3 := hR3.run; rw [hxl.out] at hI3; have i2 := hI3.ar.cell 2; have i3 := hI3.ar.cell 3; have A3 := hc3.arr A1W (by rintro (e | e | e) <;> omega); have a0 := A3.cell 0; have a1 := A3.cell 1; have a2 := A3.cell 2; have a3 := A3.cell 3; have f0 := A3.frozen 0; have f1 := A3.frozen 1; have f2 := A3.frozen 2; have f3 := A3.frozen 3))
      have hsub : IntKind.i64.wrap ((lf : Int) - (xl : Int)) = (lf : Int) - (xl : Int) := by rw [IntKind.wrap_i64]; omega
      have hgrl : gr < w3.heap.size := hI3.ar.lt
      have hne1 : ¬ gr = w.heap.size + 1 := by omega
      have hne2 : ¬ w.heap.size + 1 = gr := by omega
      have hB3 : Below w.heap.size V1 w3 := hc3.bl fun i hi => ⟨by have := BV1.size; omega, by rintro (e | e | e) <;> omega⟩
      have A4 := ((((A3.set 0 (.int .u8 xs)).set 1 (.int .u64 xv)).set 2 (.slice (some ⟨gw, 0, none⟩) n n)).set 3 (.int .i64 ((lf : Int) - (xl : Int)))).drew
      have W4 := ((((hI3.aw.setOther (a := ⟨w.heap.size + 1, 0, none⟩) (.int .u8 xs) (by show gw ≠ w.heap.size + 1; omega)).setOther (a := ⟨w.heap.size + 1, 1, none⟩) (.int .u64 xv) (by show gw ≠ w.heap.size + 1; omega)).setOther (a := ⟨w.heap.size + 1, 2, none⟩) (.slice (some ⟨gw, 0, none⟩) n n) (by show gw ≠ w.heap.size + 1; omega)).setOther (a := ⟨w.heap.size + 1, 3, none⟩) (.int .i64 ((lf : Int) - (xl : Int))) (by show gw ≠ w.heap.size + 1; omega)).drew
      have C3 : Ch (fun _ => False) w w3 := Ch.ob (BV1.trans hB3)
      have B4 := ((((C3.st (g := w.heap.size + 1) (j := 0) (.int .u8 xs) (fun h => by omega)).st (g := w.heap.size + 1) (j := 1) (.int .u64 xv) (fun h => by omega)).st (g := w.heap.size + 1) (j := 2) (.slice (some ⟨gw, 0, none⟩) n n) (fun h => by omega)).st (g := w.heap.size + 1) (j := 3) (.int .i64 ((lf : Int) - (xl : Int))) (fun h => by omega)).dw.bl (N := w.heap.size) (fun i hi => ⟨hi, id⟩)
      go_region
      go_wp2_with fail
      exact bodyPost_ret (v := .tuple #[.agg #[.int .u8 xs, .int .u64 xv, .slice (some ⟨gw, 0, none⟩) n n, .int .i64 ((lf : Int) - (xl : Int))], .int .i64 0]) (resO Try.results7 rfl rfl rfl A4) rfl ⟨gw, rfl, W4, by omega, B4, hI3.len.out⟩
  · go_simp
    refine (newShelf_any kp kn kc _).mono ?_
    rintro e w2 ⟨gp, rfl, hgp, hgmm, hb2⟩
    have hB2 : Below w1.heap.size w1 w2 := (Below.refl _ w1).drew.trans hb2
    go_wp2_with fail
    refine hK.out _ _ hB2 (fun hHeld => ?_)
    clear hK K
    try simp only [Act.put, List.setIfInBounds_toArray, List.set_cons_zero, List.set_cons_succ]
    refine wpAnyH_ready (rs := [3]) (by kernel_rfl) (by simp) ?_
    refine AllReadyH.cons (o := ⟨_, _, _, _, _, _⟩) rfl (fun K hK => ?_) AllReadyH.nil
    go_simp
    refine hK.out _ _ (hB2.alloc hB2.size _) (fun hHeld => ?_)
    clear hK K
    try simp only [Act.put, List.setIfInBounds_toArray, List.set_cons_zero, List.set_cons_succ]
    refine wpAnyH_take (i := 7) (oi := ⟨_, _, _, _, _, _⟩) (v := ?_) rfl (by kernel_rfl) (by kernel_rfl) (by kernel_rfl) (fun _ _ _ h => h) (Or.inl ⟨by rfl, ?_⟩) (by assumption) ?_
    rotate_left
    · intro u hSw
      go_simp
      try (with_reducible rfl)
    try simp only [Act.put, List.setIfInBounds_toArray, List.set_cons_zero, List.set_cons_succ]
    refine wpAnyH_ready (rs := [8]) (by kernel_rfl) (by simp) ?_
    refine AllReadyH.cons (o := ⟨_, _, _, _, _, _⟩) rfl (fun K hK => ?_) AllReadyH.nil
    go_simp
    refine hK.out _ _ ((hB2.alloc hB2.size _).alloc (by have := hB2.size; simp; omega) _) (fun hHeld => ?_)
    clear hK K
    try simp only [Act.put, List.setIfInBounds_toArray, List.set_cons_zero, List.set_cons_succ]
    refine wpAnyH_take (i := 9) (oi := ⟨_, _, _, _, _, _⟩) (v := ?_) rfl (by kernel_rfl) (by kernel_rfl) (by kernel_rfl) (fun _ _ _ h => h) (Or.inl ⟨by rfl, ?_⟩) (by assumption) ?_
    rotate_left
    · intro u hSw
      go_simp
      try (with_reducible rfl)
    try simp only [Act.put, List.setIfInBounds_toArray, List.set_cons_zero, List.set_cons_succ]
    refine wpAnyH_done (by kernel_rfl) ?_ _
    have AR : Arr ((w2.alloc (.cells (madeCells #[.int .u64 0] n) 30)).alloc (.cells #[.slice sp k cap, .int .i64 (n : Int), .slice (some ⟨w2.heap.size, 0, none⟩) n n, .int .i64 (lf : Int), .slice kp kn kc, .map (some gp)] 65)) (w2.heap.size + 1) 65 #[.slice sp k cap, .int .i64 (n : Int), .slice (some ⟨w2.heap.size, 0, none⟩) n n, .int .i64 (lf : Int), .slice kp kn kc, .map (some gp)] := by simpa using Arr.new (w2.alloc (.cells (madeCells #[.int .u64 0] n) 30)) 65 _
    have AW : Arr ((w2.alloc (.cells (madeCells #[.int .u64 0] n) 30)).alloc (.cells #[.slice sp k cap, .int .i64 (n : Int), .slice (some ⟨w2.heap.size, 0, none⟩) n n, .int .i64 (lf : Int), .slice kp kn kc, .map (some gp)] 65)) w2.heap.size 30 (madeCells #[.int .u64 0] n) := (Arr.new w2 30 _).alloc _
    have hne : (w2.heap.size + 1) ≠ w2.heap.size := by omega
    have hBV : Below w1.heap.size w1 ((w2.alloc (.cells (madeCells #[.int .u64 0] n) 30)).alloc (.cells #[.slice sp k cap, .int .i64 (n : Int), .slice (some ⟨w2.heap.size, 0, none⟩) n n, .int .i64 (lf : Int), .slice kp kn kc, .map (some gp)] 65)) := (hB2.alloc hB2.size _).alloc (by have := hB2.size; simp; omega) _
    have hgw1 : w.heap.size + 2 ≤ w2.heap.size := by have := hB2.size; omega
    have hgr1 : w.heap.size + 2 ≤ (w2.heap.size + 1) := by have := hB2.size; omega
    have hgpl : gp < w2.heap.size := (Array.getElem?_eq_some_iff.1 hgmm).1
    have hgm : ((w2.alloc (.cells (madeCells #[.int .u64 0] n) 30)).alloc (.cells #[.slice sp k cap, .int .i64 (n : Int), .slice (some ⟨w2.heap.size, 0, none⟩) n n, .int .i64 (lf : Int), .slice kp kn kc, .map (some gp)] 65)).heap[gp]? = some (.map #[] 0) := (((ab w2 _).alloc (by simp) _).block gp hgpl).trans hgmm
    have hgp1 : w.heap.size + 2 ≤ gp := by have : w1.drew.heap.size = w1.heap.size := rfl; simp at hgp; omega
    have hgp2 : gp ≠ (w2.heap.size + 1) := by omega
    have hgp3 : gp ≠ w2.heap.size := by have : w1.drew.heap.size = w1.heap.size := rfl; simp at hgp; omega
    have hgp4 : gp < ((w2.alloc (.cells (madeCells #[.int .u64 0] n) 30)).alloc (.cells #[.slice sp k cap, .int .i64 (n : Int), .slice (some ⟨w2.heap.size, 0, none⟩) n n, .int .i64 (lf : Int), .slice kp kn kc, .map (some gp)] 65)).heap.size := (Array.getElem?_eq_some_iff.1 hgm).1
    have B1 := b0.trans (hb1.mono b0.size)
    have BV := B1.trans (hBV.mono B1.size)
    have hNV : N ≤ ((w2.alloc (.cells (madeCells #[.int .u64 0] n) 30)).alloc (.cells #[.slice sp k cap, .int .i64 (n : Int), .slice (some ⟨w2.heap.size, 0, none⟩) n n, .int .i64 (lf : Int), .slice kp kn kc, .map (some gp)] 65)).heap.size := by have := BV.size; omega
    have A0V := A01.bl hBV
    have A1V := A11.bl hBV
    have hSV := hS.imp (BV.mono hN) (FuM.below (BV.mono hN))
    clear hHeld hBV hb1 hB2 hb2 hgp A01 A11 B1 k0 k1 hs1 hgpl hgmm 
    generalize hVV : ((w2.alloc (.cells (madeCells #[.int .u64 0] n) 30)).alloc (.cells #[.slice sp k cap, .int .i64 (n : Int), .slice (some ⟨w2.heap.size, 0, none⟩) n n, .int .i64 (lf : Int), .slice kp kn kc, .map (some gp)] 65)) = V at *
    generalize hgg : (w2.heap.size + 1) = gr at AR hne hgr1 hgp2 ⊢
    generalize hgg2 : w2.heap.size = gw at AR AW hne hgw1 hgp3 ⊢
    clear hVV hgg hgg2
    have r2 := AR.cell 2
    by_cases hD0 : D = []
    · have hl0 := Hid.mk' (show D.length = 0 by rw [hD0]; rfl)
      have AW1 : Arr V gw 30 (uA (D ++ List.replicate (n - D.length) 0)) := by rw [made_uA] at AW; rw [hD0]; simpa using AW
      clear hD0
      go_upto_region 7 with (refine wpList_copy_nothing (by rfl) (.tmp 43) (.tmp 44) 25 25 (by rfl) 30 Try.underlying25 (by exact s30) _ _ n n D.length cd (by rfl) (by rfl) (by rw [hl0.out]; exact Nat.zero_min n) ?_)
      have hc1 : Ch (fun k => k = gw) V V := Ch.refl _ _
      have AR1 := AR
      have BV1 : Below w.heap.size w V := BV.trans (hc1.bl fun i hi => ⟨by have := BV.size; omega, by omega⟩)
      have hNV1 : N ≤ V.heap.size := by have := BV1.size; omega
      have hSV1 := hS.imp (BV1.mono hN) (FuM.below (BV1.mono hN))
      have hsz1 := hc1.size
      have A0W := hc1.arr A0V (by omega)
      have A1W := hc1.arr A1V (by omega)
      have hI : RunI gr gw n (.slice sp k cap) (.int .i64 (n : Int)) (.slice kp kn kc) (.map (some gp)) (D ++ List.replicate (n - D.length) 0) lf V := ⟨AR1, AW1, hne, hid (by simp; omega), hn10, fun x hx => by
        rcases List.mem_append.1 hx with h | h
        · exact hDU.out x h
        · rw [(List.mem_replicate.1 h).2]; exact u0⟩
      have hPL : PL V.heap.size N gr gw gp := ⟨hNV1, by omega, by omega, hI.ar.lt, hI.aw.lt, hgp2, hgp3, by omega, by omega⟩
      have hXX : XR p.fs es V.heap.size N gp kp kn kc sp k cap V := ⟨hE.below (BV1.mono hN), ⟨fun _ => none, ⟨[], 0, (hc1.block gp (by omega) hgp3).trans hgm, (fun x h => by cases h), fun _ => rfl⟩, fun Y v _ h => by cases h⟩, hSV1, fun u u' hb h => h.imp hb (FuM.below hb)⟩
      have hXK : XK (XR p.fs es V.heap.size N gp kp kn kc sp k cap) V.heap.size gr gw := XB.keeps hPL.r1 hPL.w1 hPL.nz hPL.rz hPL.wz hPL.m2 hPL.n1 hPL.n2
      have hRX : RX (XR p.fs es V.heap.size N gp kp kn kc sp k cap) V.heap.size N gr gw n gp (.slice sp k cap) (.int .i64 (n : Int)) (.slice kp kn kc) (.map (some gp)) (D ++ List.replicate (n - D.length) 0) lf V := ⟨hI, hXX, Nat.le_refl _, hlf, hPL.r1, hPL.w1, hPL.m1, hPL.m2, hPL.rz, hPL.wz⟩
      obtain ⟨g, off, rfl, hg, hR⟩ := hSV1.at0 hk0
      obtain ⟨cf, hrg, hMf⟩ := hR (k - 1) f (by rw [hS.len.out, ← List.getLast?_eq_getElem?]; exact hf)
      obtain ⟨sq, mq, cq, rfl, -, hSb⟩ := hMf
      have hfun := function_any (p := f.p) (v := f.v) (nv := nv) (sx := none) (na := 0) (ca := 0) (L := []) (B := R) V hNV1 hXK hRX hnw.out (by have := hnw.out; omega) ⟨hid rfl, fun h => by simp at h⟩ (by simp) (fun x hx => by cases hx) (by rw [hxl.out]; omega) hSb (fun gv u h1 h2 h3 => by
        rw [hRR.out]
        refine body_any hPL hF0 hU lf f.b gv nv (p.fs.length - 1) _ u sq mq cq (fun a ha => ?_) (Nat.le_refl _) h1 (by simpa using h2) h3
        have := hol.out a ha
        rw [hnw.out] at this
        exact this)
      have c0 := hrg 0 _ rfl
      have c1 := hrg 1 _ rfl
      have c2 := hrg 2 _ rfl
      simp only [Nat.add_zero] at c0
      have v0 := A0W.cell 0
      have hkw : IntKind.i64.wrap ((k : Int) - 1) = ((k - 1 : Nat) : Int) := by rw [IntKind.wrap_i64]; have := hS.small; omega
      have hk1 : ((k - 1 : Nat) : Int) < k := by omega
      have hk2 : (0 : Int) ≤ ((k - 1 : Nat) : Int) := by omega
      have hlt3 : k - 1 < k := by omega
      replace hfun := Hid.mk' hfun
      clear hS hSV hR hrg hSb hI hf hXX hXK hRX hU hE hF0 hSV1 AR1 AW1 AR AW
      generalize k - 1 = kk at *
      unfold fuC at *
      go_upto_region 8 with (go_at_call 18; go_must (refine hfun.out.mono ?_; rintro e w3 ⟨he, hR3, hc3⟩; rw [hxs.out, hxv.out] at he; subst he; have hI3 := hR3.run; rw [hxl.out] at hI3; have i2 := hI3.ar.cell 2; have i3 := hI3.ar.cell 3; have A3 := hc3.arr A1W (by rintro (e | e | e) <;> omega); have a0 := A3.cell 0; have a1 := A3.cell 1; have a2 := A3.cell 2; have a3 := A3.cell 3; have f0 := A3.frozen 0; have f1 := A3.frozen 1; have f2 := A3.frozen 2; have f3 := A3.frozen 3))
      have hsub : IntKind.i64.wrap ((lf : Int) - (xl : Int)) = (lf : Int) - (xl : Int) := by rw [IntKind.wrap_i64]; omega
      have hgrl : gr < w3.heap.size := hI3.ar.lt
      have hne1 : ¬ gr = w.heap.size + 1 := by omega
      have hne2 : ¬ w.heap.size + 1 = gr := by omega
      have hB3 : Below w.heap.size V w3 := hc3.bl fun i hi => ⟨by have := BV1.size; omega, by rintro (e | e | e) <;> omega⟩
      have A4 := ((((A3.set 0 (.int .u8 xs)).set 1 (.int .u64 xv)).set 2 (.slice (some ⟨gw, 0, none⟩) n n)).set 3 (.int .i64 ((lf : Int) - (xl : Int)))).drew
      have W4 := ((((hI3.aw.setOther (a := ⟨w.heap.size + 1, 0, none⟩) (.int .u8 xs) (by show gw ≠ w.heap.size + 1; omega)).setOther (a := ⟨w.heap.size + 1, 1, none⟩) (.int .u64 xv) (by show gw ≠ w.heap.size + 1; omega)).setOther (a := ⟨w.heap.size + 1, 2, none⟩) (.slice (some ⟨gw, 0, none⟩) n n) (by show gw ≠ w.heap.size + 1; omega)).setOther (a := ⟨w.heap.size + 1, 3, none⟩) (.int .i64 ((lf : Int) - (xl : Int))) (by show gw ≠ w.heap.size + 1; omega)).drew
      have C3 : Ch (fun _ => False) w w3 := Ch.ob (BV1.trans hB3)
      have B4 := ((((C3.st (g := w.heap.size + 1) (j := 0) (.int .u8 xs) (fun h => by omega)).st (g := w.heap.size + 1) (j := 1) (.int .u64 xv) (fun h => by omega)).st (g := w.heap.size + 1) (j := 2) (.slice (some ⟨gw, 0, none⟩) n n) (fun h => by omega)).st (g := w.heap.size + 1) (j := 3) (.int .i64 ((lf : Int) - (xl : Int))) (fun h => by omega)).dw.bl (N := w.heap.size) (fun i hi => ⟨hi, id⟩)
      go_region
      go_wp2_with fail
      exact bodyPost_ret (v := .tuple #[.agg #[.int .u8 xs, .int .u64 xv, .slice (some ⟨gw, 0, none⟩) n n, .int .i64 ((lf : Int) - (xl : Int))], .int .i64 0]) (resO Try.results7 rfl rfl rfl A4) rfl ⟨gw, rfl, W4, by omega, B4, hI3.len.out⟩
    · obtain ⟨ad, had, hcs⟩ := hD.out.2 (List.length_pos_iff.2 hD0)
      subst had
      have hsrc : Hid (∀ j v, (D.map fun x => Value.int .u64 x)[j]? = some v → V.cell? (ad.add j) = some v) := Hid.mk' fun j v hv => by
        rw [List.getElem?_map] at hv
        obtain ⟨x, hx, rfl⟩ := Option.map_eq_some_iff.1 hv
        have := hcs j x hx
        exact (BV.cell (block_lt_of_cell this)).trans this
      have hsp := spl hDl
      have hc1 := (Ch.refl (fun k => k = gw) V).setRow (g := gw) (splice (madeCells #[Value.int .u64 0] n).toList 0 (D.map fun x => Value.int .u64 x)).toArray (fun _ => rfl)
      have AR1 := AR.setRowOther (splice (madeCells #[Value.int .u64 0] n).toList 0 (D.map fun x => Value.int .u64 x)).toArray hne
      have AW1 := Eq.mp (congrArg (fun C => Arr (V.setRow gw (splice (madeCells #[Value.int .u64 0] n).toList 0 (D.map fun x => Value.int .u64 x)).toArray) gw 30 C) hsp) (AW.setRow (splice (madeCells #[Value.int .u64 0] n).toList 0 (D.map fun x => Value.int .u64 x)).toArray)
      clear hcs
      go_upto_region 7 with (refine wpList_copy_own (by rfl) (.tmp 43) (.tmp 44) 25 25 (by rfl) 30 Try.underlying25 (by exact s30) gw 0 n n ad D.length cd (by rfl) (by rfl) (madeCells #[.int .u64 0] n) 30 AW (D.map fun x => Value.int .u64 x) (by rw [List.length_map]; exact (Nat.min_eq_left hDl).symm) hsrc.out (by rw [List.length_map, size_madeCells]; simp; omega) (by intro v hv; obtain ⟨x, -, rfl⟩ := List.mem_map.1 hv; rfl) ?_)
      generalize hV1 : V.setRow gw (splice (madeCells #[Value.int .u64 0] n).toList 0 (D.map fun x => Value.int .u64 x)).toArray = V1 at *
      try rw [show V.setRow gw ((madeCells #[Value.int .u64 0] n).toList.take 0 ++ ((D.map fun x => Value.int .u64 x) ++ (madeCells #[Value.int .u64 0] n).toList.drop (0 + (D.map fun x => Value.int .u64 x).length))).toArray = V1 from hV1]
      clear hV1
      have BV1 : Below w.heap.size w V1 := BV.trans (hc1.bl fun i hi => ⟨by have := BV.size; omega, by omega⟩)
      have hNV1 : N ≤ V1.heap.size := by have := BV1.size; omega
      have hSV1 := hS.imp (BV1.mono hN) (FuM.below (BV1.mono hN))
      have hsz1 := hc1.size
      have A0W := hc1.arr A0V (by omega)
      have A1W := hc1.arr A1V (by omega)
      have hI : RunI gr gw n (.slice sp k cap) (.int .i64 (n : Int)) (.slice kp kn kc) (.map (some gp)) (D ++ List.replicate (n - D.length) 0) lf V1 := ⟨AR1, AW1, hne, hid (by simp; omega), hn10, fun x hx => by
        rcases List.mem_append.1 hx with h | h
        · exact hDU.out x h
        · rw [(List.mem_replicate.1 h).2]; exact u0⟩
      have hPL : PL V1.heap.size N gr gw gp := ⟨hNV1, by omega, by omega, hI.ar.lt, hI.aw.lt, hgp2, hgp3, by omega, by omega⟩
      have hXX : XR p.fs es V1.heap.size N gp kp kn kc sp k cap V1 := ⟨hE.below (BV1.mono hN), ⟨fun _ => none, ⟨[], 0, (hc1.block gp (by omega) hgp3).trans hgm, (fun x h => by cases h), fun _ => rfl⟩, fun Y v _ h => by cases h⟩, hSV1, fun u u' hb h => h.imp hb (FuM.below hb)⟩
      have hXK : XK (XR p.fs es V1.heap.size N gp kp kn kc sp k cap) V1.heap.size gr gw := XB.keeps hPL.r1 hPL.w1 hPL.nz hPL.rz hPL.wz hPL.m2 hPL.n1 hPL.n2
      have hRX : RX (XR p.fs es V1.heap.size N gp kp kn kc sp k cap) V1.heap.size N gr gw n gp (.slice sp k cap) (.int .i64 (n : Int)) (.slice kp kn kc) (.map (some gp)) (D ++ List.replicate (n - D.length) 0) lf V1 := ⟨hI, hXX, Nat.le_refl _, hlf, hPL.r1, hPL.w1, hPL.m1, hPL.m2, hPL.rz, hPL.wz⟩
      obtain ⟨g, off, rfl, hg, hR⟩ := hSV1.at0 hk0
      obtain ⟨cf, hrg, hMf⟩ := hR (k - 1) f (by rw [hS.len.out, ← List.getLast?_eq_getElem?]; exact hf)
      obtain ⟨sq, mq, cq, rfl, -, hSb⟩ := hMf
      have hfun := function_any (p := f.p) (v := f.v) (nv := nv) (sx := none) (na := 0) (ca := 0) (L := []) (B := R) V1 hNV1 hXK hRX hnw.out (by have := hnw.out; omega) ⟨hid rfl, fun h => by simp at h⟩ (by simp) (fun x hx => by cases hx) (by rw [hxl.out]; omega) hSb (fun gv u h1 h2 h3 => by
        rw [hRR.out]
        refine body_any hPL hF0 hU lf f.b gv nv (p.fs.length - 1) _ u sq mq cq (fun a ha => ?_) (Nat.le_refl _) h1 (by simpa using h2) h3
        have := hol.out a ha
        rw [hnw.out] at this
        exact this)
      have c0 := hrg 0 _ rfl
      have c1 := hrg 1 _ rfl
      have c2 := hrg 2 _ rfl
      simp only [Nat.add_zero] at c0
      have v0 := A0W.cell 0
      have hkw : IntKind.i64.wrap ((k : Int) - 1) = ((k - 1 : Nat) : Int) := by rw [IntKind.wrap_i64]; have := hS.small; omega
      have hk1 : ((k - 1 : Nat) : Int) < k := by omega
      have hk2 : (0 : Int) ≤ ((k - 1 : Nat) : Int) := by omega
      have hlt3 : k - 1 < k := by omega
      replace hfun := Hid.mk' hfun
      clear hS hSV hR hrg hSb hI hf hXX hXK hRX hU hE hF0 hSV1 AR1 AW1 AR AW
      generalize k - 1 = kk at *
      unfold fuC at *
      go_upto_region 8 with (go_at_call 18; go_must (refine hfun.out.mono ?_; rintro e w3 ⟨he, hR3, hc3⟩; rw [hxs.out, hxv.out] at he; subst he; have hI3 := hR3.run; rw [hxl.out] at hI3; have i2 := hI3.ar.cell 2; have i3 := hI3.ar.cell 3; have A3 := hc3.arr A1W (by rintro (e | e | e) <;> omega); have a0 := A3.cell 0; have a1 := A3.cell 1; have a2 := A3.cell 2; have a3 := A3.cell 3; have f0 := A3.frozen 0; have f1 := A3.frozen 1; have f2 := A3.frozen 2; have f3 := A3.frozen 3))
      have hsub : IntKind.i64.wrap ((lf : Int) - (xl : Int)) = (lf : Int) - (xl : Int) := by rw [IntKind.wrap_i64]; omega
      have hgrl : gr < w3.heap.size := hI3.ar.lt
      have hne1 : ¬ gr = w.heap.size + 1 := by omega
      have hne2 : ¬ w.heap.size + 1 = gr := by omega
      have hB3 : Below w.heap.size V1 w3 := hc3.bl fun i hi => ⟨by have := BV1.size; omega, by rintro (e | e | e) <;> omega⟩
      have A4 := ((((A3.set 0 (.int .u8 xs)).set 1 (.int .u64 xv)).set 2 (.slice (some ⟨gw, 0, none⟩) n n)).set 3 (.int .i64 ((lf : Int) - (xl : Int)))).drew
      have W4 := ((((hI3.aw.setOther (a := ⟨w.heap.size + 1, 0, none⟩) (.int .u8 xs) (by show gw ≠ w.heap.size + 1; omega)).setOther (a := ⟨w.heap.size + 1, 1, none⟩) (.int .u64 xv) (by show gw ≠ w.heap.size + 1; omega)).setOther (a := ⟨w.heap.size + 1, 2, none⟩) (.slice (some ⟨gw, 0, none⟩) n n) (by show gw ≠ w.heap.size + 1; omega)).setOther (a := ⟨w.heap.size + 1, 3, none⟩) (.int .i64 ((lf : Int) - (xl : Int))) (by show gw ≠ w.heap.size + 1; omega)).drew
      have C3 : Ch (fun _ => False) w w3 := Ch.ob (BV1.trans hB3)
      have B4 := ((((C3.st (g := w.heap.size + 1) (j := 0) (.int .u8 xs) (fun h => by omega)).st (g := w.heap.size + 1) (j := 1) (.int .u64 xv) (fun h => by omega)).st (g := w.heap.size + 1) (j := 2) (.slice (some ⟨gw, 0, none⟩) n n) (fun h => by omega)).st (g := w.heap.size + 1) (j := 3) (.int .i64 ((lf : Int) - (xl : Int))) (fun h => by omega)).dw.bl (N := w.heap.size) (fun i hi => ⟨hi, id⟩)
      go_region
      go_wp2_with fail
      exact bodyPost_ret (v := .tuple #[.agg #[.int .u8 xs, .int .u64 xv, .slice (some ⟨gw, 0, none⟩) n n, .int .i64 ((lf : Int) - (xl : Int))], .int .i64 0]) (resO Try.results7 rfl rfl rfl A4) rfl ⟨gw, rfl, W4, by omega, B4, hI3.len.out⟩
end Go.Proofs.Ytmljihggooaboaa
