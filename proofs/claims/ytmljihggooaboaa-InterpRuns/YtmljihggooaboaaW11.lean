/- Jd, Ta, Tb, Tc. -/
import Derived.Test.YtmljihggooaboaaW10
import Derived.Test.YtmljihggooaboaaW09
import Derived.Handy
import Derived.BigQuiet
import Derived.BigRegion
import Derived.Laws.MakeOwn
import Derived.Test.YtmljihggooaboaaRows
import Derived.Deep.QuietTactic
import Derived.WalkKit
import Derived.WalkLawsBesides
import Derived.WalkSpells
import Derived.Test.YtmljihggooaboaaW01
import Derived.Deep.DrawnRows
import Derived.Deep.RegionHeld3
import Derived.Deep.WholeRow
/- Layer interp: a call, as a statement. -/
namespace Go.Proofs.Ytmljihggooaboaa
open Go.RowKit
set_option maxRecDepth 100000
set_option linter.unusedVariables false
set_option linter.unusedSimpArgs false

theorem tk7 {P : Program} {ops : Array Oper} {Q : Exit → Act → World → Prop} {md : Region.Mode} {S : World → Prop} (i : Nat) {dst : Option Tmp} {op : Op} {ty : TypeId} {pos : String} {af : Array Edge} {gd : Option (Nat × Bool)} {v : Value} {fuel : Nat} {listed : Array Bool} {a a' : Act} {w : World} (hi : ops[i]? = some ⟨dst, op, ty, pos, af, gd⟩)
    (h : wpAnyH P md ops Q S fuel (listed.setIfInBounds i true) a' w)
    (hs : Region.noSelect ops = true := by kernel_rfl) (hf : Region.free md ops listed i = true := by kernel_rfl) (hr : (Region.ready md ops listed).contains i = true := by kernel_rfl)
    (hw : Region.wanted ⟨dst, op, ty, pos, af, gd⟩ (yielded ops a.tmps) = true := by rfl)
    (hy : ∀ u, S u → (execOp a.eval ⟨dst, op, ty, pos, af, gd⟩).run P u = .ok (.value v) u := by (intro u hSw; obtain ⟨s1, s2, s3, s4, s5, s6⟩ := hSw; go_simp; try (with_reducible rfl)))
    (hQ : ∀ c a w, Q (.panic c) (a.put dst v) w → Q (.panic c) a w := by exact fun _ _ _ h => h)
    (ha : a.put dst v = a' := by (conv => (lhs; try simp only [Act.put, List.setIfInBounds_toArray, List.set_cons_zero, List.set_cons_succ])); (try rfl)) (hS : S w := by assumption) : wpAnyH P md ops Q S (fuel + 1) listed a w :=
  wpAnyH_take hi hs hf hr hQ (Or.inl ⟨hw, hy⟩) hS (by rw [ha]; exact h)
theorem adr0 (g i : Nat) : (⟨g, 0, none⟩ : Addr).add i = ⟨g, i, none⟩ := by
  unfold Addr.add
  split <;> simp_all
variable {X : World → Prop} {Z N gr gw n gm : Nat} {p1 kv mv : Value} {fp : Option Addr} {fm fc : Nat} {gv nv : Nat} {W V : List Int} {d k : Nat} {t : StT (d + 1)} {cs : List Value} {ps : List Int}
set_option maxHeartbeats 4000000 in
theorem stmt_call {L : List Int} {B : RR} {f : FuT} {fs : List FuT} {nf j jf : Nat} (w : World) (hN : N ≤ w.heap.size) (hX : XK X Z gr gw) (h : KI X Z N gr gw n (.slice fp fm fc) p1 kv mv gv nv ⟨W, V, k + 1⟩ w) (hM : StM N w (d + 1) cs t) (hok : okS ps nv (d + 1) t) (hps : ∀ p ∈ ps, p ≤ 64) (h1 : t.nd.k = 6) (hm : N ≤ gm) (hmz : gm < Z) (hrz : gr < Z) (hwz : gw < Z) (hev : evs W V 8 t.nd.a = some L) (hLU : ∀ x ∈ L, U64 x) (hF : RS N w 3 (FuM N w) fp fm fc fs) (hj : t.nd.v = j) (hjn : j < nv) (hfj : t.nd.f = jf) (hf : fs[jf]? = some f) (hnf : f.v = nf) (hn64 : nf ≤ 64) (hLn : L.length ≤ nf) (hxU : U64 (fvB B)) (hBl : B.s.lf ≤ 4194304)
    (hB : ∀ (gv' : Nat) (u : World) (sp : Option Addr) (m cap : Nat), N ≤ u.heap.size → KI X Z N gr gw n (.slice fp fm fc) p1 kv mv gv' nf ⟨W, L ++ List.replicate (nf - L.length) 0, k⟩ u → RS N u 7 (StM N u 8) sp m cap f.b → Calls Try.prog 27 #[.pointer (some ⟨gr, 0, none⟩), .slice sp m cap, .slice (some ⟨gv', 0, none⟩) nf nf] u (KP (KI X Z N gr gw n (.slice fp fm fc) p1 kv mv gv' nf) (PP gr gw gm gv') B u)) :
    Calls Try.prog 35 (stArgs gr gv nv cs) w (KP (KI X Z N gr gw n (.slice fp fm fc) p1 kv mv gv nv) (PP gr gw gm gv) (back ⟨W, V, k⟩ t.nd.v B) w) := by
  obtain ⟨hmy, hoa, -, -⟩ := okS_s hok
  obtain ⟨sa, na, ca, sb, nb, cb, sc, nc, cc, hcs, hk0, hSa, hSb, hSc⟩ := hM
  rw [h1, hj, hfj] at hcs
  subst hcs
  have hI := h.st
  replace hI : StI N gr gw n (.slice fp fm fc) p1 kv mv gv nv W V ((k + 1 : Nat) : Int) w := hI
  have hk : k ≤ 4194304 := by have := h.lf; simp at this; omega
  have b0 := ab w (.cells (stC 6 (j : Int) (jf : Int) t.nd.t (.slice sa na ca) (.slice sb nb cb) (.slice sc nc cc)).toArray 78)
  have hI1 := hI.bl b0
  have hbn := burn_ok _ hI1.run hk
  obtain ⟨hI2, hvs⟩ := begun (k := k) _ (by simp; omega) hI1 (hSa.imp (b0.mono hN) (ExM.below (b0.mono hN) 8)) hoa (by rw [hSa.len.out]; exact fewS hps hmy)
  have A := (Arr.new w 78 (stC 6 (j : Int) (jf : Int) t.nd.t (.slice sa na ca) (.slice sb nb cb) (.slice sc nc cc)).toArray).setOther (a := ⟨gr, 3, none⟩) (.int .i64 (k : Int)) (by have := hI.run.ar.lt; show w.heap.size ≠ gr; omega)
  have a4 := A.cell 4
  have hc : Ch (fun k => k = gr ∨ k = gw ∨ k = gv) w ((w.alloc (.cells (stC 6 (j : Int) (jf : Int) t.nd.t (.slice sa na ca) (.slice sb nb cb) (.slice sc nc cc)).toArray 78)).setCell ⟨gr, 3, none⟩ (.int .i64 (k : Int))) := (Ch.ob b0).st _ (fun _ => .inl rfl)
  have hlowQ := hI.low hN hc
  have hKQ : ∀ u, Below _ _ u → KI X Z N gr gw n (.slice fp fm fc) p1 kv mv gv nv ⟨W, V, k⟩ u := fun u hb => (KI.of (gm := 0) hX h (r := ⟨0, 0, ⟨W, V, k⟩⟩) (by simp) ⟨rfl, hI2, hc⟩).2.1.bl hX hb
  have hcP : ∀ u, Below _ _ u → Ch (PP gr gw gm gv) w u := fun u hb => (hc.imp fun k hk => by rcases hk with hk | hk | hk; exact .inl hk; exact .inr (.inl hk); exact .inr (.inr (.inr hk))).trans (Ch.ob hb)
  have hwP : w.heap.size ≠ gr ∧ w.heap.size ≠ gw ∧ w.heap.size ≠ gm ∧ w.heap.size ≠ gv := by
    have q1 := hI.run.ar.lt; have q2 := hI.run.aw.lt; have q3 := hI.var.av.lt; have q4 := h.zz
    omega
  have hzv := h.z
  have hjf : jf < fm := by rw [hF.len.out]; exact (List.getElem?_eq_some_iff.1 hf).1
  obtain ⟨gf, of, rfl, hgf, hFR⟩ := hF.at0 (by omega)
  obtain ⟨fcs, hfr, fsp, fmm, fca, rfl, -, hfS⟩ := hFR jf f hf
  have hjf' : (jf : Int) < fm := by omega
  have hjn' : (j : Int) < nv := by omega
  rw [hev] at hvs
  rw [hj]
  clear hI hSa hSb hSc hoa hmy hok hI1 h1 hev h hF hFR
  unfold stArgs
  generalize hQ : ((w.alloc (.cells (stC 6 (j : Int) (jf : Int) t.nd.t (.slice sa na ca) (.slice sb nb cb) (.slice sc nc cc)).toArray 78)).setCell ⟨gr, 3, none⟩ (.int .i64 (k : Int))) = Q at *
  unfold stC at *
  go_enter Try.func35, Try.ntmps35
  go_upto_region 20 with (first
    | (go_at_call 42; go_must (refine hbn.mono ?_; rintro e w1 ⟨rfl, h, -⟩; replace h := h.symm; subst h))
    | (go_at_call 43; go_must (refine hvs.mono ?_; rintro e w2 ⟨hn, -, hb2⟩; obtain ⟨g, c, hn', hg, hcl, hlc, hgl⟩ := hn _ rfl; subst hn'; have A2 := A.bl hb2; have k0 := A2.cell 0)))
  have hlow2 : Below N w w2 := hlowQ.trans (hb2.mono (by have := hlowQ.size; omega))
  have hK2 := hKQ _ hb2
  have hR2 : RX X Z N gr gw n gm (.slice (some ⟨gf, of, none⟩) fm fc) p1 kv mv W k w2 := ⟨hK2.st.run, hK2.x, hK2.zz, hK2.lf, hK2.st.l1, hK2.st.l2, hm, hmz, hrz, hwz⟩
  have hcall := call_any (p := f.p) (ca := c) (sx := some ⟨g, 0, none⟩) (na := L.length) (L := L) (B := B) w2.drew (by have := hlow2.size; show N ≤ w2.heap.size; omega) hX (hR2.bl hX (Below.refl _ w2).drew) hnf hn64 ⟨hid rfl, fun _ => ⟨⟨g, 0, none⟩, rfl, fun i x hx => (adr0 g i).symm ▸ hcl i x hx⟩⟩ hLn hLU hBl (hfS.imp (hlow2.trans ((Below.refl _ w2).drew)) (StM.below (hlow2.trans ((Below.refl _ w2).drew)) 8)) (fun gv' u h1 h2 h3 => hB gv' u fsp fmm fca h1 h2 h3)
  have hfr2 := rb hfr hlow2 hgf
  have c0 := hfr2 0 _ rfl
  have c1 := hfr2 1 _ rfl
  have c2 := hfr2 2 _ rfl
  simp only [Nat.add_zero] at c0
  have k1 : w2.cell? ⟨w.heap.size, 1, none⟩ = some (.int .i64 (j : Int)) := A2.cell 1
  have k2 : w2.cell? ⟨w.heap.size, 2, none⟩ = some (.int .i64 (jf : Int)) := A2.cell 2
  have r0 : w2.cell? ⟨gr, 0, none⟩ = some (.slice (some ⟨gf, of, none⟩) fm fc) := hK2.st.run.ar.cell 0
  have hcw := hcP _ hb2
  have hnv64 := hK2.st.var.n64
  clear hcl hfr hfr2 hfS hB hvs hbn a4 hKQ hcP hLU hLn hnf hf hj hfj hn64 hps hR2 A2 k0
  unfold fuC at hcall
  refine rgn (fun u => u.cell? ⟨w.heap.size, 1, none⟩ = some (.int .i64 (j : Int)) ∧ u.cell? ⟨w.heap.size, 2, none⟩ = some (.int .i64 (jf : Int)) ∧ u.cell? ⟨gr, 0, none⟩ = some (.slice (some ⟨gf, of, none⟩) fm fc) ∧ u.cell? ⟨gf, of + jf * 3, none⟩ = some (.int .i64 f.p) ∧ u.cell? ⟨gf, of + jf * 3 + 1, none⟩ = some (.int .i64 f.v) ∧ u.cell? ⟨gf, of + jf * 3 + 2, none⟩ = some (.slice fsp fmm fca)) ⟨k1, k2, r0, c0, c1, c2⟩ (fun hS => ?_)
  refine tk7 0 rfl ?_
  refine tk7 1 rfl ?_
  refine tk7 2 rfl ?_
  refine tk7 3 rfl ?_
  refine tk7 4 rfl ?_
  refine tk7 5 rfl ?_
  refine tk7 6 rfl ?_
  refine tk7 7 rfl ?_
  refine tk7 8 rfl ?_
  refine tk7 9 rfl ?_
  refine tk7 10 rfl ?_
  refine tk7 11 rfl ?_
  refine tk7 12 rfl ?_
  refine tk7 13 rfl ?_
  refine rd 14 rfl (fun K hK => ?_)
  go_simp
  refine hcall.mono ?_
  rintro e w3 ⟨he, hR3, hc3⟩
  have hgm : ∀ q, q ≠ gr → q ≠ gw → q ≠ gm → ¬ (q = gr ∨ q = gw ∨ q = gm) := fun q a b c => by rintro (h | h | h); exact a h; exact b h; exact c h
  have hcP3 : Ch (PP gr gw gm gv) w w3 := (hcw.dw).trans (hc3.imp fun k hk => by rcases hk with hk | hk | hk; exact .inl hk; exact .inr (.inl hk); exact .inr (.inr (.inl hk)))
  have hV3 : VarI gv nv V w3 := ⟨hc3.arr hK2.st.var.av.drew (hgm _ (fun e => hK2.st.n1 e.symm) (fun e => hK2.st.n2 e.symm) (by omega)), hK2.st.var.len, hK2.st.var.n64, hK2.st.var.vU⟩
  have hK3 : KI X Z N gr gw n (.slice (some ⟨gf, of, none⟩) fm fc) p1 kv mv gv nv ⟨B.s.W, V, B.s.lf⟩ w3 := ⟨⟨hR3.run, hV3, hK2.st.n1, hK2.st.n2, hK2.st.l1, hK2.st.l2, hK2.st.l3⟩, hR3.x, hK2.z, hR3.lf⟩
  by_cases hk01 : B.k = 0 ∨ B.k = 1
  · rw [if_pos hk01] at he
    subst he
    have hbk : back ⟨W, V, k⟩ (j : Int) B = ⟨0, 0, ⟨B.s.W, V.set j (fvB B), B.s.lf⟩⟩ := by
      unfold back fvB
      rcases hk01 with h | h
      · rw [if_pos h, if_neg (by omega)]; simp
      · rw [if_neg (by omega), if_pos h, if_pos h]; simp
    rw [hbk]
    have vc := hV3.av.cell j
    rw [uA_get (by rw [hV3.len.out]; exact hjn)] at vc
    have vf := hV3.av.frozen j
    have hI4 : KI X Z N gr gw n (.slice (some ⟨gf, of, none⟩) fm fc) p1 kv mv gv nv ⟨B.s.W, V.set j (fvB B), B.s.lf⟩ (w3.setCell ⟨gv, j, none⟩ (.int .u64 (fvB B))) :=
      ⟨⟨⟨hR3.run.ar.setOther _ hK2.st.n1, hR3.run.aw.setOther _ hK2.st.n2, hR3.run.ne, hR3.run.len, hR3.run.n10, hR3.run.wU⟩, ⟨by rw [← uA_set]; exact hV3.av.set j _, hid (by rw [List.length_set]; exact hV3.len.out), hV3.n64, fun y hy => by
        rcases List.mem_or_eq_of_mem_set hy with h | h
        · exact hV3.vU y h
        · rw [h]; exact hxU⟩, hK2.st.n1, hK2.st.n2, hK2.st.l1, hK2.st.l2, hK2.st.l3⟩, hX _ _ hR3.x hR3.z ((Ch.refl _ w3).st _ (fun _ => .inr (.inr ⟨hK2.z, nb_of hV3.av (by omega)⟩))), hK2.z, hR3.lf⟩
    have hc4 := hcP3.st (g := gv) (j := j) (.int .u64 (fvB B)) (fun _ => .inr (.inr (.inr rfl)))
    have hgf2 : gf ≠ gr ∧ gf ≠ gw ∧ gf ≠ gm ∧ gf ≠ gv := by have := hK2.st.l1; have := hK2.st.l2; have := hK2.st.l3; omega
    have hcl3 : ∀ (q o : Nat) (y : Value), q < w2.heap.size → q ≠ gr → q ≠ gw → q ≠ gm → w2.cell? ⟨q, o, none⟩ = some y → w3.cell? ⟨q, o, none⟩ = some y := fun q o y h1 h2 h3 h4 h5 => (World.cell?_of_block (hc3.block q h1 (hgm q h2 h3 h4))).trans h5
    have hgl2 : gf < w2.heap.size := block_lt_of_cell c0
    have hwl2 : w.heap.size < w2.heap.size := block_lt_of_cell k1
    have S3 := And.intro (hcl3 _ _ _ hwl2 hwP.1 hwP.2.1 hwP.2.2.1 k1) (And.intro (hcl3 _ _ _ hwl2 hwP.1 hwP.2.1 hwP.2.2.1 k2) (And.intro (hR3.run.ar.cell 0) (And.intro (hcl3 _ _ _ hgl2 hgf2.1 hgf2.2.1 hgf2.2.2.1 c0) (And.intro (hcl3 _ _ _ hgl2 hgf2.1 hgf2.2.1 hgf2.2.2.1 c1) (hcl3 _ _ _ hgl2 hgf2.1 hgf2.2.1 hgf2.2.2.1 c2)))))
    go_wp2_with fail
    refine hK.out _ _ S3 (fun hS3 => ?_)
    clear hK K
    try simp only [Act.put, List.setIfInBounds_toArray, List.set_cons_zero, List.set_cons_succ]
    refine tk7 15 rfl ?_
    refine rd 16 rfl (fun K hK => ?_)
    go_simp
    have T : ∀ (q o : Nat) (y : Value), gv ≠ q → w3.cell? ⟨q, o, none⟩ = some y → (w3.setCell ⟨gv, j, none⟩ (.int .u64 (fvB B))).cell? ⟨q, o, none⟩ = some y := fun q o y h1 h2 => (World.cell?_setCell_far _ _ _ _ h1).trans h2
    refine hK.out _ _ ⟨T _ _ _ hwP.2.2.2.symm hS3.1, T _ _ _ hwP.2.2.2.symm hS3.2.1, T _ _ _ hK2.st.n1.symm hS3.2.2.1, T _ _ _ hgf2.2.2.2.symm hS3.2.2.2.1, T _ _ _ hgf2.2.2.2.symm hS3.2.2.2.2.1, T _ _ _ hgf2.2.2.2.symm hS3.2.2.2.2.2⟩ (fun hS4 => ?_)
    clear hK K
    try simp only [Act.put, List.setIfInBounds_toArray, List.set_cons_zero, List.set_cons_succ]
    refine dn ?_
    go_wp2_with fail
    go_end0
    rw [hbk]
    exact ⟨rfl, hI4, hc4⟩
  · rw [if_neg hk01] at he
    have hbk : back ⟨W, V, k⟩ (j : Int) B = ⟨B.k, 0, ⟨B.s.W, V, B.s.lf⟩⟩ := by
      unfold back
      rw [if_neg (fun h => hk01 (.inl h)), if_neg (fun h => hk01 (.inr h))]
    rw [hbk]
    by_cases hk2 : B.k = 2
    · rw [if_pos hk2] at he
      subst he
      exact ⟨rfl, by unfold RR.end; rw [if_neg (fun h => hk01 (.inl h)), if_neg (fun h => hk01 (.inr h)), if_pos hk2], hK3, hcP3⟩
    · rw [if_neg hk2] at he
      subst he
      exact ⟨rfl, by unfold RR.end; rw [if_neg (fun h => hk01 (.inl h)), if_neg (fun h => hk01 (.inr h)), if_neg hk2], hK3, hcP3⟩
end Go.Proofs.Ytmljihggooaboaa
/- Layer interp: what the layers below give. -/
namespace Go.Proofs.Ytmljihggooaboaa
open Go.RowKit
set_option maxRecDepth 100000
set_option linter.unusedVariables false
set_option linter.unusedSimpArgs false

/-- A word turned right. -/
def rotr (x : Int) (n : Nat) : Int := bits .or .u32 (x / 2 ^ n) (x * 2 ^ (32 - n) % 4294967296)
def sg0 (x : Int) : Int := bits .xor .u32 (bits .xor .u32 (rotr x 7) (rotr x 18)) (x / 2 ^ 3)
def sg1 (x : Int) : Int := bits .xor .u32 (bits .xor .u32 (rotr x 17) (rotr x 19)) (x / 2 ^ 10)
def bg0 (x : Int) : Int := bits .xor .u32 (bits .xor .u32 (rotr x 2) (rotr x 13)) (rotr x 22)
def bg1 (x : Int) : Int := bits .xor .u32 (bits .xor .u32 (rotr x 6) (rotr x 11)) (rotr x 25)
def cho (x y z : Int) : Int := bits .or .u32 (bits .and .u32 x y) (bits .and .u32 (bits .xor .u32 IntKind.u32.max x) z)
def maj (x y z : Int) : Int := bits .or .u32 (bits .or .u32 (bits .and .u32 x y) (bits .and .u32 x z)) (bits .and .u32 y z)
set_option maxRecDepth 100000 in
set_option maxHeartbeats 400000 in
theorem turnRight_any (x n : Int) (w : World) (h0 : 0 ≤ n) (h1 : n ≤ 31) :
    Calls Try.prog 94 #[.int .u32 x, .int .u64 n] w fun e w' => e = .returned (.int .u32 (rotr x n.toNat)) ∧ w' = w := by
  have e : (32 - n).toNat = 32 - n.toNat := by omega
  have E : Hid ((32 - n).toNat = 32 - n.toNat) := e
  clear e
  go_enter Try.func94, Try.ntmps94
  go_wp2
  go_ret
  refine ⟨?_, rfl⟩
  unfold rotr
  rw [← E.out]; rfl
set_option maxRecDepth 100000 in
set_option maxHeartbeats 400000 in
theorem choose_any (x y z : Int) (w : World) :
    Calls Try.prog 91 #[.int .u32 x, .int .u32 y, .int .u32 z] w fun e w' => e = .returned (.int .u32 (cho x y z)) ∧ w' = w := by
  have hs : IntKind.u32.signed = false := rfl
  go_enter Try.func91, Try.ntmps91
  go_wp2
  go_ret
  exact ⟨rfl, rfl⟩
set_option maxRecDepth 100000 in
set_option maxHeartbeats 400000 in
theorem majority_any (x y z : Int) (w : World) :
    Calls Try.prog 93 #[.int .u32 x, .int .u32 y, .int .u32 z] w fun e w' => e = .returned (.int .u32 (maj x y z)) ∧ w' = w := by
  go_enter Try.func93, Try.ntmps93
  go_wp2
  go_ret
  exact ⟨rfl, rfl⟩
set_option maxRecDepth 100000 in
set_option maxHeartbeats 400000 in
theorem sg1_any (x : Int) (w : World) :
    Calls Try.prog 88 #[.int .u32 x] w fun e w' => e = .returned (.int .u32 (sg1 x)) ∧ w' = w := by
  go_enter Try.func88, Try.ntmps88
  go_wp2_with (go_at_call 94; refine (turnRight_any _ _ _ (by omega) (by omega)).mono ?_; rintro e w' ⟨rfl, rfl⟩)
  go_ret
  exact ⟨rfl, rfl⟩
set_option maxRecDepth 100000 in
set_option maxHeartbeats 400000 in
theorem sg0_any (x : Int) (w : World) :
    Calls Try.prog 89 #[.int .u32 x] w fun e w' => e = .returned (.int .u32 (sg0 x)) ∧ w' = w := by
  go_enter Try.func89, Try.ntmps89
  go_wp2_with (go_at_call 94; refine (turnRight_any _ _ _ (by omega) (by omega)).mono ?_; rintro e w' ⟨rfl, rfl⟩)
  go_ret
  exact ⟨rfl, rfl⟩
set_option maxRecDepth 100000 in
set_option maxHeartbeats 400000 in
theorem bg1_any (x : Int) (w : World) :
    Calls Try.prog 90 #[.int .u32 x] w fun e w' => e = .returned (.int .u32 (bg1 x)) ∧ w' = w := by
  go_enter Try.func90, Try.ntmps90
  go_wp2_with (go_at_call 94; refine (turnRight_any _ _ _ (by omega) (by omega)).mono ?_; rintro e w' ⟨rfl, rfl⟩)
  go_ret
  exact ⟨rfl, rfl⟩
set_option maxRecDepth 100000 in
set_option maxHeartbeats 400000 in
theorem bg0_any (x : Int) (w : World) :
    Calls Try.prog 92 #[.int .u32 x] w fun e w' => e = .returned (.int .u32 (bg0 x)) ∧ w' = w := by
  go_enter Try.func92, Try.ntmps92
  go_wp2_with (go_at_call 94; refine (turnRight_any _ _ _ (by omega) (by omega)).mono ?_; rintro e w' ⟨rfl, rfl⟩)
  go_ret
  exact ⟨rfl, rfl⟩
end Go.Proofs.Ytmljihggooaboaa
/- Layer interp: what the layers below give. -/
namespace Go.Proofs.Ytmljihggooaboaa
open Go.RowKit
set_option maxRecDepth 100000
set_option linter.unusedVariables false
set_option linter.unusedSimpArgs false

structure St where
  (a b c d e f g h : Int)
def step (s : St) (k w : Int) : St :=
  { a := ((s.h + bg1 s.e + cho s.e s.f s.g + k + w) % 4294967296 + (bg0 s.a + maj s.a s.b s.c) % 4294967296) % 4294967296,
    b := s.a, c := s.b, d := s.c,
    e := (s.d + (s.h + bg1 s.e + cho s.e s.f s.g + k + w) % 4294967296) % 4294967296,
    f := s.e, g := s.f, h := s.g }
def St.plus (s r : St) : St :=
  { a := (s.a + r.a) % 4294967296, b := (s.b + r.b) % 4294967296, c := (s.c + r.c) % 4294967296, d := (s.d + r.d) % 4294967296,
    e := (s.e + r.e) % 4294967296, f := (s.f + r.f) % 4294967296, g := (s.g + r.g) % 4294967296, h := (s.h + r.h) % 4294967296 }
def St.cells (s : St) : Array Value := #[.int .u32 s.a, .int .u32 s.b, .int .u32 s.c, .int .u32 s.d, .int .u32 s.e, .int .u32 s.f, .int .u32 s.g, .int .u32 s.h]
def rnd (K W : Nat → Int) (s : St) : Nat → St
  | 0 => s
  | t + 1 => step (rnd K W s t) (K t) (W t)
def Row (w : World) (b n : Nat) (f : Nat → Int) : Prop := ∀ t, t < n → w.cell? ⟨b, t, none⟩ = some (.int .u32 (f t))
set_option maxRecDepth 100000 in
set_option maxHeartbeats 1000000 in
theorem compress_any (s : St) (bw bk : Nat) (W K : Nat → Int) (w : World) (hbw : bw < w.heap.size) (hbk : bk < w.heap.size)
    (hW : Row w bw 64 W) (hK : Row w bk 64 K) :
    Calls Try.prog 84 #[.agg #[.int .u32 s.a, .int .u32 s.b, .int .u32 s.c, .int .u32 s.d, .int .u32 s.e, .int .u32 s.f, .int .u32 s.g, .int .u32 s.h], .pointer (some ⟨bw, 0, none⟩), .pointer (some ⟨bk, 0, none⟩)] w fun e w' => e = .returned (.agg (s.plus (rnd K W s 64)).cells) ∧ Below w.heap.size w w' := by
  go_enter Try.func84, Try.ntmps84
  go_wp2
  go_quiet (fail)
  go_wp2
  go_loopw [7, 8, 9, 10, 11, 12, 13, 14, 34] (fun a b c d e f g h i wr => ∃ (k n : Nat), k ≤ 64 ∧ i = .int .i64 k ∧ a = .int .u32 (rnd K W s k).a ∧ b = .int .u32 (rnd K W s k).b ∧ c = .int .u32 (rnd K W s k).c ∧ d = .int .u32 (rnd K W s k).d
     ∧ e = .int .u32 (rnd K W s k).e ∧ f = .int .u32 (rnd K W s k).f ∧ g = .int .u32 (rnd K W s k).g ∧ h = .int .u32 (rnd K W s k).h ∧ wr = ((w.alloc (.cells #[.int .u32 s.a, .int .u32 s.b, .int .u32 s.c, .int .u32 s.d, .int .u32 s.e, .int .u32 s.f, .int .u32 s.g, .int .u32 s.h] 84)).alloc (.cells #[.int .u32 0, .int .u32 0, .int .u32 0, .int .u32 0, .int .u32 0, .int .u32 0, .int .u32 0, .int .u32 0] 84)).drewN n)
     (fun _ _ _ _ _ _ _ _ i _ => 64 - (intOf i).toNat)
  case atStart => exact ⟨0, nq, by omega, rfl, rfl, rfl, rfl, rfl, rfl, rfl, rfl, rfl, rfl⟩
  case round =>
    obtain ⟨k, n, hk, rfl, rfl, rfl, rfl, rfl, rfl, rfl, rfl, rfl, hw⟩ := hrel
    by_cases hlt : k < 64
    · have h1 : wr.cell? ⟨bw, k, none⟩ = some (.int .u32 (W k)) := by rw [hw]; simpa [World.cell?_alloc_lt, hbw, Nat.lt_succ_of_lt hbw] using hW k hlt
      have h2 : wr.cell? ⟨bk, k, none⟩ = some (.int .u32 (K k)) := by rw [hw]; simpa [World.cell?_alloc_lt, hbk, Nat.lt_succ_of_lt hbk] using hK k hlt
      have h3 : (k : Int) < 64 := by omega
      have h4 : (0 : Int) ≤ k := by omega
      generalize hr : rnd K W s k = r
      have HR : Hid (rnd K W s k = r) := hr
      have HW : Hid (wr = _) := hw
      clear hr hW hK hw
      go_wp2
      go_quiet ((first | (go_at_call 90; exact Calls.quiet_of_same (bg1_any _ _)) | (go_at_call 91; exact Calls.quiet_of_same (choose_any _ _ _ _))))
      go_wp2_with (first | (go_at_call 92; refine (bg0_any _ _).mono ?_; rintro e w' ⟨rfl, rfl⟩) | (go_at_call 93; refine (majority_any _ _ _ _).mono ?_; rintro e w' ⟨rfl, rfl⟩))
      go_roundw
      case rel => exact ⟨k + 1, n + nq, by omega, by go_num, by rw [rnd, HR.out]; rfl, by rw [rnd, HR.out]; rfl, by rw [rnd, HR.out]; rfl, by rw [rnd, HR.out]; rfl, by rw [rnd, HR.out]; rfl, by rw [rnd, HR.out]; rfl, by rw [rnd, HR.out]; rfl, by rw [rnd, HR.out]; rfl, by rw [HW.out, World.drewN_drewN]⟩
      case measure => simp [intOf]; omega
    · have : k = 64 := by omega
      subst this
      subst hw
      go_wp2
      refine bodyPost_ret (v := .agg (s.plus (rnd K W s 64)).cells) (by simp [results, Try.results84, go_sem, St.cells, St.plus]) rfl ⟨rfl, ?_⟩
      repeat (with_reducible first | exact Below.refl _ _ | refine Below.setCell ?_ (by simp) _ | refine Below.alloc ?_ (by simp) _ | refine below_drewN ?_ _)
end Go.Proofs.Ytmljihggooaboaa
/- Layer interp: what the layers below give. -/
namespace Go.Proofs.Ytmljihggooaboaa
open Go.RowKit
set_option maxRecDepth 100000
set_option linter.unusedVariables false
set_option linter.unusedSimpArgs false
attribute [local go_sem ↓] Go.wp_at_zero Go.wp_at_succ

def Bytes (w : World) (b off n : Nat) (B : Nat → Int) : Prop := ∀ t, t < n → w.cell? ⟨b, off + t, none⟩ = some (.int .u8 (B t))
def word (B : Nat → Int) (t : Nat) : Int :=
  bits .or .u32 (bits .or .u32 (bits .or .u32 (B (4 * t) % 4294967296 * 16777216 % 4294967296) (B (4 * t + 1) % 4294967296 * 65536 % 4294967296)) (B (4 * t + 2) % 4294967296 * 256 % 4294967296)) (B (4 * t + 3) % 4294967296)
def wnext (l : List Int) : Int := (sg1 (l.getD (l.length - 2) 0) + l.getD (l.length - 7) 0 + sg0 (l.getD (l.length - 15) 0) + l.getD (l.length - 16) 0) % 4294967296
def wsn (B : Nat → Int) : Nat → List Int
  | 0 => (List.range 16).map (word B)
  | k + 1 => wsn B k ++ [wnext (wsn B k)]
def WW (B : Nat → Int) (t : Nat) : Int := (wsn B 48).getD t 0
theorem wsn_len (B : Nat → Int) (k : Nat) : (wsn B k).length = 16 + k := by
  induction k with
  | zero => simp [wsn]
  | succ k ih => simp [wsn, ih]; omega
theorem wsn_pre (B : Nat → Int) (j k t : Nat) (ht : t < 16 + k) : (wsn B (k + j)).getD t 0 = (wsn B k).getD t 0 := by
  induction j with
  | zero => rfl
  | succ j ih =>
    rw [← ih, ← Nat.add_assoc, wsn]
    have := wsn_len B (k + j)
    simp only [List.getD_eq_getElem?_getD]
    rw [List.getElem?_append_left (by omega)]
theorem WW_pre (B : Nat → Int) (k t : Nat) (hk : k ≤ 48) (ht : t < 16 + k) : WW B t = (wsn B k).getD t 0 := by
  have := wsn_pre B (48 - k) k t ht
  rw [show k + (48 - k) = 48 by omega] at this
  exact this
theorem WW_lo (B : Nat → Int) (t : Nat) (ht : t < 16) : WW B t = word B t := by
  rw [WW_pre B 0 t (by omega) (by omega)]; simp [wsn, List.getElem?_range ht]
theorem WW_hi (B : Nat → Int) (t : Nat) (h1 : 16 ≤ t) (h2 : t < 64) :
    WW B t = (sg1 (WW B (t - 2)) + WW B (t - 7) + sg0 (WW B (t - 15)) + WW B (t - 16)) % 4294967296 := by
  obtain ⟨k, rfl⟩ : ∃ k, t = 16 + k := ⟨t - 16, by omega⟩
  rw [WW_pre B (k + 1) _ (by omega) (by omega), WW_pre B k (16 + k - 2) (by omega) (by omega), WW_pre B k (16 + k - 7) (by omega) (by omega), WW_pre B k (16 + k - 15) (by omega) (by omega), WW_pre B k (16 + k - 16) (by omega) (by omega), wsn]
  have := wsn_len B k
  simp only [List.getD_eq_getElem?_getD]
  rw [List.getElem?_append_right (by omega), this, Nat.sub_self]
  simp [wnext, this]
theorem set_step {C : Array Value} {f : Nat → Value} {k n : Nat} (hs : C.size = n) (hk : k < n) (h : ∀ t, t < k → C[t]? = some (f t)) :
    ∀ t, t < k + 1 → (C.setIfInBounds k (f k))[t]? = some (f t) := by
  intro t ht
  rw [Array.getElem?_setIfInBounds]
  by_cases e : k = t
  · subst e; simp [hs, hk]
  · rw [if_neg e]; exact h t (by omega)
theorem keep_set {w : World} {g k j : Nat} {u v : Value} (h : w.cell? ⟨g, j, none⟩ = some v) (hk : k ≠ j) : (w.setCell ⟨g, k, none⟩ u).drew.cell? ⟨g, j, none⟩ = some v := by
  rw [World.cell?_drew, World.cell?_setCell_other]
  · exact h
  · intro e; injection e; contradiction
set_option maxRecDepth 100000 in
set_option maxHeartbeats 1000000 in
theorem schedule_any (b off cap : Nat) (B : Nat → Int) (w : World) (hb : b < w.heap.size) (hB : Bytes w b off 64 B) (hcap : 64 ≤ cap) :
    Calls Try.prog 83 #[.slice (some ⟨b, off, none⟩) 64 cap] w fun e w' => ∃ C : Array Value, e = .returned (.agg C) ∧ C.size = 64 ∧ (∀ t, t < 64 → C[t]? = some (.int .u32 (WW B t))) ∧ Below w.heap.size w w' := by
  go_enter Try.func83, Try.ntmps83
  go_wp2
  go_loopw [7] (fun i wr => ∃ (k : Nat) (C Z : Array Value), k ≤ 16 ∧ i = .int .i64 k ∧ Arr wr w.heap.size 98 Z ∧ Arr wr (w.heap.size + 1) 98 C ∧ Z.size = 64 ∧ C.size = 64 ∧ (∀ t, t < k → C[t]? = some (.int .u32 (WW B t))) ∧ Below w.heap.size w wr)
    (fun i _ => 16 - (intOf i).toNat)
  case atStart => exact ⟨0, _, _, by omega, rfl, (Arr.new _ _ _).alloc _, by simpa using Arr.new (w.alloc _) 98 _, rfl, rfl, fun t h => by omega, ((Below.refl _ _).alloc (by simp) _).alloc (by simp) _⟩
  case round =>
    obtain ⟨k, C, Z, hk, rfl, hZ, hC, hZs, hCs, hw, hbl⟩ := hrel
    by_cases hlt : k < 16
    · have h3 : (k : Int) < 16 := by omega
      have h4 : (0 : Int) ≤ k := by omega
      have c0 : wr.cell? ⟨b, off + 4 * k, none⟩ = some (.int .u8 (B (4 * k))) := by have := (hbl.cell (p := ⟨b, off + (4 * k), none⟩) hb).trans (hB (4 * k) (by omega)); exact this
      have c1 : wr.cell? ⟨b, off + 4 * k + 1, none⟩ = some (.int .u8 (B (4 * k + 1))) := by have := (hbl.cell (p := ⟨b, off + (4 * k + 1), none⟩) hb).trans (hB (4 * k + 1) (by omega)); exact this
      have c2 : wr.cell? ⟨b, off + 4 * k + 2, none⟩ = some (.int .u8 (B (4 * k + 2))) := by have := (hbl.cell (p := ⟨b, off + (4 * k + 2), none⟩) hb).trans (hB (4 * k + 2) (by omega)); exact this
      have c3 : wr.cell? ⟨b, off + 4 * k + 3, none⟩ = some (.int .u8 (B (4 * k + 3))) := by have := (hbl.cell (p := ⟨b, off + (4 * k + 3), none⟩) hb).trans (hB (4 * k + 3) (by omega)); exact this
      have cC : wr.cell? ⟨w.heap.size + 1, k, none⟩ = some (C[k]'(by omega)) := by rw [hC.cell, Array.getElem?_eq_getElem]
      have cF := hC.frozen k
      have hl : 4 * k + 4 - 4 * k = 4 := by omega
      have hne : b ≠ w.heap.size + 1 := by omega
      have hne' : w.heap.size + 1 ≠ b := by omega
      have h5 : (k : Int) < 64 := by omega
      clear hB
      go_wp2
      go_region_held3 (fun w' => w'.cell? ⟨b, off + 4 * k, none⟩ = some (.int .u8 (B (4 * k))) ∧ w'.cell? ⟨b, off + 4 * k + 1, none⟩ = some (.int .u8 (B (4 * k + 1))) ∧ w'.cell? ⟨b, off + 4 * k + 2, none⟩ = some (.int .u8 (B (4 * k + 2))) ∧ w'.cell? ⟨b, off + 4 * k + 3, none⟩ = some (.int .u8 (B (4 * k + 3)))) (go_keep) (fail)
      all_goals go_wp2
      all_goals go_roundw
      case rel =>
        have e := WW_lo B k hlt
        refine ⟨k + 1, _, Z, by omega, by go_num, (hZ.setOther _ (by simp)).drew, (hC.set k _).drew, hZs, by simp [hCs], ?_, (hbl.setCell (by simp) _).drew⟩
        have := set_step (f := fun t => .int .u32 (WW B t)) hCs (by omega) hw
        simp only [e] at this
        exact this
      case measure => simp [intOf]; omega
    · obtain rfl : k = 16 := by omega
      clear hlt hk hB
      obtain ⟨wo, rfl⟩ : ∃ wo : World, wo = wr := ⟨_, rfl⟩
      go_wp2
      go_loopw [6] (fun i wr => ∃ (k : Nat) (C : Array Value), 16 ≤ k ∧ k ≤ 64 ∧ i = .int .i64 k ∧ Arr wr w.heap.size 98 Z ∧ Arr wr (w.heap.size + 1) 98 C ∧ C.size = 64 ∧ (∀ t, t < k → C[t]? = some (.int .u32 (WW B t))) ∧ Below w.heap.size w wr)
        (fun i _ => 64 - (intOf i).toNat)
      case atStart => exact ⟨16, C, by omega, by omega, rfl, hZ, hC, hCs, hw, hbl⟩
      case round =>
        clear hC hCs hw hbl hZ
        obtain ⟨k, C, hk, hk2, rfl, hZ, hC, hCs, hw, hbl⟩ := hrel
        by_cases hlt : k < 64
        · have h3 : (k : Int) < 64 := by omega
          have h4 : (16 : Int) ≤ k := by omega
          have c2 : wr.cell? ⟨w.heap.size + 1, k - 2, none⟩ = some (.int .u32 (WW B (k - 2))) := (hC.cell _).trans (hw _ (by omega))
          have c7 : wr.cell? ⟨w.heap.size + 1, k - 7, none⟩ = some (.int .u32 (WW B (k - 7))) := (hC.cell _).trans (hw _ (by omega))
          have c15 : wr.cell? ⟨w.heap.size + 1, k - 15, none⟩ = some (.int .u32 (WW B (k - 15))) := (hC.cell _).trans (hw _ (by omega))
          have c16 : wr.cell? ⟨w.heap.size + 1, k - 16, none⟩ = some (.int .u32 (WW B (k - 16))) := (hC.cell _).trans (hw _ (by omega))
          have cC : wr.cell? ⟨w.heap.size + 1, k, none⟩ = some (C[k]'(by omega)) := by rw [hC.cell, Array.getElem?_eq_getElem]
          have cF := hC.frozen k
          have n2 : k ≠ k - 2 := by omega
          have n7 : k ≠ k - 7 := by omega
          have n15 : k ≠ k - 15 := by omega
          have n16 : k ≠ k - 16 := by omega
          have e2 : ((k : Int) - 2).toNat = k - 2 := by omega
          have e7 : ((k : Int) - 7).toNat = k - 7 := by omega
          have e15 : ((k : Int) - 15).toNat = k - 15 := by omega
          have e16 : ((k : Int) - 16).toNat = k - 16 := by omega
          have w2 : IntKind.i64.wrap ((k : Int) - 2) = (k : Int) - 2 := by simp [IntKind.wrap, IntKind.bits, IntKind.signed]; omega
          have a2 : (2 : Int) ≤ (k : Int) := by omega
          have z2 : (k : Int) - 2 < 64 := by omega
          have w7 : IntKind.i64.wrap ((k : Int) - 7) = (k : Int) - 7 := by simp [IntKind.wrap, IntKind.bits, IntKind.signed]; omega
          have a7 : (7 : Int) ≤ (k : Int) := by omega
          have z7 : (k : Int) - 7 < 64 := by omega
          have w15 : IntKind.i64.wrap ((k : Int) - 15) = (k : Int) - 15 := by simp [IntKind.wrap, IntKind.bits, IntKind.signed]; omega
          have a15 : (15 : Int) ≤ (k : Int) := by omega
          have z15 : (k : Int) - 15 < 64 := by omega
          have w16 : IntKind.i64.wrap ((k : Int) - 16) = (k : Int) - 16 := by simp [IntKind.wrap, IntKind.bits, IntKind.signed]; omega
          have a16 : (16 : Int) ≤ (k : Int) := by omega
          have z16 : (k : Int) - 16 < 64 := by omega
          go_wp2
          go_region_held3 (fun w' => w'.cell? ⟨w.heap.size + 1, k - 2, none⟩ = some (.int .u32 (WW B (k - 2))) ∧ w'.cell? ⟨w.heap.size + 1, k - 7, none⟩ = some (.int .u32 (WW B (k - 7))) ∧ w'.cell? ⟨w.heap.size + 1, k - 15, none⟩ = some (.int .u32 (WW B (k - 15))) ∧ w'.cell? ⟨w.heap.size + 1, k - 16, none⟩ = some (.int .u32 (WW B (k - 16)))) (first | exact ⟨keep_set c2 n2, keep_set c7 n7, keep_set c15 n15, keep_set c16 n16⟩ | go_keep) ((first | (go_at_call 88; refine (sg1_any _ _).mono ?_; rintro e w' ⟨rfl, rfl⟩) | (go_at_call 89; refine (sg0_any _ _).mono ?_; rintro e w' ⟨rfl, rfl⟩)))
          all_goals clear c2 c7 c15 c16 n2 n7 n15 n16 e2 e7 e15 e16 w2 w7 w15 w16 a2 a7 a15 a16 z2 z7 z15 z16 cC cF
          all_goals go_wp2
          all_goals go_roundw
          case rel =>
            repeat apply Exists.intro
            refine And.intro ?_ rfl
            have e := WW_hi B k hk hlt
            refine ⟨k + 1, _, by omega, by omega, by go_num, (hZ.setOther _ (by simp)).drew, (hC.set k _).drew, by simp [hCs], ?_, (hbl.setCell (by simp) _).drew⟩
            have := set_step (f := fun t => .int .u32 (WW B t)) hCs (by omega) hw
            have e' : WW B k = (((sg1 (WW B (k - 2)) + WW B (k - 7)) % 4294967296 + sg0 (WW B (k - 15))) % 4294967296 + WW B (k - 16)) % 4294967296 := by rw [e]; omega
            simp only [e'] at this
            simp only [← e'] at this
            rw [← e']
            exact this
          case measure => simp [intOf]; omega
        · obtain rfl : k = 64 := by omega
          have s46 : (Try.prog.info? 98).map (·.size) = some C.size := by rw [hCs]; exact size46
          have o46 := one_ints hCs hw
          have z46 : Z.size = C.size := by rw [hZs, hCs]
          go_wp2_with (first | (refine wpList_load_row rfl 98 (.tmp 3) rfl (w.heap.size + 1) rfl 98 C (0, 0) _ hC Try.underlying98 rfl s46 ?_) | (refine wpList_store_arr rfl 98 (.tmp 2) (.tmp 72) rfl w.heap.size C rfl rfl 98 Z hZ s46 z46 o46 ?_))
          refine bodyPost_ret (v := .agg C) (results_cell_row Try.results83 _ _ w.heap.size 98 C (0, 0) _ rfl (hZ.setRow C) Try.underlying98 rfl s46) rfl ⟨C, rfl, hCs, hw, below_setRow hbl (by omega) C⟩
end Go.Proofs.Ytmljihggooaboaa
