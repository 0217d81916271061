/- Layer compile: Compile, whose words are memory of their own. -/
import Derived.Test.YtimmiidkjpbffaaX34
import Derived.Test.YtimmiidkjpbffaaX18
import Derived.Test.YtimmiidkjpbffaaX06
import Derived.Handy
import Derived.BigQuiet
import Derived.BigRegion
import Derived.Great.BuildSlice
namespace Go.Proofs.Ytimmiidkjpbffaa
open Go.RowKit
set_option maxRecDepth 100000
set_option linter.unusedVariables false
set_option linter.unusedSimpArgs false

variable {N : Nat}
/-- What Compile answers for a program that may be: its words are memory of their own. -/
def CmPf (p : PgT) (w : World) (e : Ending) (w' : World) : Prop :=
  (4096 < (kSize p : Int) → CmNo 4 w e w') ∧ (¬ 4096 < (kSize p : Int) → ∃ g, e = .returned (.tuple #[.agg #[.slice (some ⟨g, 0, none⟩) (kSize p) (kSize p), .int .i64 ((kSize p : Int) - p.da), .int .i64 p.da], .int .i64 0]) ∧ w.heap.size ≤ g ∧ MW w' g (kWords p) ∧ Below w.heap.size w w')
set_option maxHeartbeats 4000000 in
theorem compile_goF {p : PgT} {sp : Option Addr} {k cap m : Nat} (w : World) (hN : N ≤ w.heap.size) (hM : PgM N w [.slice sp k cap, .int .i64 p.da] p) (hp : pgN p = some m) :
    Calls Try.prog 15 #[.agg #[.slice sp k cap, .int .i64 p.da]] w (CmPf p w) := by
  obtain ⟨hpo, hfn⟩ := pgOk_of hM hp
  obtain ⟨hc1, hc2⟩ := kProg_cost hfn hpo.n.2
  obtain ⟨ft, hlast⟩ : ∃ ft, p.fs.getLast? = some ft := by
    cases h : p.fs.getLast? with
    | none => rw [List.getLast?_eq_none_iff] at h; have := hpo.n.1; rw [h] at this; simp at this
    | some f => exact ⟨f, rfl⟩
  obtain ⟨sp', k', cap', hcs, -, hS⟩ := id hM
  cases hcs
  obtain ⟨da, hda⟩ : ∃ da, p.da = da := ⟨_, rfl⟩
  rw [hda] at hM ⊢
  have hsl := kSlots_le p.fs hpo.v
  have b0 : Below w.heap.size w ((w.alloc (.cells #[.slice sp k cap, .int .i64 da] 47)).alloc (.cells #[.slice none 0 0, .int .i64 0, .int .i64 0] 24)) := (ab w _).alloc (by simp) _
  have hmy := may_any p _ (PgM.below (b0.mono hN) _ p hM) (by have := b0.size; omega)
  rw [hp] at hmy
  unfold BoP at hmy
  have A0 := (Arr.new w 47 #[.slice sp k cap, .int .i64 da]).alloc (.cells #[.slice none 0 0, .int .i64 0, .int .i64 0] 24)
  have A1 := Arr.new (w.alloc (.cells #[.slice sp k cap, .int .i64 da] 47)) 24 #[.slice none 0 0, .int .i64 0, .int .i64 0]
  simp only [World.size_alloc] at A1
  have hnb : Hid (∀ (u : World), Below w.heap.size w u → w.heap.size + 2 ≤ u.heap.size → Calls Try.prog 28 #[.agg #[.slice sp k cap, .int .i64 da], .func (Fn.func 29) #[] #[.pointer (some ⟨u.heap.size, 0, none⟩)]] (u.alloc (.cells #[.slice none 0 0] 65)) fun e w' => ∃ g gm gf fv, e = .returned (.pointer (some ⟨g, 0, none⟩)) ∧ KK N (fun i => (i = u.heap.size ∨ (u.alloc (.cells #[.slice none 0 0] 65)).heap.size ≤ i) ∧ i ≠ gf) ⟨g, u.heap.size, gm, .slice sp k cap, kEnv p, fv, kSlots p.fs, 0, 0⟩ k0 w' ∧ Below (u.alloc (.cells #[.slice none 0 0] 65)).heap.size (u.alloc (.cells #[.slice none 0 0] 65)) w' ∧ (u.alloc (.cells #[.slice none 0 0] 65)).heap.size ≤ gf) := hid fun u hu hs => by
    have hb : Below w.heap.size w (u.alloc (.cells #[.slice none 0 0] 65)) := hu.alloc hu.size _
    exact newBuilder_any _ (by simp; omega) hda (hS.imp (hb.mono hN) (FuM.below (hb.mono hN))) hpo.v hpo.n.2 hpo.n.1 ⟨by omega, by simp⟩ (Arr.new u 65 #[.slice none 0 0])
  have hpr : Hid (∀ (P : Nat → Prop) (g gc gm : Nat) (fv : Value) (u : World), KK N P ⟨g, gc, gm, .slice sp k cap, kEnv p, fv, kSlots p.fs, 0, 0⟩ k0 u → Below w.heap.size w u → Calls Try.prog 30 #[.pointer (some ⟨g, 0, none⟩)] u (KV N P ⟨g, gc, gm, .slice sp k cap, kEnv p, fv, kSlots p.fs, 0, 0⟩ (kProg p) u)) := hid fun P g gc gm fv u hK hb => by
    have hPF : PF N ⟨g, gc, gm, .slice sp k cap, kEnv p, fv, kSlots p.fs, 0, 0⟩ u := ⟨⟨sp, k, cap, rfl, hS.imp (hb.mono hN) (FuM.below (hb.mono hN))⟩, hpo.o, hpo.fr.1, hpo.fr.2, hpo.d⟩
    have h := program_any (q := ⟨g, gc, gm, .slice sp k cap, kEnv p, fv, kSlots p.fs, 0, 0⟩) (f0 := 0) (l0 := 0) (ft := ft) u hK hPF hlast hpo.n.2 (by decide) (by show (kFns (kEnv p) p.fs 0 (kBegin (kEnv p) ((p.fs.length : Int) - 1) ft.b k0)).code.length ≤ 1000000; rw [← kProg_is hlast]; omega) (by show (kFns (kEnv p) p.fs 0 (kBegin (kEnv p) ((p.fs.length : Int) - 1) ft.b k0)).nx ≤ 1000000; rw [← kProg_is hlast]; omega)
    rw [kProg_is hlast]
    exact h
  have hd := hpo.d
  have hgood := hid (kProg_good hpo)
  rw [hda] at hd
  have hn32 := hpo.n.2
  clear hM hp hS hfn hlast hpo
  replace hmy := hid hmy
  obtain ⟨nc, hnc⟩ : ∃ n, n = (kProg p).code.length := ⟨_, rfl⟩
  obtain ⟨sl, hsl2⟩ : ∃ n, n = kSlots p.fs := ⟨_, rfl⟩
  rw [← hnc] at hc1
  rw [← hsl2] at hsl hnb hpr
  have hw1 : IntKind.i64.wrap ((nc : Int) + sl) = (nc : Int) + sl := by rw [IntKind.wrap_i64]; omega
  have hw2 : IntKind.i64.wrap ((nc : Int) + sl + da) = (nc : Int) + sl + da := by rw [IntKind.wrap_i64]; omega
  have hsz : Hid (∀ u : World, Calls Try.prog 31 #[.int .i64 ((nc : Int) + sl + da)] u fun e w' => e = .returned (.int .i64 (kSize p)) ∧ w' = u) := hid fun u => by
    have h := sizeFor_any (n := (nc : Int) + sl + da) u (by omega)
    rw [show (nc : Int) + sl + da = kTotal p by unfold kTotal; rw [hnc, hsl2, hda]] at h
    rw [show (nc : Int) + sl + da = kTotal p by unfold kTotal; rw [hnc, hsl2, hda]]
    exact h
  replace hnc := hid hnc
  replace hsl2 := hid hsl2
  replace hda := hid hda
  replace hc2 := hid hc2
  go_enter Try.func15, Try.ntmps15
  go_upto_region 4 with (go_at_call 27; go_must (refine hmy.out.mono ?_; rintro e w1 ⟨rfl, hb1⟩))
  have hs1 : w.heap.size + 2 ≤ w1.heap.size := by have := hb1.size; simpa using this
  have B1 : Below w.heap.size w w1 := b0.trans (hb1.mono (by simp; omega))
  have A01 := (A0.bl hb1).alloc (.cells #[.slice none 0 0] 65)
  have A11 := (A1.bl hb1).alloc (.cells #[.slice none 0 0] 65)
  have BV := B1.alloc B1.size (.cells #[.slice none 0 0] 65)
  have nb := hid (hnb.out w1 B1 hs1)
  have hVs : (w1.alloc (.cells #[.slice none 0 0] 65)).heap.size = w1.heap.size + 1 := by simp
  generalize hV : w1.alloc (.cells #[.slice none 0 0] 65) = V at *
  generalize hgc : w1.heap.size = gc at *
  clear hV hnb hmy b0 A0 A1 hb1 B1
  have hmf : ∀ (fn : Fn) (first cap : Array Value) (w : World), (Instr.makeFunc fn first cap).run Try.prog w = .ok (.func fn first cap) w := fun _ _ _ _ => rfl
  have a00 := A01.cell 0
  have a01 := A01.cell 1
  go_upto_region 5 with (go_at_call 28; go_must (refine nb.out.mono ?_; rintro e w2 ⟨g, gm, gf, fv, rfl, hK2, hb2, hgf⟩))
  clear nb a00 a01
  have B2 := BV.trans (hb2.mono BV.size)
  have A02 := A01.bl hb2
  have A12 := A11.bl hb2
  have pr := hid (hpr.out _ g gc gm fv w2 hK2 B2)
  have hVL := hb2.size
  generalize hPP : (fun i => (i = gc ∨ V.heap.size ≤ i) ∧ i ≠ gf) = P at *
  have hPb : ∀ i, i < w.heap.size + 2 → ¬ P i := fun i hi => by rw [← hPP]; intro e; omega
  clear hPP hpr hgf hb2 A01 A11
  go_upto_region 6 with (go_at_call 30; go_must (refine pr.out.mono ?_; rintro e w3 ⟨rfl, ⟨f3, l3, hK3⟩, hc3⟩))
  clear pr
  have A03 := hc3.arr A02 (hPb _ (by omega))
  have A13 := hc3.arr A12 (hPb _ (by omega))
  have B3 : Below w.heap.size w w3 := B2.trans (hc3.bl fun i hi => ⟨by have := B2.size; omega, hPb i (by omega)⟩)
  obtain ⟨cv, gv, hB3⟩ := hK3.b
  obtain ⟨spc, cc, spg, cg, hcv, hgv⟩ := hB3.gcs
  rw [← hnc.out] at hcv
  subst hcv hgv
  have hcd0 : w3.cell? ⟨gc, 0, none⟩ = some (.slice spc nc cc) := hB3.cd.cell 0
  have hg7 : w3.cell? ⟨g, 7, none⟩ = some (.int .i64 sl) := hB3.c7
  have hx1 : w3.cell? ⟨w.heap.size, 1, none⟩ = some (.int .i64 da) := A03.cell 1
  clear A02 A12 hK2
  replace hK3 := hid hK3
  replace hB3 := hid hB3
  refine rgn (fun u => u.cell? ⟨gc, 0, none⟩ = some (.slice spc nc cc) ∧ u.cell? ⟨g, 7, none⟩ = some (.int .i64 sl) ∧ u.cell? ⟨w.heap.size, 1, none⟩ = some (.int .i64 da)) ⟨hcd0, hg7, hx1⟩ (fun _ => ?_)
  refine tk 0 rfl ?_ (hy := by (intro u hSw; obtain ⟨s1, s2, s3⟩ := hSw; go_simp; try (with_reducible rfl)))
  refine tk 1 rfl ?_ (hy := by (intro u hSw; obtain ⟨s1, s2, s3⟩ := hSw; go_simp; try (with_reducible rfl)))
  refine tk 2 rfl ?_ (hy := by (intro u hSw; obtain ⟨s1, s2, s3⟩ := hSw; go_simp; try (with_reducible rfl)))
  refine tk 3 rfl ?_ (hy := by (intro u hSw; obtain ⟨s1, s2, s3⟩ := hSw; go_simp; try (with_reducible rfl)))
  refine tk 4 rfl ?_ (hy := by (intro u hSw; obtain ⟨s1, s2, s3⟩ := hSw; go_simp; try (with_reducible rfl)))
  refine tk 5 rfl ?_ (hy := by (intro u hSw; obtain ⟨s1, s2, s3⟩ := hSw; go_simp; try (with_reducible rfl)))
  refine tk 6 rfl ?_ (hy := by (intro u hSw; obtain ⟨s1, s2, s3⟩ := hSw; go_simp; try (with_reducible rfl)))
  refine tk 7 rfl ?_ (hy := by (intro u hSw; obtain ⟨s1, s2, s3⟩ := hSw; go_simp; try (with_reducible rfl)))
  refine tk 8 rfl ?_ (hy := by (intro u hSw; obtain ⟨s1, s2, s3⟩ := hSw; go_simp; try (with_reducible rfl)))
  refine tk 9 rfl ?_ (hy := by (intro u hSw; obtain ⟨s1, s2, s3⟩ := hSw; go_simp; try (with_reducible rfl)))
  refine rd 10 rfl (fun K hK' => ?_)
  go_simp
  refine (hsz.out _).mono ?_
  rintro e u9 ⟨rfl, hu9⟩
  subst hu9
  refine ko hK' ⟨hcd0, hg7, hx1⟩ (fun _ => ?_)
  clear hK'
  refine tk 11 rfl ?_ (hy := by (intro u hSw; obtain ⟨s1, s2, s3⟩ := hSw; go_simp; try (with_reducible rfl)))
  refine dn ?_
  clear hcd0 hg7 hx1
  by_cases hbig : 4096 < (kSize p : Int)
  · have hd4 : decide ((4096 : Int) < (kSize p : Int)) = true := by simpa using hbig
    have hno : Hid (∀ (e : Ending) (w' : World), CmNo 4 w e w' → CmPf p w e w') := hid fun e w' h => ⟨fun _ => h, fun h' => absurd hbig h'⟩
    clear hbig
    generalize hSz : (kSize p : Int) = sz at *
    have a0 := A13.cell 0
    have a1 := A13.cell 1
    have a2 := A13.cell 2
    have f0 := A13.frozen 0
    have f1 := A13.frozen 1
    have f2 := A13.frozen 2
    go_wp2_with fail
    have A4 := ((A13.drew.set 0 (.slice none 0 0)).set 1 (.int .i64 0)).set 2 (.int .i64 0)
    have C1 : Ch (fun _ => False) w w3.drew := (Ch.ob B3).dw
    have B4 := (((C1.st (g := w.heap.size + 1) (j := 0) (.slice none 0 0) (fun h => by omega)).st (g := w.heap.size + 1) (j := 1) (.int .i64 0) (fun h => by omega)).st (g := w.heap.size + 1) (j := 2) (.int .i64 0) (fun h => by omega)).bl (N := w.heap.size) (fun i hi => ⟨hi, id⟩)
    exact bodyPost_ret (v := .tuple #[.agg #[.slice none 0 0, .int .i64 0, .int .i64 0], .int .i64 4]) (resI Try.results15 rfl rfl rfl A4) rfl (hno.out _ _ ⟨rfl, B4⟩)
  · have hd4 : decide ((4096 : Int) < (kSize p : Int)) = false := by simpa using hbig
    have hyes : Hid (∀ (e : Ending) (w' : World) g, e = .returned (.tuple #[.agg #[.slice (some ⟨g, 0, none⟩) (kSize p) (kSize p), .int .i64 ((kSize p : Int) - da), .int .i64 da], .int .i64 0]) → w.heap.size ≤ g → MW w' g (kWords p) → Below w.heap.size w w' → CmPf p w e w') := hid fun e w' g he hg hm hb => ⟨fun h' => absurd h' hbig, fun _ => ⟨g, by rw [hda.out]; exact he, hg, hm, hb⟩⟩
    have hsz4 : (kSize p : Int) ≤ 4096 := by omega
    have hge : kTotal p ≤ (kSize p : Int) := szF_ge (kTotal p) 30 0 (by unfold kTotal; rw [← hnc.out, ← hsl2.out, hda.out]; show (nc : Int) + sl + da ≤ ((1073741824 : Nat) : Int); omega)
    have hge2 : (nc : Int) + sl + da ≤ (kSize p : Int) := by unfold kTotal at hge; rw [← hnc.out, ← hsl2.out, hda.out] at hge; exact hge
    have hpw : szI (kSize p : Int) = true := by
      obtain ⟨j, -, hj, he⟩ := szF_pow (kTotal p) 30 0
      have he' : kSize p = 2 ^ j := he
      rw [szI_nat, he', szB]
      refine List.any_eq_true.2 ⟨j, List.mem_range.2 ?_, by simp⟩
      by_cases hj2 : j < 13
      · exact hj2
      · have : (2 : Nat) ^ 13 ≤ 2 ^ j := Nat.pow_le_pow_right (by omega) (by omega)
        rw [← he'] at this
        omega
    have hgd := hgood
    have hw3 : IntKind.i64.wrap ((kSize p : Int) - da) = (kSize p : Int) - da := by rw [IntKind.wrap_i64]; omega
    have hcode : Hid (kCode p = mendC (kPl p) (kProg p).gaps (kProg p).code) := hid rfl
    have hkw : Hid (∀ sz, sz = (kSize p : Int) → (lO sz ((kCode p).map toCd) []) = ({ zM with me := kWords p }, 0)) := hid fun sz hs => by
      subst hs
      have hl : (kCode p).length = nc := by rw [hnc.out]; exact (mendC_ok _ _ hgd.out.2).2
      unfold lO kWords
      rw [hpw]
      simp only [Bool.true_eq_false, if_false, List.length_map, List.length_nil, hl]
      rw [if_neg (by omega)]
      rfl
    have hkpl : Hid ((fun j => if j = 33 then some ((kSize p : Int) - da) else (fun j => if j = 32 then some (nc : Int) else (kProg p).pl j) j) = kPl p) := hid (by
      funext j
      unfold kPl
      rw [hda.out, hnc.out])
    have hlw : Hid (kSize p = (kWords p).length) := hid (by
      have hl : (kCode p).length = nc := by rw [hnc.out]; exact (mendC_ok _ _ hgd.out.2).2
      unfold kWords
      exact (ldW_len (by rw [List.length_map, List.length_nil, hl]; omega)).symm)
    have hpw' := hpw
    clear hge hpw hbig
    generalize hSz : (kSize p : Int) = sz at *
    replace hSz := hid hSz
    have hK4 := (hB3.out.al (.cells #[.slice none 0 0, .int .i64 (sz - da), .int .i64 da] 24)).dw
    have A04 := (A03.alloc (.cells #[.slice none 0 0, .int .i64 (sz - da), .int .i64 da] 24)).drew
    have A14 := (A13.alloc (.cells #[.slice none 0 0, .int .i64 (sz - da), .int .i64 da] 24)).drew
    have I4 := (Arr.new w3 24 #[.slice none 0 0, .int .i64 (sz - da), .int .i64 da]).drew
    have hP4 : ∀ i, i < w.heap.size + 2 → ¬ (P i ∧ i ≠ w3.heap.size) := fun i hi e => hPb i hi e.1
    have hPi : ¬ (P w3.heap.size ∧ w3.heap.size ≠ w3.heap.size) := fun e => e.2 rfl
    have B4 : Below w.heap.size w (w3.alloc (.cells #[.slice none 0 0, .int .i64 (sz - da), .int .i64 da] 24)).drew := (B3.alloc B3.size _).drew
    have hne4 : w.heap.size + 1 ≠ w3.heap.size := by have := A13.lt; omega
    have x01 := A03.cell 1
    go_upto_region 10 with fail
    clear x01
    generalize hV4 : (w3.alloc (.cells #[.slice none 0 0, .int .i64 (sz - da), .int .i64 da] 24)).drew = V4 at *
    have hgl : w.heap.size + 1 < w3.heap.size := A13.lt
    generalize hgi : w3.heap.size = gi at *
    generalize hP4P : (fun k => P k ∧ k ≠ gi) = P4 at *
    have hP4' : ∀ i, i < w.heap.size + 2 → ¬ P4 i := fun i hi => by rw [← hP4P]; exact hP4 i hi
    have hPi' : ¬ P4 gi := by rw [← hP4P]; exact hPi
    clear hP4 hPi hV4 hP4P
    refine rgn (fun u => u.cell? ⟨gc, 0, none⟩ = some (.slice spc nc cc) ∧ u.cell? ⟨g, 3, none⟩ = some (.map (some gm))) ⟨hK4.dw.cd.cell 0, hK4.dw.c3⟩ (fun _ => ?_)
    refine tk 0 rfl ?_ (hy := by (intro u hSw; obtain ⟨s1, s2⟩ := hSw; go_simp; try (with_reducible rfl)))
    refine tk 1 rfl ?_ (hy := by (intro u hSw; obtain ⟨s1, s2⟩ := hSw; go_simp; try (with_reducible rfl)))
    refine tk 2 rfl ?_ (hy := by (intro u hSw; obtain ⟨s1, s2⟩ := hSw; go_simp; try (with_reducible rfl)))
    refine tk 3 rfl ?_ (hy := by (intro u hSw; obtain ⟨s1, s2⟩ := hSw; go_simp; try (with_reducible rfl)))
    refine tk 4 rfl ?_ (hy := by (intro u hSw; obtain ⟨s1, s2⟩ := hSw; go_simp; try (with_reducible rfl)))
    refine tk 5 rfl ?_ (hy := by (intro u hSw; obtain ⟨s1, s2⟩ := hSw; go_simp; try (with_reducible rfl)))
    refine rd 6 rfl (fun K hK' => ?_)
    obtain ⟨ob, hrun, hm⟩ := lupd hK4.dw.mp 32 nc
    have hrun' : (Instr.mapUpdate 70 (.map (some gm)) (.int .i64 32) (.int .i64 nc)).run Try.prog V4.drew = .ok () (V4.drew.putObj gm ob) := hrun
    go_simp
    obtain ⟨hK5, hc5⟩ := hK4.dw.map hm
    dsimp only [KQ.at] at hK5 hc5
    refine ko hK' ⟨hK5.cd.cell 0, hK5.c3⟩ (fun _ => ?_)
    clear hK' hrun hrun'
    refine dn ?_
    have I5 := hc5.arr I4.drew hPi'
    have i51 := I5.cell 1
    have A15 := hc5.arr A14.drew (hP4' _ (by omega))
    have hcA5 : Ch P4 V4 (V4.drew.putObj gm ob) := (Ch.refl P4 V4).dw.trans hc5
    go_upto_region 11 with fail
    clear i51
    generalize hV5 : V4.drew.putObj gm ob = V5 at *
    clear hV5 hm
    refine rgn (fun u => u.cell? ⟨g, 3, none⟩ = some (.map (some gm)) ∧ u.cell? ⟨gi, 1, none⟩ = some (.int .i64 (sz - da))) ⟨hK5.dw.c3, I5.drew.cell 1⟩ (fun _ => ?_)
    refine tk 0 rfl ?_ (hy := by (intro u hSw; obtain ⟨s1, s2⟩ := hSw; go_simp; try (with_reducible rfl)))
    refine tk 1 rfl ?_ (hy := by (intro u hSw; obtain ⟨s1, s2⟩ := hSw; go_simp; try (with_reducible rfl)))
    refine tk 2 rfl ?_ (hy := by (intro u hSw; obtain ⟨s1, s2⟩ := hSw; go_simp; try (with_reducible rfl)))
    refine tk 3 rfl ?_ (hy := by (intro u hSw; obtain ⟨s1, s2⟩ := hSw; go_simp; try (with_reducible rfl)))
    refine tk 4 rfl ?_ (hy := by (intro u hSw; obtain ⟨s1, s2⟩ := hSw; go_simp; try (with_reducible rfl)))
    refine tk 5 rfl ?_ (hy := by (intro u hSw; obtain ⟨s1, s2⟩ := hSw; go_simp; try (with_reducible rfl)))
    refine rd 6 rfl (fun K hK' => ?_)
    obtain ⟨ob2, hrun, hm⟩ := lupd hK5.dw.mp 33 (sz - da)
    have hrun' : (Instr.mapUpdate 70 (.map (some gm)) (.int .i64 33) (.int .i64 (sz - da))).run Try.prog V5.drew = .ok () (V5.drew.putObj gm ob2) := hrun
    go_simp
    obtain ⟨hK6, hc6⟩ := hK5.dw.map hm
    dsimp only [KQ.at] at hK6 hc6
    have I6 := hc6.arr I5.drew hPi'
    have A16 := hc6.arr A15.drew (hP4' _ (by omega))
    refine ko hK' ⟨hK6.c3, I6.cell 1⟩ (fun _ => ?_)
    clear hK' hrun hrun'
    refine dn ?_
    have hcA6 : Ch P4 V4 (V5.drew.putObj gm ob2) := (hcA5.trans (Ch.refl P4 V5).dw).trans hc6
    generalize hV6 : V5.drew.putObj gm ob2 = V6 at *
    clear hV6 hm
    have hK6' : KB P4 { g := g, gc := gc, gm := gm, sv := Value.slice sp k cap, E := kEnv p, fv := fv, sl := sl, f := f3, lv := l3 } ⟨(kProg p).code, (kProg p).gaps, kPl p, (kProg p).nx⟩ (Value.slice spc nc cc) (Value.slice spg (kProg p).gaps.length cg) V6 := by rw [← hkpl.out]; exact hK6
    clear hK6
    have x0 : V6.cell? ⟨gc, 0, none⟩ = some (.slice spc nc cc) := hK6'.cd.cell 0
    have md := hid (mend_any V6 hK6' hgd.out.1 (by show (kProg p).code.length ≤ 1000000; rw [← hnc.out]; omega))
    go_upto_region 13 with (go_at_call 32; go_must (refine md.out.mono ?_; rintro e w7 ⟨rfl, hK7, hc7⟩))
    clear x0 md
    have I7 := hc7.arr I6 hPi'
    have A17 := hc7.arr A16 (hP4' _ (by omega))
    have hcA7 := hcA6.trans hc7
    have x0 : w7.cell? ⟨gc, 0, none⟩ = some (.slice spc nc cc) := hK7.cd.cell 0
    obtain ⟨mo1, mo2⟩ := mendC_ok (pl := kPl p) (kProg p).gaps (kProg p).code hgd.out.2
    have hlc : (kCode p).length = nc := by rw [hnc.out]; exact mo2
    have hcs : CS w7.heap.size w7 spc nc cc ((kCode p).map toCd) := cs_of (l := kCode p) (by
      have h := hK7.oc
      rw [show (mendC (kPl p) (kProg p).gaps (kProg p).code).length = nc from hlc] at h
      exact h) hlc.symm mo1 hc1
    have ld : Hid (Calls Try.prog 33 #[.int .i64 sz, .slice spc nc cc, .slice none 0 0] w7 fun e w' => e = .returned (.tuple #[.agg #[.int .u64 0, .int .u64 0, .int .u64 0, .int .u64 0, .int .u64 0, .int .u64 0, .int .u64 0, .int .u64 0, .int .u64 0, .int .u64 0, .int .u64 0, .int .u64 0, .int .u64 0, .int .u64 0, .int .u64 0, .int .u64 0, .int .u64 0, .int .u8 0, .slice (some ⟨w7.heap.size + 1, 0, none⟩) (kSize p) (kSize p)], .int .i64 0]) ∧ MW w' (w7.heap.size + 1) (kWords p) ∧ Below w7.heap.size w7 w') := hid (load_own sz spc nc cc _ none 0 0 [] w7.heap.size w7 (by omega) hcs (MS.nil0 _ _) (fun k => by simp [U64]) hpw' (X := kSize p) hSz.out.symm (by simp [hlc]; have := hSz.out; omega))
    have B7 : Below w.heap.size w w7 := B4.trans (hcA7.bl fun i hi => ⟨by have := B4.size; omega, hP4' i (by omega)⟩)
    clear hcs mo1 mo2 hlc hK7
    generalize hMM : (#[.int .u64 0, .int .u64 0, .int .u64 0, .int .u64 0, .int .u64 0, .int .u64 0, .int .u64 0, .int .u64 0, .int .u64 0, .int .u64 0, .int .u64 0, .int .u64 0, .int .u64 0, .int .u64 0, .int .u64 0, .int .u64 0, .int .u64 0, .int .u8 0, .slice (some ⟨w7.heap.size + 1, 0, none⟩) (kSize p) (kSize p)] : Array Value) = MM at ld
    have hMs : MM.size = 19 := by rw [← hMM]; rfl
    go_upto_region 14 with (go_at_call 33; go_must (refine ld.out.mono ?_; rintro e w8 ⟨rfl, hM8, hb8⟩))
    have hM1 : MM.all (·.oneCell') = true := by rw [← hMM]; simp [Value.oneCell']
    have hst := run_storeCells_new (P := Try.prog) w8 29 #[.int .u64 0, .int .u64 0, .int .u64 0, .int .u64 0, .int .u64 0, .int .u64 0, .int .u64 0, .int .u64 0, .int .u64 0, .int .u64 0, .int .u64 0, .int .u64 0, .int .u64 0, .int .u64 0, .int .u64 0, .int .u64 0, .int .u64 0, .int .u8 0, .slice none 0 0] MM (by rw [hMs]; rfl) (by rw [hMs]; rfl) hM1
    rw [hst]
    clear hst
    have hM18 : MM[18]? = some (.slice (some ⟨w7.heap.size + 1, 0, none⟩) (kSize p) (kSize p)) := by rw [← hMM]; rfl
    have I9 := (I7.bl hb8).alloc (.cells MM 29)
    have A19 := (A17.bl hb8).alloc (.cells MM 29)
    have M9 := Arr.new w8 29 MM
    have B9 : Below w.heap.size w (w8.alloc (.cells MM 29)) := (B7.trans (hb8.mono B7.size)).alloc (B7.trans (hb8.mono B7.size)).size _
    have W9 : MW (w8.alloc (.cells MM 29)) (w7.heap.size + 1) (kWords p) := hM8.below (ab w8 _) hM8.lt
    have hgi7 := I7.lt
    have hr7 := A17.lt
    have h78 := hM8.lt
    clear hMM ld hM8 hb8 I7 A17 hM1 hMs B7 hc7
    generalize hV9 : w8.alloc (.cells MM 29) = V9 at *
    clear hV9
    generalize hb8 : w8.heap.size = b8 at *
    generalize hs7 : w7.heap.size + 1 = s7 at *
    have m18 := (M9.cell 18).trans hM18
    have i0 := I9.cell 0
    have f0 := I9.frozen 0
    go_upto_region 17 with fail
    clear i0 f0 m18
    obtain ⟨S, hS⟩ : ∃ S : Value, S = .slice (some ⟨s7, 0, none⟩) (kSize p) (kSize p) := ⟨_, rfl⟩
    rw [← hS]
    have I10 : Arr (V9.setCell ⟨gi, 0, none⟩ S) gi 24 #[S, .int .i64 (sz - da), .int .i64 da] := I9.set 0 S
    have A20 := A19.setOther (a := ⟨gi, 0, none⟩) S (by show w.heap.size + 1 ≠ gi; omega)
    have W10 := W9.setOther (a := ⟨gi, 0, none⟩) S (by show s7 ≠ gi; omega)
    have C10 : Ch (fun _ => False) w (V9.setCell ⟨gi, 0, none⟩ S) := (Ch.ob B9).st (g := gi) (j := 0) S (fun h => by omega)
    clear I9 A19 W9 M9 hM18
    generalize hV10 : V9.setCell ⟨gi, 0, none⟩ S = V10 at *
    clear hV10 B9
    subst hS
    have i0 := I10.cell 0
    have i1 := I10.cell 1
    have i2 := I10.cell 2
    have a0 := A20.cell 0
    have a1 := A20.cell 1
    have a2 := A20.cell 2
    have f0 := A20.frozen 0
    have f1 := A20.frozen 1
    have f2 := A20.frozen 2
    go_wp2_with fail
    have A4 : Arr (((V10.setCell ⟨w.heap.size + 1, 0, none⟩ (.slice (some ⟨s7, 0, none⟩) (kSize p) (kSize p))).setCell ⟨w.heap.size + 1, 1, none⟩ (.int .i64 (sz - da))).setCell ⟨w.heap.size + 1, 2, none⟩ (.int .i64 da)) (w.heap.size + 1) 24 #[.slice (some ⟨s7, 0, none⟩) (kSize p) (kSize p), .int .i64 (sz - da), .int .i64 da] := ((A20.set 0 (.slice (some ⟨s7, 0, none⟩) (kSize p) (kSize p))).set 1 (.int .i64 (sz - da))).set 2 (.int .i64 da)
    have hne : s7 ≠ w.heap.size + 1 := by omega
    have W4 := ((W10.setOther (a := ⟨w.heap.size + 1, 0, none⟩) (.slice (some ⟨s7, 0, none⟩) (kSize p) (kSize p)) hne).setOther (a := ⟨w.heap.size + 1, 1, none⟩) (.int .i64 (sz - da)) hne).setOther (a := ⟨w.heap.size + 1, 2, none⟩) (.int .i64 da) hne
    have B4 := (((C10.st (g := w.heap.size + 1) (j := 0) (.slice (some ⟨s7, 0, none⟩) (kSize p) (kSize p)) (fun h => by omega)).st (g := w.heap.size + 1) (j := 1) (.int .i64 (sz - da)) (fun h => by omega)).st (g := w.heap.size + 1) (j := 2) (.int .i64 da) (fun h => by omega)).bl (N := w.heap.size) (fun i hi => ⟨hi, id⟩)
    exact bodyPost_ret (v := .tuple #[.agg #[.slice (some ⟨s7, 0, none⟩) (kSize p) (kSize p), .int .i64 (sz - da), .int .i64 da], .int .i64 0]) (resI Try.results15 rfl rfl rfl A4) rfl (hyes.out _ _ s7 rfl (by omega) W4 B4)
end Go.Proofs.Ytimmiidkjpbffaa
