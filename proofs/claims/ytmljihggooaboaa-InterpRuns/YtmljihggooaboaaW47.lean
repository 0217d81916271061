/- Pq, Pr. -/
import Derived.Test.YtmljihggooaboaaW46
import Derived.Test.YtmljihggooaboaaW25
import Derived.Laws.Rows
import Derived.Handy
import Derived.BigQuiet
import Derived.BigRegion
import Derived.Laws.MakeOwn
import Derived.Laws.CopyOwn
import Derived.Test.YtmljihggooaboaaW26
import Derived.Test.YtmljihggooaboaaW34
import Derived.Test.YtmljihggooaboaaW31
/- Layer interp: the document's run, or its error. -/
namespace Go.Proofs.Ytmljihggooaboaa
open Go.RowKit
set_option maxRecDepth 100000
set_option linter.unusedVariables false
set_option linter.unusedSimpArgs false

variable {N : Nat}
set_option maxHeartbeats 1000000 in
theorem drun_no {p : PgT} {cs : List Value} {sd : Option Addr} {nd cd : Nat} {kp : Option Addr} {kn kc : Nat} {fuel : Int} (w : World) (hN : N ≤ w.heap.size) (hM : PgM N w cs p) (hc : rnC p nd fuel ≠ 0) :
    Calls Try.prog 8 #[.agg cs.toArray, .slice sd nd cd, .slice kp kn kc, .int .i64 fuel] w (RnP ⟨0, 0, [], 0, rnC p nd fuel⟩ w) := by
  have hmy := fun (u : World) (hb : Below w.heap.size w u) => refMay_any p u (PgM.below (hb.mono hN) cs p hM) (by have := hb.size; omega)
  unfold BoP at hmy
  obtain ⟨sp, k, cap, rfl, -, hS⟩ := id hM
  have b0 : Below w.heap.size w ((w.alloc (.cells #[.slice sp k cap, .int .i64 p.da] 24)).alloc (.cells #[.int .u8 0, .int .u64 0, .slice none 0 0, .int .i64 0] 32)) := (ab w _).alloc (by simp) _
  have A0 := (Arr.new w 24 #[.slice sp k cap, .int .i64 p.da]).alloc (.cells #[.int .u8 0, .int .u64 0, .slice none 0 0, .int .i64 0] 32)
  have A1 := Arr.new (w.alloc (.cells #[.slice sp k cap, .int .i64 p.da] 24)) 32 #[.int .u8 0, .int .u64 0, .slice none 0 0, .int .i64 0]
  simp only [World.size_alloc] at A1
  have hmy1 := hmy _ b0
  obtain ⟨da, hda⟩ : ∃ da, p.da = da := ⟨_, rfl⟩
  rw [hda] at b0 A0 A1 hmy1 ⊢
  replace hda := Hid.mk' hda
  clear hmy hM hS
  have nd0 : (0 : Int) ≤ nd := by omega
  have hfin : ∀ (c : Int) (u : World), Below w.heap.size w u → RnP ⟨0, 0, [], 0, c⟩ w (.returned (.tuple #[.agg #[.int .u8 0, .int .u64 0, .slice none 0 0, .int .i64 0], .int .i64 c])) u := fun c u hb => ⟨none, 0, rfl, ⟨hid rfl, fun h => by omega, fun _ => rfl⟩, hb⟩
  by_cases h1 : pgN p = none
  · have hc2 : rnC p nd fuel = 2 := by unfold rnC; rw [if_pos (.inl h1)]
    rw [hc2]
    rw [h1] at hmy1
    clear h1
    replace hmy1 := Hid.mk' hmy1
    clear hc hc2
    go_enter Try.func8, Try.ntmps8
    go_wp2_with (go_at_call 13; go_must (refine hmy1.out.mono ?_; rintro e w1 ⟨rfl, hb1⟩; have A01 := A0.bl hb1; have A11 := A1.bl hb1; have k1 := A01.cell 1; have a0 := A11.cell 0; have a1 := A11.cell 1; have a2 := A11.cell 2; have a3 := A11.cell 3; have f0 := A11.frozen 0; have f1 := A11.frozen 1; have f2 := A11.frozen 2; have f3 := A11.frozen 3))
    have A4 := (((A11.set 0 (.int .u8 0)).set 1 (.int .u64 0)).set 2 (.slice none 0 0)).set 3 (.int .i64 0)
    have C1 : Ch (fun _ => False) w w1 := Ch.ob (b0.trans (hb1.mono (by simp; omega)))
    have B4 := ((((C1.st (g := w.heap.size + 1) (j := 0) (.int .u8 0) (fun h => by omega)).st (g := w.heap.size + 1) (j := 1) (.int .u64 0) (fun h => by omega)).st (g := w.heap.size + 1) (j := 2) (.slice none 0 0) (fun h => by omega)).st (g := w.heap.size + 1) (j := 3) (.int .i64 0) (fun h => by omega)).bl (N := w.heap.size) (fun i hi => ⟨hi, id⟩)
    exact bodyPost_ret (v := .tuple #[.agg #[.int .u8 0, .int .u64 0, .slice none 0 0, .int .i64 0], .int .i64 2]) (resO Try.results8 rfl rfl rfl A4) rfl (hfin _ _ B4)
  obtain ⟨q, hq⟩ : ∃ q, pgN p = some q := by cases h : pgN p with | none => exact absurd h h1 | some q => exact ⟨q, rfl⟩
  rw [hq] at hmy1
  unfold rnC at hc
  by_cases h2 : da < nd
  · have hc2 : rnC p nd fuel = 2 := by unfold rnC; rw [if_pos (.inr (.inl (by rw [hda.out]; exact h2)))]
    rw [hc2]
    clear h1 hda hq
    replace hmy1 := Hid.mk' hmy1
    clear hc hc2
    go_enter Try.func8, Try.ntmps8
    go_wp2_with (go_at_call 13; go_must (refine hmy1.out.mono ?_; rintro e w1 ⟨rfl, hb1⟩; have A01 := A0.bl hb1; have A11 := A1.bl hb1; have k1 := A01.cell 1; have a0 := A11.cell 0; have a1 := A11.cell 1; have a2 := A11.cell 2; have a3 := A11.cell 3; have f0 := A11.frozen 0; have f1 := A11.frozen 1; have f2 := A11.frozen 2; have f3 := A11.frozen 3))
    have A4 := (((A11.set 0 (.int .u8 0)).set 1 (.int .u64 0)).set 2 (.slice none 0 0)).set 3 (.int .i64 0)
    have C1 : Ch (fun _ => False) w w1 := Ch.ob (b0.trans (hb1.mono (by simp; omega)))
    have B4 := ((((C1.st (g := w.heap.size + 1) (j := 0) (.int .u8 0) (fun h => by omega)).st (g := w.heap.size + 1) (j := 1) (.int .u64 0) (fun h => by omega)).st (g := w.heap.size + 1) (j := 2) (.slice none 0 0) (fun h => by omega)).st (g := w.heap.size + 1) (j := 3) (.int .i64 0) (fun h => by omega)).bl (N := w.heap.size) (fun i hi => ⟨hi, id⟩)
    exact bodyPost_ret (v := .tuple #[.agg #[.int .u8 0, .int .u64 0, .slice none 0 0, .int .i64 0], .int .i64 2]) (resO Try.results8 rfl rfl rfl A4) rfl (hfin _ _ B4)
  by_cases h3 : fuel < 0
  · have hc2 : rnC p nd fuel = 2 := by unfold rnC; rw [if_pos (.inr (.inr h3))]
    rw [hc2]
    clear h1 hda hq
    replace hmy1 := Hid.mk' hmy1
    clear hc hc2
    go_enter Try.func8, Try.ntmps8
    go_wp2_with (go_at_call 13; go_must (refine hmy1.out.mono ?_; rintro e w1 ⟨rfl, hb1⟩; have A01 := A0.bl hb1; have A11 := A1.bl hb1; have k1 := A01.cell 1; have a0 := A11.cell 0; have a1 := A11.cell 1; have a2 := A11.cell 2; have a3 := A11.cell 3; have f0 := A11.frozen 0; have f1 := A11.frozen 1; have f2 := A11.frozen 2; have f3 := A11.frozen 3))
    have A4 := (((A11.set 0 (.int .u8 0)).set 1 (.int .u64 0)).set 2 (.slice none 0 0)).set 3 (.int .i64 0)
    have C1 : Ch (fun _ => False) w w1 := Ch.ob (b0.trans (hb1.mono (by simp; omega)))
    have B4 := ((((C1.st (g := w.heap.size + 1) (j := 0) (.int .u8 0) (fun h => by omega)).st (g := w.heap.size + 1) (j := 1) (.int .u64 0) (fun h => by omega)).st (g := w.heap.size + 1) (j := 2) (.slice none 0 0) (fun h => by omega)).st (g := w.heap.size + 1) (j := 3) (.int .i64 0) (fun h => by omega)).bl (N := w.heap.size) (fun i hi => ⟨hi, id⟩)
    exact bodyPost_ret (v := .tuple #[.agg #[.int .u8 0, .int .u64 0, .slice none 0 0, .int .i64 0], .int .i64 2]) (resO Try.results8 rfl rfl rfl A4) rfl (hfin _ _ B4)
  rw [if_neg (by rw [hda.out, hq]; simp; omega)] at hc
  by_cases h4 : 4194304 < fuel
  · have hc2 : rnC p nd fuel = 4 := by unfold rnC; rw [if_neg (by rw [hda.out, hq]; simp; omega), if_pos h4]
    rw [hc2]
    clear h1 hda hq
    replace hmy1 := Hid.mk' hmy1
    clear hc hc2
    go_enter Try.func8, Try.ntmps8
    go_wp2_with (go_at_call 13; go_must (refine hmy1.out.mono ?_; rintro e w1 ⟨rfl, hb1⟩; have A01 := A0.bl hb1; have A11 := A1.bl hb1; have k1 := A01.cell 1; have a0 := A11.cell 0; have a1 := A11.cell 1; have a2 := A11.cell 2; have a3 := A11.cell 3; have f0 := A11.frozen 0; have f1 := A11.frozen 1; have f2 := A11.frozen 2; have f3 := A11.frozen 3))
    have A4 := (((A11.set 0 (.int .u8 0)).set 1 (.int .u64 0)).set 2 (.slice none 0 0)).set 3 (.int .i64 0)
    have C1 : Ch (fun _ => False) w w1 := Ch.ob (b0.trans (hb1.mono (by simp; omega)))
    have B4 := ((((C1.st (g := w.heap.size + 1) (j := 0) (.int .u8 0) (fun h => by omega)).st (g := w.heap.size + 1) (j := 1) (.int .u64 0) (fun h => by omega)).st (g := w.heap.size + 1) (j := 2) (.slice none 0 0) (fun h => by omega)).st (g := w.heap.size + 1) (j := 3) (.int .i64 0) (fun h => by omega)).bl (N := w.heap.size) (fun i hi => ⟨hi, id⟩)
    exact bodyPost_ret (v := .tuple #[.agg #[.int .u8 0, .int .u64 0, .slice none 0 0, .int .i64 0], .int .i64 4]) (resO Try.results8 rfl rfl rfl A4) rfl (hfin _ _ B4)
  · rw [if_neg h4] at hc
    exact absurd rfl hc
theorem drun_any {p : PgT} {cs : List Value} {sd : Option Addr} {nd cd : Nat} {D : List Int} {kp : Option Addr} {kn kc : Nat} {es : List En} {fuel : Int} (w : World) (hN : N ≤ w.heap.size) (hM : PgM N w cs p) (hD : AG sd nd D w) (hDU : ∀ x ∈ D, U64 x) (hE : ES N w kp kn kc es) :
    Calls Try.prog 8 #[.agg cs.toArray, .slice sd nd cd, .slice kp kn kc, .int .i64 fuel] w (RnP (rnV p es D fuel) w) := by
  have hnd : D.length = nd := hD.1.out
  by_cases hc : rnC p D.length fuel = 0
  · have hc0 := hc
    unfold rnC at hc
    split at hc
    · cases hc
    split at hc
    · cases hc
    next h1 h2 =>
    have hmay : (pgN p).isSome = true := by
      cases h : pgN p with
      | none => exact absurd (.inl h) h1
      | some q => rfl
    obtain ⟨hb, hF0, f, hf, hv, hv2, hol⟩ := pgN_parts hmay
    have hda := of_decide_eq_true (show decide _ = true from hb)
    have hU : EnvU (EV p.fs es) := EV.u (fun e he => ⟨(hE.ok e he).body.bts, by rw [← (hE.ok e he).body.len.out]; have := (hE.ok e he).body.small; omega⟩) (fun g hg b hb => by
      obtain ⟨i, hi⟩ := List.getElem?_of_mem hg
      refine ⟨?_, _, _, (hF0 i g hi).2 b hb⟩
      obtain ⟨sp, k, cap, -, -, hS⟩ := hM
      obtain ⟨cg, sp2, k2, cap2, -, -, hS2⟩ := hS.mem hg
      obtain ⟨cb, hcb⟩ := hS2.mem hb
      exact StM.cu 8 cb b hcb)
    have e1 : rnV p es D fuel = ⟨fsB (rnR p es f D fuel.toNat), fvB (rnR p es f D fuel.toNat), (rnR p es f D fuel.toNat).s.W, fuel - (rnR p es f D fuel.toNat).s.lf, 0⟩ := by
      unfold rnV
      rw [if_pos hc0, hf]
    have hfu : ((fuel.toNat : Nat) : Int) = fuel := by omega
    have hr := drun_ok (lf := fuel.toNat) (cd := cd) w hN hM hmay hf hv hv2 (by omega) hD (by omega) hDU hE hF0 hU hol
    rw [hfu] at hr
    rw [e1]
    refine hr.mono ?_
    rintro e w' ⟨gw, he, hA, hg, hb', hWl⟩
    exact ⟨_, _, he, ⟨hid hWl, fun _ => ⟨gw, rfl, hg, hA⟩, fun h => by cases h⟩, hb'⟩
  · have e1 : rnV p es D fuel = ⟨0, 0, [], 0, rnC p D.length fuel⟩ := by unfold rnV; rw [if_neg hc]
    rw [e1]
    rw [hnd] at hc ⊢
    exact drun_no w hN hM hc
end Go.Proofs.Ytmljihggooaboaa
/- Layer interp: InterpRuns. -/
namespace Go.Proofs.Ytmljihggooaboaa
open Go.RowKit
set_option maxRecDepth 100000
set_option linter.unusedVariables false
set_option linter.unusedSimpArgs false

variable {N : Nat} {p : PgT} {fp : Option Addr} {fm fc : Nat} {sd : Option Addr} {nd cd : Nat} {D : List Int} {kp : Option Addr} {kn kc : Nat} {es : List En}
set_option maxHeartbeats 2000000 in
theorem runs_walk {fuel0 : Int} (w : World) (hN : N ≤ w.heap.size) (hM : PgM N w [.slice fp fm fc, .int .i64 p.da] p) (hD : AG sd nd D w) (hDU : ∀ x ∈ D, U64 x) (hE : ES N w kp kn kc es) :
    Calls Try.prog 3 #[.agg #[.slice fp fm fc, .int .i64 p.da], .agg #[.slice sd nd cd, .int .i64 fuel0], .slice kp kn kc] w (BoP true w) := by
  have hnd : nd = D.length := hD.1.out.symm
  subst hnd
  have b0 : Below w.heap.size w ((w.alloc (.cells #[.slice fp fm fc, .int .i64 p.da] 24)).alloc (.cells #[.slice sd D.length cd, .int .i64 fuel0] 27)) := (ab w _).alloc (by simp) _
  have hr : Hid (∀ (fuel : Int) (u : World), Below w.heap.size w u → Calls Try.prog 7 #[.agg #[.slice fp fm fc, .int .i64 p.da], .slice sd D.length cd, .slice kp kn kc, .int .i64 fuel] u (RnP (rnV p es D fuel) u)) := hid fun fuel u hb => run_any (N := N) u (by have := hb.size; omega) (PgM.below (hb.mono hN) _ p hM) (hD.bl hb) hDU (hE.below (hb.mono hN))
  have hd : Hid (∀ (fuel : Int) (u : World), Below w.heap.size w u → Calls Try.prog 8 #[.agg #[.slice fp fm fc, .int .i64 p.da], .slice sd D.length cd, .slice kp kn kc, .int .i64 fuel] u (RnP (rnV p es D fuel) u)) := hid fun fuel u hb => drun_any (N := N) u (by have := hb.size; omega) (PgM.below (hb.mono hN) _ p hM) (hD.bl hb) hDU (hE.below (hb.mono hN))
  have han := hid fun (u : World) => anchored_any u
  have A0 := (Arr.new w 24 #[.slice fp fm fc, .int .i64 p.da]).alloc (.cells #[.slice sd D.length cd, .int .i64 fuel0] 27)
  have A1 := Arr.new (w.alloc (.cells #[.slice fp fm fc, .int .i64 p.da] 24)) 27 #[.slice sd D.length cd, .int .i64 fuel0]
  simp only [World.size_alloc] at A1
  clear hM hD hDU hE
  by_cases h1 : (4000 : Int) < fuel0
  · by_cases h2 : fuel0 ≤ 4194304
    · go_enter Try.func3, Try.ntmps3
      go_upto_region 4 with fail
      have hr1 := hr.out 4000 _ b0
      have hfew := hid (rnV_few p es D 4000)
      have hd1 := hid fun u hb => hd.out 4000 u hb
      obtain ⟨x, hx⟩ : ∃ x, rnV p es D 4000 = x := ⟨_, rfl⟩
      rw [hx] at hr1 hd1 hfew
      replace hr1 := hid hr1
      clear hx hr hd
      go_upto_region 5 with (go_at_call 7; go_must (refine hr1.out.mono ?_; rintro e w1 ⟨sx, nx, rfl, hox, hb1⟩))
      have hs1 : w.heap.size + 2 ≤ w1.heap.size := by have := hb1.size; simpa using this
      have AX := Arr.new w1 32 #[.int .u8 x.st, .int .u64 x.va, .slice sx nx nx, .int .i64 x.sp]
      have A0V := (A0.bl hb1).alloc (.cells #[.int .u8 x.st, .int .u64 x.va, .slice sx nx nx, .int .i64 x.sp] 32)
      have A1V := (A1.bl hb1).alloc (.cells #[.int .u8 x.st, .int .u64 x.va, .slice sx nx nx, .int .i64 x.sp] 32)
      have BV : Below w.heap.size w (w1.alloc (.cells #[.int .u8 x.st, .int .u64 x.va, .slice sx nx nx, .int .i64 x.sp] 32)) := (b0.trans (hb1.mono (by simp; omega))).alloc (by omega) _
      have hox1 : OD w.heap.size (w1.alloc (.cells #[.int .u8 x.st, .int .u64 x.va, .slice sx nx nx, .int .i64 x.sp] 32)) sx nx x.W := ⟨hox.len, fun h => let ⟨g, e, hg, hA⟩ := hox.at0 h; ⟨g, e, by simp at hg; omega, hA.alloc _⟩, hox.nil⟩
      have hnx : nx ≤ 1024 := by rw [← hox.len.out]; exact hfew.out
      clear hr1 A0 A1 hox hb1 b0
      generalize hVV : w1.alloc (.cells #[.int .u8 x.st, .int .u64 x.va, .slice sx nx nx, .int .i64 x.sp] 32) = V at *
      generalize hgx : w1.heap.size = gx at *
      clear hVV hgx
      have v00 := A0V.cell 0
      have v01 := A0V.cell 1
      have v10 := A1V.cell 0
      have v11 := A1V.cell 1
      have hd2 := hid (hd1.out _ BV)
      clear hd1
      go_upto_region 6 with (go_at_call 8; go_must (refine hd2.out.mono ?_; rintro e w3 ⟨sy, ny, rfl, hoy, hb3⟩))
      have hs3 : w.heap.size + 2 ≤ w3.heap.size := by have := hb3.size; have := AX.lt; have := BV.size; omega
      have AY := Arr.new w3 32 #[.int .u8 x.st, .int .u64 x.va, .slice sy ny ny, .int .i64 x.sp]
      have AXW := (AX.bl hb3).alloc (.cells #[.int .u8 x.st, .int .u64 x.va, .slice sy ny ny, .int .i64 x.sp] 32)
      have hbW : Below V.heap.size V (w3.alloc (.cells #[.int .u8 x.st, .int .u64 x.va, .slice sy ny ny, .int .i64 x.sp] 32)) := hb3.alloc (by have := hb3.size; omega) _
      have BW : Below w.heap.size w (w3.alloc (.cells #[.int .u8 x.st, .int .u64 x.va, .slice sy ny ny, .int .i64 x.sp] 32)) := BV.trans (hbW.mono BV.size)
      have hoyW : OD w.heap.size (w3.alloc (.cells #[.int .u8 x.st, .int .u64 x.va, .slice sy ny ny, .int .i64 x.sp] 32)) sy ny x.W := ⟨hoy.len, fun h => let ⟨g, e, hg, hA⟩ := hoy.at0 h; ⟨g, e, by have := BV.size; omega, hA.alloc _⟩, hoy.nil⟩
      have hoxW : OD w.heap.size (w3.alloc (.cells #[.int .u8 x.st, .int .u64 x.va, .slice sy ny ny, .int .i64 x.sp] 32)) sx nx x.W := ⟨hox1.len, fun h => let ⟨g, e, hg, hA⟩ := hox1.at0 h; ⟨g, e, hg, hA.bl hbW⟩, hox1.nil⟩
      have hny : ny ≤ 1024 := by rw [← hoy.len.out]; exact hfew.out
      clear hoy hb3 hd2 hox1 hbW v00 v01 v10 v11 A0V A1V AX BV hs1 hs3 hfew
      generalize hVV : w3.alloc (.cells #[.int .u8 x.st, .int .u64 x.va, .slice sy ny ny, .int .i64 x.sp] 32) = T at *
      generalize hgy : w3.heap.size = gy at *
      clear hVV hgy
      have hsm : Hid (∀ u, Below T.heap.size T u → Calls Try.prog 9 #[.agg #[.int .u8 x.st, .int .u64 x.va, .slice sx nx nx, .int .i64 x.sp], .agg #[.int .u8 x.st, .int .u64 x.va, .slice sy ny ny, .int .i64 x.sp]] u (BoP true u)) := hid fun u hb => by
        have := same_any (s1 := x.st) (v1 := x.va) (k1 := x.sp) (s2 := x.st) (v2 := x.va) (k2 := x.sp) (c1 := nx) (c2 := ny) u ((hoxW.ds hnx).bl hb) ((hoyW.ds hny).bl hb)
        simpa [ouA] using this
      have c0 := AXW.cell 0
      have c1 := AXW.cell 1
      have c2 := AXW.cell 2
      have c3 := AXW.cell 3
      have d0 := AY.cell 0
      have d1 := AY.cell 1
      have d2 := AY.cell 2
      have d3 := AY.cell 3
      clear hoxW hoyW hnx hny
      unfold BoP at hsm han
      go_wp2_with (first
        | (go_at_call 9; go_must (refine (hsm.out _ (Below.refl _ _)).mono ?_; rintro e w5 ⟨rfl, hb5⟩))
        | (go_at_call 10; go_must (refine (han.out _).mono ?_; rintro e w6 ⟨rfl, hb6⟩)))
      go_ret
      exact ⟨rfl, BW.trans ((hb5.trans (hb6.mono hb5.size)).mono BW.size)⟩
    · go_enter Try.func3, Try.ntmps3
      go_upto_region 4 with fail
      have hr1 := hr.out fuel0 _ b0
      have hfew := hid (rnV_few p es D fuel0)
      have hd1 := hid fun u hb => hd.out fuel0 u hb
      obtain ⟨x, hx⟩ : ∃ x, rnV p es D fuel0 = x := ⟨_, rfl⟩
      rw [hx] at hr1 hd1 hfew
      replace hr1 := hid hr1
      clear hx hr hd
      go_upto_region 5 with (go_at_call 7; go_must (refine hr1.out.mono ?_; rintro e w1 ⟨sx, nx, rfl, hox, hb1⟩))
      have hs1 : w.heap.size + 2 ≤ w1.heap.size := by have := hb1.size; simpa using this
      have AX := Arr.new w1 32 #[.int .u8 x.st, .int .u64 x.va, .slice sx nx nx, .int .i64 x.sp]
      have A0V := (A0.bl hb1).alloc (.cells #[.int .u8 x.st, .int .u64 x.va, .slice sx nx nx, .int .i64 x.sp] 32)
      have A1V := (A1.bl hb1).alloc (.cells #[.int .u8 x.st, .int .u64 x.va, .slice sx nx nx, .int .i64 x.sp] 32)
      have BV : Below w.heap.size w (w1.alloc (.cells #[.int .u8 x.st, .int .u64 x.va, .slice sx nx nx, .int .i64 x.sp] 32)) := (b0.trans (hb1.mono (by simp; omega))).alloc (by omega) _
      have hox1 : OD w.heap.size (w1.alloc (.cells #[.int .u8 x.st, .int .u64 x.va, .slice sx nx nx, .int .i64 x.sp] 32)) sx nx x.W := ⟨hox.len, fun h => let ⟨g, e, hg, hA⟩ := hox.at0 h; ⟨g, e, by simp at hg; omega, hA.alloc _⟩, hox.nil⟩
      have hnx : nx ≤ 1024 := by rw [← hox.len.out]; exact hfew.out
      clear hr1 A0 A1 hox hb1 b0
      generalize hVV : w1.alloc (.cells #[.int .u8 x.st, .int .u64 x.va, .slice sx nx nx, .int .i64 x.sp] 32) = V at *
      generalize hgx : w1.heap.size = gx at *
      clear hVV hgx
      have v00 := A0V.cell 0
      have v01 := A0V.cell 1
      have v10 := A1V.cell 0
      have v11 := A1V.cell 1
      have hd2 := hid (hd1.out _ BV)
      clear hd1
      go_upto_region 6 with (go_at_call 8; go_must (refine hd2.out.mono ?_; rintro e w3 ⟨sy, ny, rfl, hoy, hb3⟩))
      have hs3 : w.heap.size + 2 ≤ w3.heap.size := by have := hb3.size; have := AX.lt; have := BV.size; omega
      have AY := Arr.new w3 32 #[.int .u8 x.st, .int .u64 x.va, .slice sy ny ny, .int .i64 x.sp]
      have AXW := (AX.bl hb3).alloc (.cells #[.int .u8 x.st, .int .u64 x.va, .slice sy ny ny, .int .i64 x.sp] 32)
      have hbW : Below V.heap.size V (w3.alloc (.cells #[.int .u8 x.st, .int .u64 x.va, .slice sy ny ny, .int .i64 x.sp] 32)) := hb3.alloc (by have := hb3.size; omega) _
      have BW : Below w.heap.size w (w3.alloc (.cells #[.int .u8 x.st, .int .u64 x.va, .slice sy ny ny, .int .i64 x.sp] 32)) := BV.trans (hbW.mono BV.size)
      have hoyW : OD w.heap.size (w3.alloc (.cells #[.int .u8 x.st, .int .u64 x.va, .slice sy ny ny, .int .i64 x.sp] 32)) sy ny x.W := ⟨hoy.len, fun h => let ⟨g, e, hg, hA⟩ := hoy.at0 h; ⟨g, e, by have := BV.size; omega, hA.alloc _⟩, hoy.nil⟩
      have hoxW : OD w.heap.size (w3.alloc (.cells #[.int .u8 x.st, .int .u64 x.va, .slice sy ny ny, .int .i64 x.sp] 32)) sx nx x.W := ⟨hox1.len, fun h => let ⟨g, e, hg, hA⟩ := hox1.at0 h; ⟨g, e, hg, hA.bl hbW⟩, hox1.nil⟩
      have hny : ny ≤ 1024 := by rw [← hoy.len.out]; exact hfew.out
      clear hoy hb3 hd2 hox1 hbW v00 v01 v10 v11 A0V A1V AX BV hs1 hs3 hfew
      generalize hVV : w3.alloc (.cells #[.int .u8 x.st, .int .u64 x.va, .slice sy ny ny, .int .i64 x.sp] 32) = T at *
      generalize hgy : w3.heap.size = gy at *
      clear hVV hgy
      have hsm : Hid (∀ u, Below T.heap.size T u → Calls Try.prog 9 #[.agg #[.int .u8 x.st, .int .u64 x.va, .slice sx nx nx, .int .i64 x.sp], .agg #[.int .u8 x.st, .int .u64 x.va, .slice sy ny ny, .int .i64 x.sp]] u (BoP true u)) := hid fun u hb => by
        have := same_any (s1 := x.st) (v1 := x.va) (k1 := x.sp) (s2 := x.st) (v2 := x.va) (k2 := x.sp) (c1 := nx) (c2 := ny) u ((hoxW.ds hnx).bl hb) ((hoyW.ds hny).bl hb)
        simpa [ouA] using this
      have c0 := AXW.cell 0
      have c1 := AXW.cell 1
      have c2 := AXW.cell 2
      have c3 := AXW.cell 3
      have d0 := AY.cell 0
      have d1 := AY.cell 1
      have d2 := AY.cell 2
      have d3 := AY.cell 3
      clear hoxW hoyW hnx hny
      unfold BoP at hsm han
      go_wp2_with (first
        | (go_at_call 9; go_must (refine (hsm.out _ (Below.refl _ _)).mono ?_; rintro e w5 ⟨rfl, hb5⟩))
        | (go_at_call 10; go_must (refine (han.out _).mono ?_; rintro e w6 ⟨rfl, hb6⟩)))
      go_ret
      exact ⟨rfl, BW.trans ((hb5.trans (hb6.mono hb5.size)).mono BW.size)⟩
  · go_enter Try.func3, Try.ntmps3
    go_upto_region 4 with fail
    have hr1 := hr.out fuel0 _ b0
    have hfew := hid (rnV_few p es D fuel0)
    have hd1 := hid fun u hb => hd.out fuel0 u hb
    obtain ⟨x, hx⟩ : ∃ x, rnV p es D fuel0 = x := ⟨_, rfl⟩
    rw [hx] at hr1 hd1 hfew
    replace hr1 := hid hr1
    clear hx hr hd
    go_upto_region 5 with (go_at_call 7; go_must (refine hr1.out.mono ?_; rintro e w1 ⟨sx, nx, rfl, hox, hb1⟩))
    have hs1 : w.heap.size + 2 ≤ w1.heap.size := by have := hb1.size; simpa using this
    have AX := Arr.new w1 32 #[.int .u8 x.st, .int .u64 x.va, .slice sx nx nx, .int .i64 x.sp]
    have A0V := (A0.bl hb1).alloc (.cells #[.int .u8 x.st, .int .u64 x.va, .slice sx nx nx, .int .i64 x.sp] 32)
    have A1V := (A1.bl hb1).alloc (.cells #[.int .u8 x.st, .int .u64 x.va, .slice sx nx nx, .int .i64 x.sp] 32)
    have BV : Below w.heap.size w (w1.alloc (.cells #[.int .u8 x.st, .int .u64 x.va, .slice sx nx nx, .int .i64 x.sp] 32)) := (b0.trans (hb1.mono (by simp; omega))).alloc (by omega) _
    have hox1 : OD w.heap.size (w1.alloc (.cells #[.int .u8 x.st, .int .u64 x.va, .slice sx nx nx, .int .i64 x.sp] 32)) sx nx x.W := ⟨hox.len, fun h => let ⟨g, e, hg, hA⟩ := hox.at0 h; ⟨g, e, by simp at hg; omega, hA.alloc _⟩, hox.nil⟩
    have hnx : nx ≤ 1024 := by rw [← hox.len.out]; exact hfew.out
    clear hr1 A0 A1 hox hb1 b0
    generalize hVV : w1.alloc (.cells #[.int .u8 x.st, .int .u64 x.va, .slice sx nx nx, .int .i64 x.sp] 32) = V at *
    generalize hgx : w1.heap.size = gx at *
    clear hVV hgx
    have v00 := A0V.cell 0
    have v01 := A0V.cell 1
    have v10 := A1V.cell 0
    have v11 := A1V.cell 1
    have hd2 := hid (hd1.out _ BV)
    clear hd1
    go_upto_region 6 with (go_at_call 8; go_must (refine hd2.out.mono ?_; rintro e w3 ⟨sy, ny, rfl, hoy, hb3⟩))
    have hs3 : w.heap.size + 2 ≤ w3.heap.size := by have := hb3.size; have := AX.lt; have := BV.size; omega
    have AY := Arr.new w3 32 #[.int .u8 x.st, .int .u64 x.va, .slice sy ny ny, .int .i64 x.sp]
    have AXW := (AX.bl hb3).alloc (.cells #[.int .u8 x.st, .int .u64 x.va, .slice sy ny ny, .int .i64 x.sp] 32)
    have hbW : Below V.heap.size V (w3.alloc (.cells #[.int .u8 x.st, .int .u64 x.va, .slice sy ny ny, .int .i64 x.sp] 32)) := hb3.alloc (by have := hb3.size; omega) _
    have BW : Below w.heap.size w (w3.alloc (.cells #[.int .u8 x.st, .int .u64 x.va, .slice sy ny ny, .int .i64 x.sp] 32)) := BV.trans (hbW.mono BV.size)
    have hoyW : OD w.heap.size (w3.alloc (.cells #[.int .u8 x.st, .int .u64 x.va, .slice sy ny ny, .int .i64 x.sp] 32)) sy ny x.W := ⟨hoy.len, fun h => let ⟨g, e, hg, hA⟩ := hoy.at0 h; ⟨g, e, by have := BV.size; omega, hA.alloc _⟩, hoy.nil⟩
    have hoxW : OD w.heap.size (w3.alloc (.cells #[.int .u8 x.st, .int .u64 x.va, .slice sy ny ny, .int .i64 x.sp] 32)) sx nx x.W := ⟨hox1.len, fun h => let ⟨g, e, hg, hA⟩ := hox1.at0 h; ⟨g, e, hg, hA.bl hbW⟩, hox1.nil⟩
    have hny : ny ≤ 1024 := by rw [← hoy.len.out]; exact hfew.out
    clear hoy hb3 hd2 hox1 hbW v00 v01 v10 v11 A0V A1V AX BV hs1 hs3 hfew
    generalize hVV : w3.alloc (.cells #[.int .u8 x.st, .int .u64 x.va, .slice sy ny ny, .int .i64 x.sp] 32) = T at *
    generalize hgy : w3.heap.size = gy at *
    clear hVV hgy
    have hsm : Hid (∀ u, Below T.heap.size T u → Calls Try.prog 9 #[.agg #[.int .u8 x.st, .int .u64 x.va, .slice sx nx nx, .int .i64 x.sp], .agg #[.int .u8 x.st, .int .u64 x.va, .slice sy ny ny, .int .i64 x.sp]] u (BoP true u)) := hid fun u hb => by
      have := same_any (s1 := x.st) (v1 := x.va) (k1 := x.sp) (s2 := x.st) (v2 := x.va) (k2 := x.sp) (c1 := nx) (c2 := ny) u ((hoxW.ds hnx).bl hb) ((hoyW.ds hny).bl hb)
      simpa [ouA] using this
    have c0 := AXW.cell 0
    have c1 := AXW.cell 1
    have c2 := AXW.cell 2
    have c3 := AXW.cell 3
    have d0 := AY.cell 0
    have d1 := AY.cell 1
    have d2 := AY.cell 2
    have d3 := AY.cell 3
    clear hoxW hoyW hnx hny
    unfold BoP at hsm han
    go_wp2_with (first
      | (go_at_call 9; go_must (refine (hsm.out _ (Below.refl _ _)).mono ?_; rintro e w5 ⟨rfl, hb5⟩))
      | (go_at_call 10; go_must (refine (han.out _).mono ?_; rintro e w6 ⟨rfl, hb6⟩)))
    go_ret
    exact ⟨rfl, BW.trans ((hb5.trans (hb6.mono hb5.size)).mono BW.size)⟩
end Go.Proofs.Ytmljihggooaboaa
