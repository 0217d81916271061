/- Layer interp: a run, or its error. -/
import Derived.Test.YtmljihggooaboaaX37
import Derived.Laws.Rows
import Derived.Handy
import Derived.BigQuiet
import Derived.BigRegion
import Derived.Laws.MakeOwn
import Derived.Laws.CopyOwn
namespace Go.Proofs.Ytmljihggooaboaa
open Go.RowKit
set_option maxRecDepth 100000
set_option linter.unusedVariables false
set_option linter.unusedSimpArgs false

variable {N : Nat}
/-- An outcome, and its code. -/
structure OV where
  st : Int
  va : Int
  W : List Int
  sp : Int
  c : Int
def rnC (p : PgT) (n : Nat) (fuel : Int) : Int := if pgN p = none ∨ p.da < n ∨ fuel < 0 then 2 else if 4194304 < fuel then 4 else 0
def rnV (p : PgT) (es : List En) (D : List Int) (fuel : Int) : OV :=
  if rnC p D.length fuel = 0 then (match p.fs.getLast? with | none => ⟨0, 0, [], 0, 0⟩ | some f => ⟨fsB (rnR p es f D fuel.toNat), fvB (rnR p es f D fuel.toNat), (rnR p es f D fuel.toNat).s.W, fuel - (rnR p es f D fuel.toNat).s.lf, 0⟩) else ⟨0, 0, [], 0, rnC p D.length fuel⟩
/-- Words in memory that was not there. -/
structure OD (base : Nat) (w : World) (sd : Option Addr) (n : Nat) (W : List Int) : Prop where
  len : Hid (W.length = n)
  at0 : 0 < n → ∃ g, sd = some ⟨g, 0, none⟩ ∧ base ≤ g ∧ Arr w g 30 (uA W)
  nil : sd = none → n = 0
def RnP (o : OV) (w : World) (e : Ending) (w' : World) : Prop := ∃ sd n, e = .returned (.tuple #[.agg #[.int .u8 o.st, .int .u64 o.va, .slice sd n n, .int .i64 o.sp], .int .i64 o.c]) ∧ OD w.heap.size w' sd n o.W ∧ Below w.heap.size w w'
theorem pgN_parts {p : PgT} (h : (pgN p).isSome = true) : begB p = true ∧ okF p.fs ∧ ∃ f, p.fs.getLast? = some f ∧ 0 ≤ f.v ∧ f.v ≤ 64 ∧ (∀ a ∈ f.b, okS ((p.fs.take (p.fs.length - 1)).map FuT.p) f.v 8 a) := by
  unfold pgN at h
  by_cases hb : begB p = true
  · rw [if_pos hb] at h
    have key : ∀ (l : List FuT) (ps : List Int) (n : Nat), (fnN l ps n).isSome = true → ∀ i f, l[i]? = some f → (0 ≤ f.v ∧ f.v ≤ 64 ∧ 0 ≤ f.p ∧ f.p ≤ f.v) ∧ ∀ b ∈ f.b, okS (ps ++ (l.take i).map FuT.p) f.v 8 b := by
      intro l
      induction l with
      | nil => intro ps n _ i f hf; simp at hf
      | cons a r ih =>
        intro ps n hs i f hf
        unfold fnN at hs
        split at hs
        · next hc =>
          cases hq : fld (stN ps a.v 8) a.b n with
          | none => rw [hq] at hs; cases hs
          | some m =>
            rw [hq] at hs
            replace hs : (fnN r (ps ++ [a.p]) m).isSome = true := hs
            cases i with
            | zero =>
              simp at hf
              subst hf
              refine ⟨hc, fun b hb => ?_⟩
              have := fld_all _ _ _ hq b hb
              rw [List.take_zero, List.map_nil, List.append_nil]
              exact this
            | succ i =>
              simp at hf
              obtain ⟨g1, g2⟩ := ih _ _ hs i f hf
              refine ⟨g1, fun b hb => ?_⟩
              have := g2 b hb
              simpa using this
        · cases hs
    have hF := key p.fs [] 4096 h
    have hl := of_decide_eq_true (show decide _ = true from hb)
    obtain ⟨f, hf⟩ : ∃ f, p.fs.getLast? = some f := by
      cases hq : p.fs.getLast? with
      | none => rw [List.getLast?_eq_none_iff] at hq; rw [hq] at hl; simp at hl
      | some f => exact ⟨f, rfl⟩
    have hOK : okF p.fs := fun i f hf => by simpa using hF i f hf
    have hfi : p.fs[p.fs.length - 1]? = some f := by rw [← List.getLast?_eq_getElem?]; exact hf
    exact ⟨hb, hOK, f, hf, (hOK _ f hfi).1.1, (hOK _ f hfi).1.2.1, (hOK _ f hfi).2⟩
  · rw [if_neg hb] at h
    cases h
set_option maxHeartbeats 1000000 in
theorem run_no {p : PgT} {cs : List Value} {sd : Option Addr} {nd cd : Nat} {kp : Option Addr} {kn kc : Nat} {fuel : Int} (w : World) (hN : N ≤ w.heap.size) (hM : PgM N w cs p) (hc : rnC p nd fuel ≠ 0) :
    Calls Try.prog 7 #[.agg cs.toArray, .slice sd nd cd, .slice kp kn kc, .int .i64 fuel] w (RnP ⟨0, 0, [], 0, rnC p nd fuel⟩ w) := by
  have hmy := fun (u : World) (hb : Below w.heap.size w u) => may_any p u (PgM.below (hb.mono hN) cs p hM) (by have := hb.size; omega)
  unfold BoP at hmy
  obtain ⟨sp, k, cap, rfl, -, hS⟩ := id hM
  have b0 : Below w.heap.size w ((w.alloc (.cells #[.slice sp k cap, .int .i64 p.da] 24)).alloc (.cells #[.int .u8 0, .int .u64 0, .slice none 0 0, .int .i64 0] 32)) := (ab w _).alloc (by simp) _
  have A0 := (Arr.new w 24 #[.slice sp k cap, .int .i64 p.da]).alloc (.cells #[.int .u8 0, .int .u64 0, .slice none 0 0, .int .i64 0] 32)
  have A1 := Arr.new (w.alloc (.cells #[.slice sp k cap, .int .i64 p.da] 24)) 32 #[.int .u8 0, .int .u64 0, .slice none 0 0, .int .i64 0]
  simp only [World.size_alloc] at A1
  have hmy1 := hmy _ b0
  obtain ⟨da, hda⟩ : ∃ da, p.da = da := ⟨_, rfl⟩
  rw [hda] at b0 A0 A1 hmy1 ⊢
  replace hda := Hid.mk' hda
  clear hmy hM hS
  have nd0 : (0 : Int) ≤ nd := by omega
  have hfin : ∀ (c : Int) (u : World), Below w.heap.size w u → RnP ⟨0, 0, [], 0, c⟩ w (.returned (.tuple #[.agg #[.int .u8 0, .int .u64 0, .slice none 0 0, .int .i64 0], .int .i64 c])) u := fun c u hb => ⟨none, 0, rfl, ⟨hid rfl, fun h => by omega, fun _ => rfl⟩, hb⟩
  by_cases h1 : pgN p = none
  · have hc2 : rnC p nd fuel = 2 := by unfold rnC; rw [if_pos (.inl h1)]
    rw [hc2]
    rw [h1] at hmy1
    clear h1
    replace hmy1 := Hid.mk' hmy1
    clear hc hc2
    go_enter Try.func7, Try.ntmps7
    go_wp2_with (go_at_call 16; go_must (refine hmy1.out.mono ?_; rintro e w1 ⟨rfl, hb1⟩; have A01 := A0.bl hb1; have A11 := A1.bl hb1; have k1 := A01.cell 1; have a0 := A11.cell 0; have a1 := A11.cell 1; have a2 := A11.cell 2; have a3 := A11.cell 3; have f0 := A11.frozen 0; have f1 := A11.frozen 1; have f2 := A11.frozen 2; have f3 := A11.frozen 3))
    have A4 := (((A11.set 0 (.int .u8 0)).set 1 (.int .u64 0)).set 2 (.slice none 0 0)).set 3 (.int .i64 0)
    have C1 : Ch (fun _ => False) w w1 := Ch.ob (b0.trans (hb1.mono (by simp; omega)))
    have B4 := ((((C1.st (g := w.heap.size + 1) (j := 0) (.int .u8 0) (fun h => by omega)).st (g := w.heap.size + 1) (j := 1) (.int .u64 0) (fun h => by omega)).st (g := w.heap.size + 1) (j := 2) (.slice none 0 0) (fun h => by omega)).st (g := w.heap.size + 1) (j := 3) (.int .i64 0) (fun h => by omega)).bl (N := w.heap.size) (fun i hi => ⟨hi, id⟩)
    exact bodyPost_ret (v := .tuple #[.agg #[.int .u8 0, .int .u64 0, .slice none 0 0, .int .i64 0], .int .i64 2]) (resO Try.results7 rfl rfl rfl A4) rfl (hfin _ _ B4)
  obtain ⟨q, hq⟩ : ∃ q, pgN p = some q := by cases h : pgN p with | none => exact absurd h h1 | some q => exact ⟨q, rfl⟩
  rw [hq] at hmy1
  unfold rnC at hc
  by_cases h2 : da < nd
  · have hc2 : rnC p nd fuel = 2 := by unfold rnC; rw [if_pos (.inr (.inl (by rw [hda.out]; exact h2)))]
    rw [hc2]
    clear h1 hda hq
    replace hmy1 := Hid.mk' hmy1
    clear hc hc2
    go_enter Try.func7, Try.ntmps7
    go_wp2_with (go_at_call 16; go_must (refine hmy1.out.mono ?_; rintro e w1 ⟨rfl, hb1⟩; have A01 := A0.bl hb1; have A11 := A1.bl hb1; have k1 := A01.cell 1; have a0 := A11.cell 0; have a1 := A11.cell 1; have a2 := A11.cell 2; have a3 := A11.cell 3; have f0 := A11.frozen 0; have f1 := A11.frozen 1; have f2 := A11.frozen 2; have f3 := A11.frozen 3))
    have A4 := (((A11.set 0 (.int .u8 0)).set 1 (.int .u64 0)).set 2 (.slice none 0 0)).set 3 (.int .i64 0)
    have C1 : Ch (fun _ => False) w w1 := Ch.ob (b0.trans (hb1.mono (by simp; omega)))
    have B4 := ((((C1.st (g := w.heap.size + 1) (j := 0) (.int .u8 0) (fun h => by omega)).st (g := w.heap.size + 1) (j := 1) (.int .u64 0) (fun h => by omega)).st (g := w.heap.size + 1) (j := 2) (.slice none 0 0) (fun h => by omega)).st (g := w.heap.size + 1) (j := 3) (.int .i64 0) (fun h => by omega)).bl (N := w.heap.size) (fun i hi => ⟨hi, id⟩)
    exact bodyPost_ret (v := .tuple #[.agg #[.int .u8 0, .int .u64 0, .slice none 0 0, .int .i64 0], .int .i64 2]) (resO Try.results7 rfl rfl rfl A4) rfl (hfin _ _ B4)
  by_cases h3 : fuel < 0
  · have hc2 : rnC p nd fuel = 2 := by unfold rnC; rw [if_pos (.inr (.inr h3))]
    rw [hc2]
    clear h1 hda hq
    replace hmy1 := Hid.mk' hmy1
    clear hc hc2
    go_enter Try.func7, Try.ntmps7
    go_wp2_with (go_at_call 16; go_must (refine hmy1.out.mono ?_; rintro e w1 ⟨rfl, hb1⟩; have A01 := A0.bl hb1; have A11 := A1.bl hb1; have k1 := A01.cell 1; have a0 := A11.cell 0; have a1 := A11.cell 1; have a2 := A11.cell 2; have a3 := A11.cell 3; have f0 := A11.frozen 0; have f1 := A11.frozen 1; have f2 := A11.frozen 2; have f3 := A11.frozen 3))
    have A4 := (((A11.set 0 (.int .u8 0)).set 1 (.int .u64 0)).set 2 (.slice none 0 0)).set 3 (.int .i64 0)
    have C1 : Ch (fun _ => False) w w1 := Ch.ob (b0.trans (hb1.mono (by simp; omega)))
    have B4 := ((((C1.st (g := w.heap.size + 1) (j := 0) (.int .u8 0) (fun h => by omega)).st (g := w.heap.size + 1) (j := 1) (.int .u64 0) (fun h => by omega)).st (g := w.heap.size + 1) (j := 2) (.slice none 0 0) (fun h => by omega)).st (g := w.heap.size + 1) (j := 3) (.int .i64 0) (fun h => by omega)).bl (N := w.heap.size) (fun i hi => ⟨hi, id⟩)
    exact bodyPost_ret (v := .tuple #[.agg #[.int .u8 0, .int .u64 0, .slice none 0 0, .int .i64 0], .int .i64 2]) (resO Try.results7 rfl rfl rfl A4) rfl (hfin _ _ B4)
  rw [if_neg (by rw [hda.out, hq]; simp; omega)] at hc
  by_cases h4 : 4194304 < fuel
  · have hc2 : rnC p nd fuel = 4 := by unfold rnC; rw [if_neg (by rw [hda.out, hq]; simp; omega), if_pos h4]
    rw [hc2]
    clear h1 hda hq
    replace hmy1 := Hid.mk' hmy1
    clear hc hc2
    go_enter Try.func7, Try.ntmps7
    go_wp2_with (go_at_call 16; go_must (refine hmy1.out.mono ?_; rintro e w1 ⟨rfl, hb1⟩; have A01 := A0.bl hb1; have A11 := A1.bl hb1; have k1 := A01.cell 1; have a0 := A11.cell 0; have a1 := A11.cell 1; have a2 := A11.cell 2; have a3 := A11.cell 3; have f0 := A11.frozen 0; have f1 := A11.frozen 1; have f2 := A11.frozen 2; have f3 := A11.frozen 3))
    have A4 := (((A11.set 0 (.int .u8 0)).set 1 (.int .u64 0)).set 2 (.slice none 0 0)).set 3 (.int .i64 0)
    have C1 : Ch (fun _ => False) w w1 := Ch.ob (b0.trans (hb1.mono (by simp; omega)))
    have B4 := ((((C1.st (g := w.heap.size + 1) (j := 0) (.int .u8 0) (fun h => by omega)).st (g := w.heap.size + 1) (j := 1) (.int .u64 0) (fun h => by omega)).st (g := w.heap.size + 1) (j := 2) (.slice none 0 0) (fun h => by omega)).st (g := w.heap.size + 1) (j := 3) (.int .i64 0) (fun h => by omega)).bl (N := w.heap.size) (fun i hi => ⟨hi, id⟩)
    exact bodyPost_ret (v := .tuple #[.agg #[.int .u8 0, .int .u64 0, .slice none 0 0, .int .i64 0], .int .i64 4]) (resO Try.results7 rfl rfl rfl A4) rfl (hfin _ _ B4)
  · rw [if_neg h4] at hc
    exact absurd rfl hc
theorem run_any {p : PgT} {cs : List Value} {sd : Option Addr} {nd cd : Nat} {D : List Int} {kp : Option Addr} {kn kc : Nat} {es : List En} {fuel : Int} (w : World) (hN : N ≤ w.heap.size) (hM : PgM N w cs p) (hD : AG sd nd D w) (hDU : ∀ x ∈ D, U64 x) (hE : ES N w kp kn kc es) :
    Calls Try.prog 7 #[.agg cs.toArray, .slice sd nd cd, .slice kp kn kc, .int .i64 fuel] w (RnP (rnV p es D fuel) w) := by
  have hnd : D.length = nd := hD.1.out
  by_cases hc : rnC p D.length fuel = 0
  · have hc0 := hc
    unfold rnC at hc
    split at hc
    · cases hc
    split at hc
    · cases hc
    next h1 h2 =>
    have hmay : (pgN p).isSome = true := by
      cases h : pgN p with
      | none => exact absurd (.inl h) h1
      | some q => rfl
    obtain ⟨hb, hF0, f, hf, hv, hv2, hol⟩ := pgN_parts hmay
    have hda := of_decide_eq_true (show decide _ = true from hb)
    have hU : EnvU (EV p.fs es) := EV.u (fun e he => ⟨(hE.ok e he).body.bts, by rw [← (hE.ok e he).body.len.out]; have := (hE.ok e he).body.small; omega⟩) (fun g hg b hb => by
      obtain ⟨i, hi⟩ := List.getElem?_of_mem hg
      refine ⟨?_, _, _, (hF0 i g hi).2 b hb⟩
      obtain ⟨sp, k, cap, -, -, hS⟩ := hM
      obtain ⟨cg, sp2, k2, cap2, -, -, hS2⟩ := hS.mem hg
      obtain ⟨cb, hcb⟩ := hS2.mem hb
      exact StM.cu 8 cb b hcb)
    have e1 : rnV p es D fuel = ⟨fsB (rnR p es f D fuel.toNat), fvB (rnR p es f D fuel.toNat), (rnR p es f D fuel.toNat).s.W, fuel - (rnR p es f D fuel.toNat).s.lf, 0⟩ := by
      unfold rnV
      rw [if_pos hc0, hf]
    have hfu : ((fuel.toNat : Nat) : Int) = fuel := by omega
    have hr := run_ok (lf := fuel.toNat) (cd := cd) w hN hM hmay hf hv hv2 (by omega) hD (by omega) hDU hE hF0 hU hol
    rw [hfu] at hr
    rw [e1]
    refine hr.mono ?_
    rintro e w' ⟨gw, he, hA, hg, hb', hWl⟩
    exact ⟨_, _, he, ⟨hid hWl, fun _ => ⟨gw, rfl, hg, hA⟩, fun h => by cases h⟩, hb'⟩
  · have e1 : rnV p es D fuel = ⟨0, 0, [], 0, rnC p D.length fuel⟩ := by unfold rnV; rw [if_neg hc]
    rw [e1]
    rw [hnd] at hc ⊢
    exact run_no w hN hM hc
end Go.Proofs.Ytmljihggooaboaa
