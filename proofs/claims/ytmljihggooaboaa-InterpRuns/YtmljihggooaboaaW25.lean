/- Jo, Jp. -/
import Derived.Test.YtmljihggooaboaaW24
import Derived.Laws.Rows
import Derived.Handy
import Derived.BigQuiet
import Derived.BigRegion
import Derived.Laws.MakeOwn
import Derived.Laws.CopyOwn
/- Layer interp: a run, or its error. -/
namespace Go.Proofs.Ytmljihggooaboaa
open Go.RowKit
set_option maxRecDepth 100000
set_option linter.unusedVariables false
set_option linter.unusedSimpArgs false

variable {N : Nat}
/-- An outcome, and its code. -/
structure OV where
  st : Int
  va : Int
  W : List Int
  sp : Int
  c : Int
def rnC (p : PgT) (n : Nat) (fuel : Int) : Int := if pgN p = none ∨ p.da < n ∨ fuel < 0 then 2 else if 4194304 < fuel then 4 else 0
def rnV (p : PgT) (es : List En) (D : List Int) (fuel : Int) : OV :=
  if rnC p D.length fuel = 0 then (match p.fs.getLast? with | none => ⟨0, 0, [], 0, 0⟩ | some f => ⟨fsB (rnR p es f D fuel.toNat), fvB (rnR p es f D fuel.toNat), (rnR p es f D fuel.toNat).s.W, fuel - (rnR p es f D fuel.toNat).s.lf, 0⟩) else ⟨0, 0, [], 0, rnC p D.length fuel⟩
/-- Words in memory that was not there. -/
structure OD (base : Nat) (w : World) (sd : Option Addr) (n : Nat) (W : List Int) : Prop where
  len : Hid (W.length = n)
  at0 : 0 < n → ∃ g, sd = some ⟨g, 0, none⟩ ∧ base ≤ g ∧ Arr w g 30 (uA W)
  nil : sd = none → n = 0
def RnP (o : OV) (w : World) (e : Ending) (w' : World) : Prop := ∃ sd n, e = .returned (.tuple #[.agg #[.int .u8 o.st, .int .u64 o.va, .slice sd n n, .int .i64 o.sp], .int .i64 o.c]) ∧ OD w.heap.size w' sd n o.W ∧ Below w.heap.size w w'
theorem pgN_parts {p : PgT} (h : (pgN p).isSome = true) : begB p = true ∧ okF p.fs ∧ ∃ f, p.fs.getLast? = some f ∧ 0 ≤ f.v ∧ f.v ≤ 64 ∧ (∀ a ∈ f.b, okS ((p.fs.take (p.fs.length - 1)).map FuT.p) f.v 8 a) := by
  unfold pgN at h
  by_cases hb : begB p = true
  · rw [if_pos hb] at h
    have key : ∀ (l : List FuT) (ps : List Int) (n : Nat), (fnN l ps n).isSome = true → ∀ i f, l[i]? = some f → (0 ≤ f.v ∧ f.v ≤ 64 ∧ 0 ≤ f.p ∧ f.p ≤ f.v) ∧ ∀ b ∈ f.b, okS (ps ++ (l.take i).map FuT.p) f.v 8 b := by
      intro l
      induction l with
      | nil => intro ps n _ i f hf; simp at hf
      | cons a r ih =>
        intro ps n hs i f hf
        unfold fnN at hs
        split at hs
        · next hc =>
          cases hq : fld (stN ps a.v 8) a.b n with
          | none => rw [hq] at hs; cases hs
          | some m =>
            rw [hq] at hs
            replace hs : (fnN r (ps ++ [a.p]) m).isSome = true := hs
            cases i with
            | zero =>
              simp at hf
              subst hf
              refine ⟨hc, fun b hb => ?_⟩
              have := fld_all _ _ _ hq b hb
              rw [List.take_zero, List.map_nil, List.append_nil]
              exact this
            | succ i =>
              simp at hf
              obtain ⟨g1, g2⟩ := ih _ _ hs i f hf
              refine ⟨g1, fun b hb => ?_⟩
              have := g2 b hb
              simpa using this
        · cases hs
    have hF := key p.fs [] 4096 h
    have hl := of_decide_eq_true (show decide _ = true from hb)
    obtain ⟨f, hf⟩ : ∃ f, p.fs.getLast? = some f := by
      cases hq : p.fs.getLast? with
      | none => rw [List.getLast?_eq_none_iff] at hq; rw [hq] at hl; simp at hl
      | some f => exact ⟨f, rfl⟩
    have hOK : okF p.fs := fun i f hf => by simpa using hF i f hf
    have hfi : p.fs[p.fs.length - 1]? = some f := by rw [← List.getLast?_eq_getElem?]; exact hf
    exact ⟨hb, hOK, f, hf, (hOK _ f hfi).1.1, (hOK _ f hfi).1.2.1, (hOK _ f hfi).2⟩
  · rw [if_neg hb] at h
    cases h
set_option maxHeartbeats 1000000 in
theorem run_no {p : PgT} {cs : List Value} {sd : Option Addr} {nd cd : Nat} {kp : Option Addr} {kn kc : Nat} {fuel : Int} (w : World) (hN : N ≤ w.heap.size) (hM : PgM N w cs p) (hc : rnC p nd fuel ≠ 0) :
    Calls Try.prog 7 #[.agg cs.toArray, .slice sd nd cd, .slice kp kn kc, .int .i64 fuel] w (RnP ⟨0, 0, [], 0, rnC p nd fuel⟩ w) := by
  have hmy := fun (u : World) (hb : Below w.heap.size w u) => may_any p u (PgM.below (hb.mono hN) cs p hM) (by have := hb.size; omega)
  unfold BoP at hmy
  obtain ⟨sp, k, cap, rfl, -, hS⟩ := id hM
  have b0 : Below w.heap.size w ((w.alloc (.cells #[.slice sp k cap, .int .i64 p.da] 24)).alloc (.cells #[.int .u8 0, .int .u64 0, .slice none 0 0, .int .i64 0] 32)) := (ab w _).alloc (by simp) _
  have A0 := (Arr.new w 24 #[.slice sp k cap, .int .i64 p.da]).alloc (.cells #[.int .u8 0, .int .u64 0, .slice none 0 0, .int .i64 0] 32)
  have A1 := Arr.new (w.alloc (.cells #[.slice sp k cap, .int .i64 p.da] 24)) 32 #[.int .u8 0, .int .u64 0, .slice none 0 0, .int .i64 0]
  simp only [World.size_alloc] at A1
  have hmy1 := hmy _ b0
  obtain ⟨da, hda⟩ : ∃ da, p.da = da := ⟨_, rfl⟩
  rw [hda] at b0 A0 A1 hmy1 ⊢
  replace hda := Hid.mk' hda
  clear hmy hM hS
  have nd0 : (0 : Int) ≤ nd := by omega
  have hfin : ∀ (c : Int) (u : World), Below w.heap.size w u → RnP ⟨0, 0, [], 0, c⟩ w (.returned (.tuple #[.agg #[.int .u8 0, .int .u64 0, .slice none 0 0, .int .i64 0], .int .i64 c])) u := fun c u hb => ⟨none, 0, rfl, ⟨hid rfl, fun h => by omega, fun _ => rfl⟩, hb⟩
  by_cases h1 : pgN p = none
  · have hc2 : rnC p nd fuel = 2 := by unfold rnC; rw [if_pos (.inl h1)]
    rw [hc2]
    rw [h1] at hmy1
    clear h1
    replace hmy1 := Hid.mk' hmy1
    clear hc hc2
    go_enter Try.func7, Try.ntmps7
    go_wp2_with (go_at_call 16; go_must (refine hmy1.out.mono ?_; rintro e w1 ⟨rfl, hb1⟩; have A01 := A0.bl hb1; have A11 := A1.bl hb1; have k1 := A01.cell 1; have a0 := A11.cell 0; have a1 := A11.cell 1; have a2 := A11.cell 2; have a3 := A11.cell 3; have f0 := A11.frozen 0; have f1 := A11.frozen 1; have f2 := A11.frozen 2; have f3 := A11.frozen 3))
    have A4 := (((A11.set 0 (.int .u8 0)).set 1 (.int .u64 0)).set 2 (.slice none 0 0)).set 3 (.int .i64 0)
    have C1 : Ch (fun _ => False) w w1 := Ch.ob (b0.trans (hb1.mono (by simp; omega)))
    have B4 := ((((C1.st (g := w.heap.size + 1) (j := 0) (.int .u8 0) (fun h => by omega)).st (g := w.heap.size + 1) (j := 1) (.int .u64 0) (fun h => by omega)).st (g := w.heap.size + 1) (j := 2) (.slice none 0 0) (fun h => by omega)).st (g := w.heap.size + 1) (j := 3) (.int .i64 0) (fun h => by omega)).bl (N := w.heap.size) (fun i hi => ⟨hi, id⟩)
    exact bodyPost_ret (v := .tuple #[.agg #[.int .u8 0, .int .u64 0, .slice none 0 0, .int .i64 0], .int .i64 2]) (resO Try.results7 rfl rfl rfl A4) rfl (hfin _ _ B4)
  obtain ⟨q, hq⟩ : ∃ q, pgN p = some q := by cases h : pgN p with | none => exact absurd h h1 | some q => exact ⟨q, rfl⟩
  rw [hq] at hmy1
  unfold rnC at hc
  by_cases h2 : da < nd
  · have hc2 : rnC p nd fuel = 2 := by unfold rnC; rw [if_pos (.inr (.inl (by rw [hda.out]; exact h2)))]
    rw [hc2]
    clear h1 hda hq
    replace hmy1 := Hid.mk' hmy1
    clear hc hc2
    go_enter Try.func7, Try.ntmps7
    go_wp2_with (go_at_call 16; go_must (refine hmy1.out.mono ?_; rintro e w1 ⟨rfl, hb1⟩; have A01 := A0.bl hb1; have A11 := A1.bl hb1; have k1 := A01.cell 1; have a0 := A11.cell 0; have a1 := A11.cell 1; have a2 := A11.cell 2; have a3 := A11.cell 3; have f0 := A11.frozen 0; have f1 := A11.frozen 1; have f2 := A11.frozen 2; have f3 := A11.frozen 3))
    have A4 := (((A11.set 0 (.int .u8 0)).set 1 (.int .u64 0)).set 2 (.slice none 0 0)).set 3 (.int .i64 0)
    have C1 : Ch (fun _ => False) w w1 := Ch.ob (b0.trans (hb1.mono (by simp; omega)))
    have B4 := ((((C1.st (g := w.heap.size + 1) (j := 0) (.int .u8 0) (fun h => by omega)).st (g := w.heap.size + 1) (j := 1) (.int .u64 0) (fun h => by omega)).st (g := w.heap.size + 1) (j := 2) (.slice none 0 0) (fun h => by omega)).st (g := w.heap.size + 1) (j := 3) (.int .i64 0) (fun h => by omega)).bl (N := w.heap.size) (fun i hi => ⟨hi, id⟩)
    exact bodyPost_ret (v := .tuple #[.agg #[.int .u8 0, .int .u64 0, .slice none 0 0, .int .i64 0], .int .i64 2]) (resO Try.results7 rfl rfl rfl A4) rfl (hfin _ _ B4)
  by_cases h3 : fuel < 0
  · have hc2 : rnC p nd fuel = 2 := by unfold rnC; rw [if_pos (.inr (.inr h3))]
    rw [hc2]
    clear h1 hda hq
    replace hmy1 := Hid.mk' hmy1
    clear hc hc2
    go_enter Try.func7, Try.ntmps7
    go_wp2_with (go_at_call 16; go_must (refine hmy1.out.mono ?_; rintro e w1 ⟨rfl, hb1⟩; have A01 := A0.bl hb1; have A11 := A1.bl hb1; have k1 := A01.cell 1; have a0 := A11.cell 0; have a1 := A11.cell 1; have a2 := A11.cell 2; have a3 := A11.cell 3; have f0 := A11.frozen 0; have f1 := A11.frozen 1; have f2 := A11.frozen 2; have f3 := A11.frozen 3))
    have A4 := (((A11.set 0 (.int .u8 0)).set 1 (.int .u64 0)).set 2 (.slice none 0 0)).set 3 (.int .i64 0)
    have C1 : Ch (fun _ => False) w w1 := Ch.ob (b0.trans (hb1.mono (by simp; omega)))
    have B4 := ((((C1.st (g := w.heap.size + 1) (j := 0) (.int .u8 0) (fun h => by omega)).st (g := w.heap.size + 1) (j := 1) (.int .u64 0) (fun h => by omega)).st (g := w.heap.size + 1) (j := 2) (.slice none 0 0) (fun h => by omega)).st (g := w.heap.size + 1) (j := 3) (.int .i64 0) (fun h => by omega)).bl (N := w.heap.size) (fun i hi => ⟨hi, id⟩)
    exact bodyPost_ret (v := .tuple #[.agg #[.int .u8 0, .int .u64 0, .slice none 0 0, .int .i64 0], .int .i64 2]) (resO Try.results7 rfl rfl rfl A4) rfl (hfin _ _ B4)
  rw [if_neg (by rw [hda.out, hq]; simp; omega)] at hc
  by_cases h4 : 4194304 < fuel
  · have hc2 : rnC p nd fuel = 4 := by unfold rnC; rw [if_neg (by rw [hda.out, hq]; simp; omega), if_pos h4]
    rw [hc2]
    clear h1 hda hq
    replace hmy1 := Hid.mk' hmy1
    clear hc hc2
    go_enter Try.func7, Try.ntmps7
    go_wp2_with (go_at_call 16; go_must (refine hmy1.out.mono ?_; rintro e w1 ⟨rfl, hb1⟩; have A01 := A0.bl hb1; have A11 := A1.bl hb1; have k1 := A01.cell 1; have a0 := A11.cell 0; have a1 := A11.cell 1; have a2 := A11.cell 2; have a3 := A11.cell 3; have f0 := A11.frozen 0; have f1 := A11.frozen 1; have f2 := A11.frozen 2; have f3 := A11.frozen 3))
    have A4 := (((A11.set 0 (.int .u8 0)).set 1 (.int .u64 0)).set 2 (.slice none 0 0)).set 3 (.int .i64 0)
    have C1 : Ch (fun _ => False) w w1 := Ch.ob (b0.trans (hb1.mono (by simp; omega)))
    have B4 := ((((C1.st (g := w.heap.size + 1) (j := 0) (.int .u8 0) (fun h => by omega)).st (g := w.heap.size + 1) (j := 1) (.int .u64 0) (fun h => by omega)).st (g := w.heap.size + 1) (j := 2) (.slice none 0 0) (fun h => by omega)).st (g := w.heap.size + 1) (j := 3) (.int .i64 0) (fun h => by omega)).bl (N := w.heap.size) (fun i hi => ⟨hi, id⟩)
    exact bodyPost_ret (v := .tuple #[.agg #[.int .u8 0, .int .u64 0, .slice none 0 0, .int .i64 0], .int .i64 4]) (resO Try.results7 rfl rfl rfl A4) rfl (hfin _ _ B4)
  · rw [if_neg h4] at hc
    exact absurd rfl hc
theorem run_any {p : PgT} {cs : List Value} {sd : Option Addr} {nd cd : Nat} {D : List Int} {kp : Option Addr} {kn kc : Nat} {es : List En} {fuel : Int} (w : World) (hN : N ≤ w.heap.size) (hM : PgM N w cs p) (hD : AG sd nd D w) (hDU : ∀ x ∈ D, U64 x) (hE : ES N w kp kn kc es) :
    Calls Try.prog 7 #[.agg cs.toArray, .slice sd nd cd, .slice kp kn kc, .int .i64 fuel] w (RnP (rnV p es D fuel) w) := by
  have hnd : D.length = nd := hD.1.out
  by_cases hc : rnC p D.length fuel = 0
  · have hc0 := hc
    unfold rnC at hc
    split at hc
    · cases hc
    split at hc
    · cases hc
    next h1 h2 =>
    have hmay : (pgN p).isSome = true := by
      cases h : pgN p with
      | none => exact absurd (.inl h) h1
      | some q => rfl
    obtain ⟨hb, hF0, f, hf, hv, hv2, hol⟩ := pgN_parts hmay
    have hda := of_decide_eq_true (show decide _ = true from hb)
    have hU : EnvU (EV p.fs es) := EV.u (fun e he => ⟨(hE.ok e he).body.bts, by rw [← (hE.ok e he).body.len.out]; have := (hE.ok e he).body.small; omega⟩) (fun g hg b hb => by
      obtain ⟨i, hi⟩ := List.getElem?_of_mem hg
      refine ⟨?_, _, _, (hF0 i g hi).2 b hb⟩
      obtain ⟨sp, k, cap, -, -, hS⟩ := hM
      obtain ⟨cg, sp2, k2, cap2, -, -, hS2⟩ := hS.mem hg
      obtain ⟨cb, hcb⟩ := hS2.mem hb
      exact StM.cu 8 cb b hcb)
    have e1 : rnV p es D fuel = ⟨fsB (rnR p es f D fuel.toNat), fvB (rnR p es f D fuel.toNat), (rnR p es f D fuel.toNat).s.W, fuel - (rnR p es f D fuel.toNat).s.lf, 0⟩ := by
      unfold rnV
      rw [if_pos hc0, hf]
    have hfu : ((fuel.toNat : Nat) : Int) = fuel := by omega
    have hr := run_ok (lf := fuel.toNat) (cd := cd) w hN hM hmay hf hv hv2 (by omega) hD (by omega) hDU hE hF0 hU hol
    rw [hfu] at hr
    rw [e1]
    refine hr.mono ?_
    rintro e w' ⟨gw, he, hA, hg, hb', hWl⟩
    exact ⟨_, _, he, ⟨hid hWl, fun _ => ⟨gw, rfl, hg, hA⟩, fun h => by cases h⟩, hb'⟩
  · have e1 : rnV p es D fuel = ⟨0, 0, [], 0, rnC p D.length fuel⟩ := by unfold rnV; rw [if_neg hc]
    rw [e1]
    rw [hnd] at hc ⊢
    exact run_no w hN hM hc
end Go.Proofs.Ytmljihggooaboaa
/- Layer interp: a run with more fuel, and with less (pure). -/
namespace Go.Proofs.Ytmljihggooaboaa
open Go.RowKit
set_option maxRecDepth 100000
set_option linter.unusedVariables false
set_option linter.unusedSimpArgs false

def SS.sh (s : SS) (c m : Nat) : SS := ⟨s.W, s.V, s.lf - c + m⟩
def RR.sh (r : RR) (c m : Nat) : RR := ⟨r.k, r.x, r.s.sh c m⟩
/-- With c less and m more fuel than k. -/
def Qr (r : RR) (k : Nat) (A : Nat → Nat → Nat → RR) : Prop :=
  (r.k ≠ 3 → ∀ c m G, c ≤ r.s.lf → k - c + m ≤ G → A c m G = r.sh c m) ∧ (r.k = 3 → r.s.lf = 0 ∧ ∀ m G, k + m ≤ G → (A 0 m G).s.lf ≤ m)
theorem Qr.of {r : RR} {k : Nat} {A : Nat → Nat → Nat → RR} (h3 : r.k ≠ 3) (h : ∀ c m G, c ≤ r.s.lf → k - c + m ≤ G → A c m G = r.sh c m) : Qr r k A := ⟨fun _ => h, fun h => absurd h h3⟩
theorem runL_sh {E : Env} {d G : Nat} : ∀ (l : List (StT d)) (s : SS), (∀ t ∈ l, ∀ s, s.lf ≤ G → Qr (stm E G d t s) s.lf (fun c m G2 => stm E G2 d t (s.sh c m))) → s.lf ≤ G → Qr (runL (stm E G d) l s) s.lf (fun c m G2 => runL (stm E G2 d) l (s.sh c m))
  | [], s, _, _ => Qr.of (by show (0 : Nat) ≠ 3; omega) (fun c m G2 _ _ => rfl)
  | t :: l, s, hF, hs => by
    have h1 := hF t (by simp) s hs
    have hl1 := stm_lf (E := E) G d t s
    by_cases hk : (stm E G d t s).k = 0
    · have e0 : runL (stm E G d) (t :: l) s = runL (stm E G d) l (stm E G d t s).s := by
        show (if _ then _ else _) = _
        rw [if_pos hk]
      have hr := runL_sh l (stm E G d t s).s (fun a ha => hF a (by simp [ha])) (by omega)
      have hl2 := runL_lf (fun t s => stm_lf (E := E) G d t s) l (stm E G d t s).s
      rw [e0]
      have st : ∀ c m G2, c ≤ (stm E G d t s).s.lf → s.lf - c + m ≤ G2 → runL (stm E G2 d) (t :: l) (s.sh c m) = runL (stm E G2 d) l ((stm E G d t s).s.sh c m) := fun c m G2 hc hg => by
        have e1 := h1.1 (by omega) c m G2 hc hg
        replace e1 : stm E G2 d t (s.sh c m) = (stm E G d t s).sh c m := e1
        show (if _ then _ else _) = _
        rw [e1, if_pos (show ((stm E G d t s).sh c m).k = 0 from hk)]
        rfl
      refine ⟨fun h3 c m G2 hc hg => ?_, fun h3 => ⟨(hr.2 h3).1, fun m G2 hg => ?_⟩⟩
      · show runL (stm E G2 d) (t :: l) (s.sh c m) = _
        rw [st c m G2 (by omega) hg]
        exact hr.1 h3 c m G2 hc (by omega)
      · show (runL (stm E G2 d) (t :: l) (s.sh 0 m)).s.lf ≤ m
        rw [st 0 m G2 (by omega) (by omega)]
        exact (hr.2 h3).2 m G2 (by omega)
    · have e0 : runL (stm E G d) (t :: l) s = stm E G d t s := by
        show (if _ then _ else _) = _
        rw [if_neg hk]
      rw [e0]
      refine ⟨fun h3 c m G2 hc hg => ?_, fun h3 => ⟨(h1.2 h3).1, fun m G2 hg => ?_⟩⟩
      · have e1 := h1.1 h3 c m G2 hc hg
        replace e1 : stm E G2 d t (s.sh c m) = (stm E G d t s).sh c m := e1
        show (if _ then _ else _) = _
        rw [e1, if_neg (show ¬ ((stm E G d t s).sh c m).k = 0 from hk)]
      · have e1 := (h1.2 h3).2 m G2 hg
        replace e1 : (stm E G2 d t (s.sh 0 m)).s.lf ≤ m := e1
        show (if _ then _ else _ : RR).s.lf ≤ m
        split
        · exact Nat.le_trans (runL_lf (fun t s => stm_lf (E := E) G2 d t s) l _) e1
        · exact e1
theorem stm_sh {E : Env} (hfs : ∀ f ∈ E.fs, ∀ b ∈ f.b, ∃ ps vs, okS ps vs 8 b) : ∀ (G d : Nat) (t : StT d) (s : SS) (ps : List Int) (vs : Int), okS ps vs d t → s.lf ≤ G → Qr (stm E G d t s) s.lf (fun c m G2 => stm E G2 d t (s.sh c m))
  | G, 0, t, s, ps, vs, hok, _ => by obtain ⟨_, _, h⟩ := hok; cases h
  | G, d + 1, t, ⟨W, V, 0⟩, ps, vs, hok, _ => by
    rw [stm_sp t _ rfl]
    exact ⟨fun h => absurd rfl h, fun _ => ⟨rfl, fun m G2 _ => Nat.le_trans (stm_lf _ _ _ _) (by simp [SS.sh])⟩⟩
  | 0, d + 1, t, ⟨W, V, k + 1⟩, ps, vs, hok, h => by simp at h
  | G + 1, d + 1, t, ⟨W, V, k + 1⟩, ps, vs, hok, hG => by
    replace hG : k + 1 ≤ G + 1 := hG
    obtain ⟨hmy, hoa, hob, hoe⟩ := okS_s hok
    have gas : ∀ (c m G2 : Nat), c ≤ k → k + 1 - c + m ≤ G2 → ∃ G3, G2 = G3 + 1 ∧ k - c + m ≤ G3 ∧ (⟨W, V, k + 1⟩ : SS).sh c m = ⟨W, V, (k - c + m) + 1⟩ := fun c m G2 hc hg => ⟨G2 - 1, by omega, by omega, by show (⟨W, V, k + 1 - c + m⟩ : SS) = _; rw [show k + 1 - c + m = k - c + m + 1 by omega]⟩
    cases hev : evs W V 8 t.nd.a with
    | none =>
      rw [stm_tr hev]
      refine Qr.of (by show (2 : Nat) ≠ 3; omega) (fun c m G2 hc hg => ?_)
      obtain ⟨G3, rfl, -, e⟩ := gas c m G2 hc hg
      show stm E (G3 + 1) (d + 1) t _ = _
      rw [e, stm_tr hev]
      rfl
    | some L =>
      rw [stm_on hev]
      have ihB : ∀ (l : List (StT d)), (∀ a ∈ l, okS ps vs d a) → ∀ s : SS, s.lf ≤ G → Qr (runL (stm E G d) l s) s.lf (fun c m G2 => runL (stm E G2 d) l (s.sh c m)) := fun l hl s hs => runL_sh l s (fun a ha s hs => stm_sh hfs G d a s ps vs (hl a ha) hs) hs
      have red : ∀ r : RR, r = one E (runL (stm E G d)) (stm E G (d + 1) t) (runL (stm E G 8)) t.nd L ⟨W, V, k⟩ → r.s.lf ≤ k → Qr r k (fun c m G3 => one E (runL (stm E G3 d)) (stm E G3 (d + 1) t) (runL (stm E G3 8)) t.nd L ⟨W, V, k - c + m⟩) → Qr r (k + 1) (fun c m G2 => stm E G2 (d + 1) t ((⟨W, V, k + 1⟩ : SS).sh c m)) := fun r _ hl h => by
        refine ⟨fun h3 c m G2 hc hg => ?_, fun h3 => ⟨(h.2 h3).1, fun m G2 hg => ?_⟩⟩
        · obtain ⟨G3, rfl, hg3, e⟩ := gas c m G2 (by omega) hg
          show stm E (G3 + 1) (d + 1) t _ = _
          rw [e, stm_on hev]
          exact h.1 h3 c m G3 hc hg3
        · obtain ⟨G3, rfl, hg3, e⟩ := gas 0 m G2 (by omega) (by omega)
          show (stm E (G3 + 1) (d + 1) t _).s.lf ≤ m
          rw [e, stm_on hev]
          exact (h.2 h3).2 m G3 (by omega)
      refine red _ rfl (one_lf (runL_lf (stm_lf G d)) (stm_lf G (d + 1) t) (runL_lf (stm_lf G 8)) _ _ _) ?_
      by_cases h3 : t.nd.k = 3
      · have e : ∀ (G : Nat) (s : SS), one E (runL (stm E G d)) (stm E G (d + 1) t) (runL (stm E G 8)) t.nd L s = runL (stm E G d) (if L.getD 0 0 = 0 then t.nd.el else t.nd.th) s := fun G s => by unfold one; rw [if_neg (by omega), if_neg (by omega), if_pos h3]
        simp only [e]
        exact ihB _ (by split; exact hoe; exact hob) ⟨W, V, k⟩ (by show k ≤ G; omega)
      by_cases h4 : t.nd.k = 4
      · have e : ∀ (G : Nat) (s : SS), one E (runL (stm E G d)) (stm E G (d + 1) t) (runL (stm E G 8)) t.nd L s = if L.getD 0 0 = 0 then ⟨0, 0, s⟩ else if (runL (stm E G d) t.nd.th s).k = 0 then stm E G (d + 1) t (runL (stm E G d) t.nd.th s).s else runL (stm E G d) t.nd.th s := fun G s => by unfold one; rw [if_neg (by omega), if_neg (by omega), if_neg (by omega), if_pos h4]
        simp only [e]
        by_cases hx : L.getD 0 0 = 0
        · simp only [if_pos hx]
          exact Qr.of (by show (0 : Nat) ≠ 3; omega) (fun c m G2 _ _ => rfl)
        · simp only [if_neg hx]
          have hb := ihB t.nd.th hob ⟨W, V, k⟩ (by show k ≤ G; omega)
          have hbl := runL_lf (fun t s => stm_lf (E := E) G d t s) t.nd.th ⟨W, V, k⟩
          replace hbl : _ ≤ k := hbl
          by_cases hk : (runL (stm E G d) t.nd.th ⟨W, V, k⟩).k = 0
          · rw [if_pos hk]
            have ha := stm_sh hfs G (d + 1) t (runL (stm E G d) t.nd.th ⟨W, V, k⟩).s ps vs hok (by omega)
            have hal := stm_lf (E := E) G (d + 1) t (runL (stm E G d) t.nd.th ⟨W, V, k⟩).s
            refine ⟨fun h3 c m G2 hc hg => ?_, fun h3 => ⟨(ha.2 h3).1, fun m G2 hg => ?_⟩⟩
            · have e1 := hb.1 (by omega) c m G2 (by omega) hg
              replace e1 : runL (stm E G2 d) t.nd.th ⟨W, V, k - c + m⟩ = (runL (stm E G d) t.nd.th ⟨W, V, k⟩).sh c m := e1
              show (if _ then _ else _) = _
              rw [e1, if_pos (show ((runL (stm E G d) t.nd.th ⟨W, V, k⟩).sh c m).k = 0 from hk)]
              exact ha.1 h3 c m G2 hc (by omega)
            · have e1 := hb.1 (by omega) 0 m G2 (by omega) (by show k - 0 + m ≤ G2; omega)
              replace e1 : runL (stm E G2 d) t.nd.th ⟨W, V, k - 0 + m⟩ = (runL (stm E G d) t.nd.th ⟨W, V, k⟩).sh 0 m := e1
              show (if _ then _ else _ : RR).s.lf ≤ m
              rw [e1, if_pos (show ((runL (stm E G d) t.nd.th ⟨W, V, k⟩).sh 0 m).k = 0 from hk)]
              exact (ha.2 h3).2 m G2 (by omega)
          · rw [if_neg hk]
            refine ⟨fun h3 c m G2 hc hg => ?_, fun h3 => ⟨(hb.2 h3).1, fun m G2 hg => ?_⟩⟩
            · have e1 := hb.1 h3 c m G2 hc hg
              replace e1 : runL (stm E G2 d) t.nd.th ⟨W, V, k - c + m⟩ = (runL (stm E G d) t.nd.th ⟨W, V, k⟩).sh c m := e1
              show (if _ then _ else _) = _
              rw [e1, if_neg (show ¬ ((runL (stm E G d) t.nd.th ⟨W, V, k⟩).sh c m).k = 0 from hk)]
            · have e1 := (hb.2 h3).2 m G2 hg
              replace e1 : (runL (stm E G2 d) t.nd.th ⟨W, V, k - 0 + m⟩).s.lf ≤ m := e1
              show (if _ then _ else _ : RR).s.lf ≤ m
              split
              · exact Nat.le_trans (stm_lf _ _ _ _) e1
              · exact e1
      by_cases h6 : t.nd.k = 6
      · have e : ∀ (G : Nat) (q : Nat), one E (runL (stm E G d)) (stm E G (d + 1) t) (runL (stm E G 8)) t.nd L ⟨W, V, q⟩ = back ⟨W, V, q⟩ t.nd.v (runL (stm E G 8) ((E.fs[t.nd.f.toNat]?).elim [] FuT.b) (fr0 ⟨W, V, q⟩ ((E.fs[t.nd.f.toNat]?).elim 0 FuT.v) L)) := fun G s => by unfold one; rw [if_neg (by omega), if_neg (by omega), if_neg (by omega), if_neg (by omega), if_neg (by omega), if_pos h6]
        simp only [e]
        have hc6 := runL_sh (E := E) (G := G) ((E.fs[t.nd.f.toNat]?).elim [] FuT.b) (fr0 ⟨W, V, k⟩ ((E.fs[t.nd.f.toNat]?).elim 0 FuT.v) L) (fun a ha s hs => by
          cases hf : E.fs[t.nd.f.toNat]? with
          | none => rw [hf] at ha; cases ha
          | some f =>
            rw [hf] at ha
            obtain ⟨ps', vs', g2⟩ := hfs f (List.mem_of_getElem? hf) a ha
            exact stm_sh hfs G 8 a s ps' vs' g2 hs) (by show k ≤ G; omega)
        have fre : ∀ c m, (fr0 ⟨W, V, k⟩ ((E.fs[t.nd.f.toNat]?).elim 0 FuT.v) L).sh c m = fr0 ⟨W, V, k - c + m⟩ ((E.fs[t.nd.f.toNat]?).elim 0 FuT.v) L := fun c m => rfl
        simp only [fre] at hc6
        replace hc6 : Qr (runL (stm E G 8) ((E.fs[t.nd.f.toNat]?).elim [] FuT.b) (fr0 ⟨W, V, k⟩ ((E.fs[t.nd.f.toNat]?).elim 0 FuT.v) L)) k (fun c m G2 => runL (stm E G2 8) ((E.fs[t.nd.f.toNat]?).elim [] FuT.b) (fr0 ⟨W, V, k - c + m⟩ ((E.fs[t.nd.f.toNat]?).elim 0 FuT.v) L)) := hc6
        generalize runL (stm E G 8) ((E.fs[t.nd.f.toNat]?).elim [] FuT.b) (fr0 ⟨W, V, k⟩ ((E.fs[t.nd.f.toNat]?).elim 0 FuT.v) L) = rB at hc6 ⊢
        have bk : ∀ (q q' : Nat) (c m : Nat), back ⟨W, V, q⟩ t.nd.v (rB.sh c m) = (back ⟨W, V, q'⟩ t.nd.v rB).sh c m := fun q q' c m => by
          unfold back
          show (if rB.k = 0 then _ else if rB.k = 1 then _ else _) = _
          split
          · rfl
          · split <;> rfl
        have bk3 : (back ⟨W, V, k⟩ t.nd.v rB).k = 3 → rB.k = 3 := fun h => by
          unfold back at h
          split at h
          · cases h
          · split at h
            · cases h
            · exact h
        have bk4 : (back ⟨W, V, k⟩ t.nd.v rB).k ≠ 3 → rB.k ≠ 3 := fun h h' => h (by
          unfold back
          rw [if_neg (by omega), if_neg (by omega)]
          exact h')
        have bkl := back_lf ⟨W, V, k⟩ t.nd.v rB
        refine ⟨fun h3 c m G2 hc hg => ?_, fun h3 => ⟨by rw [bkl]; exact (hc6.2 (bk3 h3)).1, fun m G2 hg => ?_⟩⟩
        · have e1 := hc6.1 (bk4 h3) c m G2 (by omega) hg
          exact (congrArg (back ⟨W, V, k - c + m⟩ t.nd.v) e1).trans (bk _ _ _ _)
        · have e1 := (hc6.2 (bk3 h3)).2 m G2 hg
          show (back _ _ _).s.lf ≤ m
          rw [back_lf]
          exact e1
      have hk : ∃ (K : Nat) (x : Int) (W2 V2 : List Int), K ≠ 3 ∧ ∀ (G q : Nat), one E (runL (stm E G d)) (stm E G (d + 1) t) (runL (stm E G 8)) t.nd L ⟨W, V, q⟩ = ⟨K, x, ⟨W2, V2, q⟩⟩ := by
        by_cases h1 : t.nd.k = 1
        · exact ⟨0, 0, W, V.set t.nd.v.toNat (L.getD 0 0), by omega, fun G q => by unfold one; rw [if_pos h1]; rfl⟩
        by_cases h2 : t.nd.k = 2
        · by_cases hx : L.getD 0 0 < W.length
          · exact ⟨0, 0, W.set (L.getD 0 0).toNat (L.getD 1 0), V, by omega, fun G q => by unfold one; rw [if_neg h1, if_pos h2, if_pos hx]⟩
          · exact ⟨2, 0, W, V, by omega, fun G q => by unfold one; rw [if_neg h1, if_pos h2, if_neg hx]⟩
        by_cases h5 : t.nd.k = 5
        · exact ⟨1, L.getD 0 0, W, V, by omega, fun G q => by unfold one; rw [if_neg h1, if_neg h2, if_neg h3, if_neg h4, if_pos h5]⟩
        by_cases h7 : t.nd.k = 7
        · cases hh : E.hsh W t.nd.t (L.getD 0 0) (L.getD 1 0) (L.getD 2 0) with
          | none => exact ⟨2, 0, W, V, by omega, fun G q => by unfold one; rw [if_neg h1, if_neg h2, if_neg h3, if_neg h4, if_neg h5, if_neg h6, if_pos h7, hh]⟩
          | some W2 => exact ⟨0, 0, W2, V, by omega, fun G q => by unfold one; rw [if_neg h1, if_neg h2, if_neg h3, if_neg h4, if_neg h5, if_neg h6, if_pos h7, hh]⟩
        by_cases h8 : t.nd.k = 8
        · cases hh : E.prm W (L.getD 0 0) with
          | none => exact ⟨2, 0, W, V, by omega, fun G q => by unfold one; rw [if_neg h1, if_neg h2, if_neg h3, if_neg h4, if_neg h5, if_neg h6, if_neg h7, if_pos h8, hh]⟩
          | some b => exact ⟨0, 0, W, V.set t.nd.v.toNat (E.pce b (L.getD 1 0)), by omega, fun G q => by unfold one; rw [if_neg h1, if_neg h2, if_neg h3, if_neg h4, if_neg h5, if_neg h6, if_neg h7, if_pos h8, hh]; rfl⟩
        cases hh : E.prm W (L.getD 0 0) with
        | none => exact ⟨2, 0, W, V, by omega, fun G q => by unfold one; rw [if_neg h1, if_neg h2, if_neg h3, if_neg h4, if_neg h5, if_neg h6, if_neg h7, if_neg h8, hh]⟩
        | some b => exact ⟨0, 0, W, V.set t.nd.v.toNat (b.length : Int), by omega, fun G q => by unfold one; rw [if_neg h1, if_neg h2, if_neg h3, if_neg h4, if_neg h5, if_neg h6, if_neg h7, if_neg h8, hh]; rfl⟩
      obtain ⟨K, x, W2, V2, hK, he⟩ := hk
      simp only [he]
      exact Qr.of hK (fun c m G2 _ _ => rfl)
end Go.Proofs.Ytmljihggooaboaa
