/- Iv, Jr, Iq, Cm, QTp. -/
import Derived.Test.YtmljihggooaboaaW30
import Derived.Test.YtmljihggooaboaaW04
import Derived.Handy
import Derived.BigQuiet
import Derived.BigRegion
import Derived.Test.YtmljihggooaboaaW26
import Derived.Test.YtmljihggooaboaaW01
import Derived.ChangeKeysEq
import Derived.ChangeOld
import Derived.Deep.DeepCutAuto
import Derived.Deep.DrawnRows
import Derived.Deep.MidRow
import Derived.Deep.QuietTactic
import Derived.Deep.RegionHeld3
import Derived.Deep.RegionLaw
import Derived.Deep.RegionWith
import Derived.Deep.WholeRow
import Derived.Laws.AppendOwnNone
import Derived.Laws.BitsLemmas
import Derived.Laws.BytesArg
import Derived.Laws.CopyOwn
import Derived.Lib.SlBytesConst
import Derived.OpenShut
import Derived.ProofKit
import Derived.ShutString
import Derived.SizedLaws
import Derived.WalkKit
import Derived.WalkLawsBesides
import Derived.WalkSpells
import Derived.Test.YtmljihggooaboaaW13
import Derived.Test.YtmljihggooaboaaW14
import Derived.Test.YtmljihggooaboaaW17
import Derived.Great.BuildSlice
import Derived.Laws.Tables
import Derived.LoopIn
import Derived.LoopNIn
import Derived.Maps.AppendAt
import Derived.OwnWalkIn
import Derived.RangeFuncBound
import Derived.RangeFuncCalls
import Derived.RangeFuncLeaves
import Derived.RangeFuncNested
import Derived.RangeFuncRecord
import Derived.Shelf.Abstract
import Derived.Shelf.RegionOpen
import Derived.TacticsInMore
import Derived.Test.YtmljihggooaboaaRows
/- Layer interp: which programs may be, by the document. -/
namespace Go.Proofs.Ytmljihggooaboaa
open Go.RowKit
set_option maxRecDepth 100000
set_option linter.unusedVariables false
set_option linter.unusedSimpArgs false

theorem begB_f {p : PgT} : begB p = true ↔ ¬ ((p.fs.length : Int) < 1) ∧ ¬ (32 < (p.fs.length : Int)) ∧ ¬ (p.da < 0) ∧ ¬ (1024 < p.da) ∧ p.fs.getLast?.map FuT.p = some 0 := by
  unfold begB
  rw [decide_eq_true_eq]
  constructor
  · rintro ⟨h1, h2, h3, h4, h5⟩
    exact ⟨by omega, by omega, by omega, by omega, h3⟩
  · rintro ⟨h1, h2, h3, h4, h5⟩
    exact ⟨by omega, by omega, h5, by omega, by omega⟩
set_option maxHeartbeats 4000000 in
theorem used_any {N : Nat} {cs : List Value} (p : PgT) (w : World) (hM : PgM N w cs p) (hN : N ≤ w.heap.size) :
    Calls Try.prog 22 #[.agg cs.toArray] w (DoP ((pgN p).map (4096 - ·)) w) := by
  obtain ⟨sp, n, cap, rfl, hda, hS⟩ := hM
  have b0 := ab w (.cells #[.slice sp n cap, .int .i64 p.da] 24)
  have A := Arr.new w 24 #[.slice sp n cap, .int .i64 p.da]
  have hlen := hS.len
  have hsm := hS.small
  have hbf := begB_f (p := p)
  rw [← hlen.out] at hbf
  have hSU := hS.imp (b0.mono hN) (FuM.below (b0.mono hN))
  have hNU : N ≤ (w.alloc (.cells #[.slice sp n cap, .int .i64 p.da] 24)).heap.size := by simp; omega
  have no : begB p ≠ true → pgN p = none := fun h => by unfold pgN; rw [if_neg h]
  by_cases c0 : (n : Int) < 1
  · rw [no (fun h => (hbf.1 h).1 c0)]
    clear hS hSU hbf no hlen
    go_enter Try.func22, Try.ntmps22
    go_wp2_with fail
    go_ret
    exact ⟨rfl, b0⟩
  by_cases c1 : 32 < (n : Int)
  · rw [no (fun h => (hbf.1 h).2.1 c1)]
    clear hS hSU hbf no hlen
    go_enter Try.func22, Try.ntmps22
    go_wp2_with fail
    go_ret
    exact ⟨rfl, b0⟩
  by_cases c2 : p.da < 0
  · rw [no (fun h => (hbf.1 h).2.2.1 c2)]
    clear hS hSU hbf no hlen
    go_enter Try.func22, Try.ntmps22
    go_wp2_with fail
    go_ret
    exact ⟨rfl, b0⟩
  by_cases c3 : 1024 < p.da
  · rw [no (fun h => (hbf.1 h).2.2.2.1 c3)]
    clear hS hSU hbf no hlen
    go_enter Try.func22, Try.ntmps22
    go_wp2_with fail
    go_ret
    exact ⟨rfl, b0⟩
  obtain ⟨f, ht⟩ : ∃ t, p.fs[n - 1]? = some t := ⟨p.fs[n - 1]'(by have := hlen.out; omega), List.getElem?_eq_getElem _⟩
  have hlast : p.fs.getLast?.map FuT.p = some f.p := by rw [List.getLast?_eq_getElem?, ← hlen.out, ht]; rfl
  obtain ⟨g, off, rfl, hg, hR⟩ := hSU.at0 (by omega)
  obtain ⟨cf, hrg, hMf⟩ := hR (n - 1) f ht
  obtain ⟨qa, qb, qc, rfl, -, -⟩ := hMf
  have l0 := hrg 0 _ rfl
  simp only [Nat.add_zero] at l0
  have hkw : IntKind.i64.wrap ((n : Int) - 1) = ((n - 1 : Nat) : Int) := by rw [IntKind.wrap_i64]; omega
  have hk1 : ((n - 1 : Nat) : Int) < n := by omega
  have hk2 : n - 1 < n := by omega
  by_cases c4 : f.p = 0
  rotate_left
  · rw [no (fun h => c4 (by have := (hbf.1 h).2.2.2.2; rw [hlast] at this; exact Option.some.inj this))]
    have c4' : (f.p != 0) = true := by simpa using c4
    clear hS hSU hbf no hlen hR hrg ht hlast c4
    generalize n - 1 = kk at *
    go_enter Try.func22, Try.ntmps22
    go_wp2_with fail
    go_ret
    exact ⟨rfl, b0⟩
  have hbeg : begB p = true := hbf.2 ⟨c0, c1, c2, c3, by rw [hlast, c4]⟩
  have e : pgN p = fnN p.fs [] 4096 := by unfold pgN; rw [hbeg, if_pos rfl]
  rw [e]
  obtain ⟨r, hr⟩ : ∃ r, r = fnN p.fs [] 4096 := ⟨_, rfl⟩
  rw [← hr]
  replace hr := hid hr
  have c4' : (f.p != 0) = false := by simpa using c4
  clear hS hbf no hlast hrg ht c4 hbeg e
  generalize hkk : n - 1 = kk at *
  clear hkk
  go_enter Try.func22, Try.ntmps22
  go_upto_region 5 with fail
  generalize hU : w.alloc (.cells #[.slice (some ⟨g, off, none⟩) n cap, .int .i64 p.da] 24) = U at *
  go_loopw [3, 4] (fun a i wr => ∃ (j : Nat), i = .int .i64 (j : Int) ∧ j ≤ n ∧ ((∃ q : Nat, q ≤ 4096 ∧ a = .int .i64 (q : Int) ∧ Hid (r = fnN (p.fs.drop j) ((p.fs.take j).map FuT.p) q)) ∨ (a = .int .i64 (-1) ∧ Hid (r = none))) ∧ Below U.heap.size U wr)
    (fun _ i _ => n - (intOf i).toNat)
  case atStart => exact ⟨0, rfl, by omega, .inl ⟨4096, by omega, rfl, hr⟩, Below.refl _ _⟩
  case round =>
    obtain ⟨j, rfl, hj, hqq, hb⟩ := hrel
    have B2 := b0.trans (hb.mono b0.size)
    have a0 := (A.bl hb).cell 0
    have a1 := (A.bl hb).cell 1
    rcases hqq with ⟨q, hq, rfl, hf⟩ | ⟨rfl, hf⟩
    · have hq0 : (0 : Int) ≤ q := by omega
      by_cases hlt : j < n
      · obtain ⟨f, ht⟩ : ∃ t, p.fs[j]? = some t := ⟨p.fs[j]'(by rw [← hlen.out]; exact hlt), List.getElem?_eq_getElem _⟩
        have hfd := fnN_drop ht q
        obtain ⟨cs, hrg, hM⟩ := hR j f ht
        obtain ⟨sq, m, cq, rfl, ⟨hfp, hfv⟩, hSb⟩ := hM
        have hrg2 := rb hrg hb (by omega)
        have c0 := hrg2 0 _ rfl
        have c1 := hrg2 1 _ rfl
        have c2 := hrg2 2 _ rfl
        simp only [Nat.add_zero] at c0
        have hlt' : (j : Int) < n := by omega
        have h0 : (0 : Int) ≤ j := by omega
        by_cases hcond : 0 ≤ f.v ∧ f.v ≤ 64 ∧ 0 ≤ f.p ∧ f.p ≤ f.v
        · rw [if_pos hcond] at hfd
          obtain ⟨d1, d2, d3, d4⟩ := hcond
          have n1 : ¬ f.v < 0 := by omega
          have n2 : ¬ 64 < f.v := by omega
          have n3 : ¬ f.p < 0 := by omega
          have n4 : ¬ f.v < f.p := by omega
          have b3 := ab wr (.cells (fuC f.p f.v (.slice sq m cq)).toArray 52)
          have hb3 := hb.trans (b3.mono hb.size)
          have hst := dstmts (dstmt_any (N := N) (sp := some ⟨g, off, none⟩) (n := n) (cap := cap) (fs := p.fs) (da := p.da) ht rfl 8 (by omega)) (wr.alloc (.cells (fuC f.p f.v (.slice sq m cq)).toArray 52)) (hSb.imp (hb3.mono hNU) (StM.below (hb3.mono hNU) 8)) (by have := hb3.size; omega) (hSU.imp (hb3.mono hNU) (FuM.below (hb3.mono hNU))) (some q) (fun k h => by cases h; exact hq) _ _ rfl rfl
          replace hst : Calls Try.prog 30 #[.agg #[.slice (some ⟨g, off, none⟩) n cap, .int .i64 p.da], .int .i64 (j : Int), .slice sq m cq, .int .i64 (q : Int), .int .i64 8] (wr.alloc (.cells (fuC f.p f.v (.slice sq m cq)).toArray 52)) (DoP (fld (stN ((p.fs.take j).map FuT.p) f.v 8) f.b q) (wr.alloc (.cells (fuC f.p f.v (.slice sq m cq)).toArray 52))) := hst
          unfold DoP at hst
          have e0 := (A.bl hb3).cell 0
          have e1 := (A.bl hb3).cell 1
          clear hSU hR hrg hrg2 hSb ht hr
          cases hx : fld (stN ((p.fs.take j).map FuT.p) f.v 8) f.b q with
          | none =>
            rw [hx] at hst hfd
            have hrn : Hid (r = none) := hid (hf.out.trans hfd)
            clear hx hfd hf
            unfold fuC at *
            go_wp2_with (go_at_call 30; go_must (refine hst.mono ?_; rintro e w5 ⟨rfl, hb5⟩))
            go_roundw
            case rel => exact ⟨j + 1, by go_num, by omega, .inr ⟨rfl, hrn⟩, hb3.trans (hb5.mono hb3.size)⟩
            case measure => simp [intOf]; omega
          | some q' =>
            have hq' : q' ≤ q := fld_le (stN_le 8) _ _ _ hx
            rw [hx] at hst hfd
            have hrn : Hid (r = fnN (p.fs.drop (j + 1)) ((p.fs.take (j + 1)).map FuT.p) q') := hid (hf.out.trans hfd)
            clear hx hfd hf
            unfold fuC at *
            go_wp2_with (go_at_call 30; go_must (refine hst.mono ?_; rintro e w5 ⟨rfl, hb5⟩))
            go_roundw
            case rel => exact ⟨j + 1, by go_num, by omega, .inl ⟨q', by omega, rfl, hrn⟩, hb3.trans (hb5.mono hb3.size)⟩
            case measure => simp [intOf]; omega
        · rw [if_neg hcond] at hfd
          have hrn : Hid (r = none) := hid (hf.out.trans hfd)
          have hc2 : Hid (¬ (0 ≤ f.v ∧ f.v ≤ 64 ∧ 0 ≤ f.p ∧ f.p ≤ f.v)) := hid hcond
          clear hSU hR hrg hrg2 hSb ht hr hfd hf hcond hlen
          unfold fuC at *
          go_upto_region 8 with fail
          by_cases d1 : f.v < 0
          · go_wp2_with fail
            go_ret
            rw [hrn.out]
            exact ⟨rfl, B2.alloc B2.size _⟩
          by_cases d2 : 64 < f.v
          · go_wp2_with fail
            go_ret
            rw [hrn.out]
            exact ⟨rfl, B2.alloc B2.size _⟩
          by_cases d3 : f.p < 0
          · go_wp2_with fail
            go_ret
            rw [hrn.out]
            exact ⟨rfl, B2.alloc B2.size _⟩
          have d4 : f.v < f.p := by have := hc2.out; omega
          go_wp2_with fail
          go_ret
          rw [hrn.out]
          exact ⟨rfl, B2.alloc B2.size _⟩
      · obtain rfl : j = n := by omega
        have hrn : Hid (r = some q) := hid (by rw [hf.out, hlen.out, List.drop_length]; rfl)
        have hlt' : ¬ (j : Int) < j := by omega
        have hnn : ¬ (q : Int) < 0 := by omega
        have hsub : IntKind.i64.wrap (4096 - (q : Int)) = ((4096 - q : Nat) : Int) := by rw [IntKind.wrap_i64]; omega
        clear hSU hf hlen hR hr
        go_wp2_with fail
        go_ret
        rw [hrn.out]
        exact ⟨rfl, B2⟩
    · clear hSU hlen hR hr
      by_cases hlt : j < n
      · have hlt' : (j : Int) < n := by omega
        go_wp2_with fail
        go_ret
        rw [hf.out]
        exact ⟨rfl, B2⟩
      · have hlt' : ¬ (j : Int) < n := by omega
        go_wp2_with fail
        go_ret
        rw [hf.out]
        exact ⟨rfl, B2⟩
theorem refMay_any {N : Nat} {cs : List Value} (p : PgT) (w : World) (hM : PgM N w cs p) (hN : N ≤ w.heap.size) :
    Calls Try.prog 13 #[.agg cs.toArray] w (BoP (pgN p).isSome w) := by
  obtain ⟨sp, n, cap, rfl, hda, hS⟩ := id hM
  have b0 := ab w (.cells #[.slice sp n cap, .int .i64 p.da] 24)
  have hn := used_any p (w.alloc (.cells #[.slice sp n cap, .int .i64 p.da] 24)) (PgM.below (b0.mono hN) _ p hM) (by simp; omega)
  unfold DoP at hn
  clear hM hS
  cases h : pgN p with
  | none =>
    rw [h] at hn
    go_enter Try.func13, Try.ntmps13
    go_wp2_with (go_at_call 22; go_must (refine hn.mono ?_; rintro e w1 ⟨rfl, hb1⟩))
    go_ret
    exact ⟨rfl, b0.trans (hb1.mono b0.size)⟩
  | some k =>
    rw [h] at hn
    have hk : (0 : Int) ≤ ((4096 - k : Nat) : Int) := by omega
    replace hn : Calls Try.prog 22 #[.agg #[.slice sp n cap, .int .i64 p.da]] (w.alloc (.cells #[.slice sp n cap, .int .i64 p.da] 24)) fun e w' => e = .returned (.int .i64 ((4096 - k : Nat) : Int)) ∧ Below (w.alloc (.cells #[.slice sp n cap, .int .i64 p.da] 24)).heap.size (w.alloc (.cells #[.slice sp n cap, .int .i64 p.da] 24)) w' := hn
    generalize ((4096 - k : Nat) : Int) = z at *
    go_enter Try.func13, Try.ntmps13
    go_wp2_with (go_at_call 22; go_must (refine hn.mono ?_; rintro e w1 ⟨rfl, hb1⟩))
    go_ret
    exact ⟨rfl, b0.trans (hb1.mono b0.size)⟩
end Go.Proofs.Ytmljihggooaboaa
/- Layer interp: InterpFuel. -/
namespace Go.Proofs.Ytmljihggooaboaa
open Go.RowKit
set_option maxRecDepth 100000
set_option linter.unusedVariables false
set_option linter.unusedSimpArgs false

variable {N : Nat} {p : PgT} {fp : Option Addr} {fm fc : Nat} {sd : Option Addr} {nd cd : Nat} {D : List Int}
theorem OD.ds {base : Nat} {w : World} {sp : Option Addr} {n : Nat} {W : List Int} (h : OD base w sp n W) (hf : n ≤ 1024) : DS w sp n W :=
  ⟨hid h.len.out.symm, hf, fun h0 => let ⟨g, e, hg, hA⟩ := h.at0 h0; ⟨g, e, hA.lt, fun i x hx => (hA.cell i).trans (by rw [uA_get (List.getElem?_eq_some_iff.1 hx).1, List.getD_eq_getElem?_getD, hx]; rfl)⟩⟩
set_option maxHeartbeats 2000000 in
theorem fuel_walk {fuel0 more : Int} (w : World) (hN : N ≤ w.heap.size) (hM : PgM N w [.slice fp fm fc, .int .i64 p.da] p) (hD : AG sd nd D w) (hDU : ∀ x ∈ D, U64 x) (hm : 0 ≤ more ∧ more ≤ 255) :
    Calls Try.prog 5 #[.agg #[.slice fp fm fc, .int .i64 p.da], .agg #[.slice sd nd cd, .int .i64 fuel0], .int .u8 more] w (BoP true w) := by
  have hnd : nd = D.length := hD.1.out.symm
  subst hnd
  have b0 : Below w.heap.size w ((w.alloc (.cells #[.slice fp fm fc, .int .i64 p.da] 24)).alloc (.cells #[.slice sd D.length cd, .int .i64 fuel0] 27)) := (ab w _).alloc (by simp) _
  have hr : Hid (∀ (fuel : Int) (u : World), Below w.heap.size w u → Calls Try.prog 7 #[.agg #[.slice fp fm fc, .int .i64 p.da], .slice sd D.length cd, .slice none 0 0, .int .i64 fuel] u (RnP (rnV p [] D fuel) u)) := hid fun fuel u hb => run_any (N := N) u (by have := hb.size; omega) (PgM.below (hb.mono hN) _ p hM) (hD.bl hb) hDU ⟨hid rfl, fun _ => ⟨rfl, rfl⟩, Nat.le_refl _, by omega, by omega, fun h => by omega, fun e he => by cases he⟩
  have hmy : Hid (∀ (u : World), Below w.heap.size w u → Calls Try.prog 13 #[.agg #[.slice fp fm fc, .int .i64 p.da]] u (BoP (pgN p).isSome u)) := hid fun u hb => refMay_any p u (PgM.below (hb.mono hN) _ p hM) (by have := hb.size; omega)
  have han := hid fun (u : World) => anchored_any u
  have A0 := (Arr.new w 24 #[.slice fp fm fc, .int .i64 p.da]).alloc (.cells #[.slice sd D.length cd, .int .i64 fuel0] 27)
  have A1 := Arr.new (w.alloc (.cells #[.slice fp fm fc, .int .i64 p.da] 24)) 27 #[.slice sd D.length cd, .int .i64 fuel0]
  simp only [World.size_alloc] at A1
  clear hM hD hDU
  go_enter Try.func5, Try.ntmps5
  go_upto_region 2 with fail
  generalize hfu : (if (2000 : Int) < fuel0 then (2000 : Int) else fuel0) = fuel
  have hf2 : fuel ≤ 2000 := by rw [← hfu]; split <;> omega
  clear hfu
  have hr1 := hr.out fuel _ b0
  have hff := hid fun h0 => fuel_facts (p := p) (es := []) (D := D) (fuel := fuel) h0 more.toNat (by omega)
  obtain ⟨x, hx⟩ : ∃ x, rnV p [] D fuel = x := ⟨_, rfl⟩
  rw [hx] at hr1 hff
  replace hr1 := hid hr1
  replace hx := hid hx
  go_upto_region 3 with (go_at_call 7; go_must (refine hr1.out.mono ?_; rintro e w1 ⟨sx, nx, rfl, hox, hb1⟩))
  have hs1 : w.heap.size + 2 ≤ w1.heap.size := by have := hb1.size; simpa using this
  have AX := Arr.new w1 32 #[.int .u8 x.st, .int .u64 x.va, .slice sx nx nx, .int .i64 x.sp]
  have A0V := (A0.bl hb1).alloc (.cells #[.int .u8 x.st, .int .u64 x.va, .slice sx nx nx, .int .i64 x.sp] 32)
  have A1V := (A1.bl hb1).alloc (.cells #[.int .u8 x.st, .int .u64 x.va, .slice sx nx nx, .int .i64 x.sp] 32)
  have BV : Below w.heap.size w (w1.alloc (.cells #[.int .u8 x.st, .int .u64 x.va, .slice sx nx nx, .int .i64 x.sp] 32)) := (b0.trans (hb1.mono (by simp; omega))).alloc (by omega) _
  have hox1 : OD w.heap.size (w1.alloc (.cells #[.int .u8 x.st, .int .u64 x.va, .slice sx nx nx, .int .i64 x.sp] 32)) sx nx x.W := ⟨hox.len, fun h => let ⟨g, e, hg, hA⟩ := hox.at0 h; ⟨g, e, by simp at hg; omega, hA.alloc _⟩, hox.nil⟩
  clear hr1 A0 A1 hox hb1 b0
  generalize hVV : w1.alloc (.cells #[.int .u8 x.st, .int .u64 x.va, .slice sx nx nx, .int .i64 x.sp] 32) = V at *
  generalize hgx : w1.heap.size = gx at *
  clear hVV hgx
  by_cases hc0 : rnC p D.length fuel = 0
  · obtain ⟨f1, f2, f3, f4, f5, f6, f7, f8⟩ := hff.out hc0
    have hcc := hc0
    unfold rnC at hcc
    split at hcc
    · cases hcc
    next g1 =>
    have g2 : (pgN p).isSome = true := by
      cases h : pgN p with
      | none => exact absurd (.inl h) g1
      | some q => rfl
    have g3 : ¬ p.da < (D.length : Int) := fun h => g1 (.inr (.inl h))
    have g4 : ¬ fuel < 0 := fun h => g1 (.inr (.inr h))
    have g3 : decide (p.da < (D.length : Int)) = false := by simpa using g3
    have g4' : decide (fuel < 0) = false := by simpa using g4
    have g5 : decide (fuel < x.sp) = false := by simp; omega
    have hda : p.da ≤ 1024 := by
      obtain ⟨hb, -⟩ := pgN_parts g2
      have := of_decide_eq_true (show decide _ = true from hb)
      omega
    have g6 : ((nx : Int) != p.da) = false := by rw [← hox1.len.out]; simpa using f4
    have hnx : nx ≤ 1024 := by rw [← hox1.len.out]; omega
    have hmt : ((more.toNat : Nat) : Int) = more := by omega
    rw [hmt] at f5 f7 f8
    have hw1 : IntKind.i64.wrap more = more := by rw [IntKind.wrap_i64]; omega
    have hw2 : IntKind.i64.wrap (fuel + more) = fuel + more := by rw [IntKind.wrap_i64]; omega
    have hmy1 := hmy.out _ BV
    rw [g2] at hmy1
    replace hmy1 := hid hmy1
    replace f7 := hid f7
    replace f8 := hid f8
    obtain ⟨y, hy⟩ : ∃ y, rnV p [] D (fuel + more) = y := ⟨_, rfl⟩
    obtain ⟨z, hz⟩ : ∃ z, rnV p [] D x.sp = z := ⟨_, rfl⟩
    rw [hy] at f5 f7 f8
    rw [hz] at f6 f8
    have fcx : (x.c != 0) = false := by simp [f1]
    have fcy : (y.c != 0) = false := by simp [f5]
    have fcz : (z.c != 0) = false := by simp [f6]
    clear f1 f4 g1 g2 hcc hc0 hff hmt f5 f6
    unfold BoP at hmy1
    have v00 := A0V.cell 0
    have v01 := A0V.cell 1
    go_upto_region 5 with (go_at_call 13; go_must (refine hmy1.out.mono ?_; rintro e w2 ⟨rfl, hb2⟩; have c01 := (A0V.bl hb2).cell 1; have c10 := (A1V.bl hb2).cell 0))
    have x2 := (AX.bl hb2).cell 2
    have x3 := (AX.bl hb2).cell 3
    have c00 := (A0V.bl hb2).cell 0
    have B2 : Below w.heap.size w w2 := BV.trans (hb2.mono BV.size)
    have hr2 := hr.out (fuel + more) _ B2
    rw [hy] at hr2
    replace hr2 := hid hr2
    go_upto_region 8 with (go_at_call 7; go_must (refine hr2.out.mono ?_; rintro e w3 ⟨sy, ny, rfl, hoy, hb3⟩))
    have hs3 : w.heap.size + 2 ≤ w3.heap.size := by have := hb3.size; have := hb2.size; have := AX.lt; omega
    have AY := Arr.new w3 32 #[.int .u8 y.st, .int .u64 y.va, .slice sy ny ny, .int .i64 y.sp]
    have A0W := ((A0V.bl hb2).bl hb3).alloc (.cells #[.int .u8 y.st, .int .u64 y.va, .slice sy ny ny, .int .i64 y.sp] 32)
    have A1W := ((A1V.bl hb2).bl hb3).alloc (.cells #[.int .u8 y.st, .int .u64 y.va, .slice sy ny ny, .int .i64 y.sp] 32)
    have AXW := ((AX.bl hb2).bl hb3).alloc (.cells #[.int .u8 y.st, .int .u64 y.va, .slice sy ny ny, .int .i64 y.sp] 32)
    have hbW : Below V.heap.size V (w3.alloc (.cells #[.int .u8 y.st, .int .u64 y.va, .slice sy ny ny, .int .i64 y.sp] 32)) := (hb2.trans (hb3.mono hb2.size)).alloc (by have := hb2.size; have := hb3.size; omega) _
    have BW : Below w.heap.size w (w3.alloc (.cells #[.int .u8 y.st, .int .u64 y.va, .slice sy ny ny, .int .i64 y.sp] 32)) := BV.trans (hbW.mono BV.size)
    have hoyW : OD w.heap.size (w3.alloc (.cells #[.int .u8 y.st, .int .u64 y.va, .slice sy ny ny, .int .i64 y.sp] 32)) sy ny y.W := ⟨hoy.len, fun h => let ⟨g, e, hg, hA⟩ := hoy.at0 h; ⟨g, e, by have := B2.size; omega, hA.alloc _⟩, hoy.nil⟩
    have hoxW : OD w.heap.size (w3.alloc (.cells #[.int .u8 y.st, .int .u64 y.va, .slice sy ny ny, .int .i64 y.sp] 32)) sx nx x.W := ⟨hox1.len, fun h => let ⟨g, e, hg, hA⟩ := hox1.at0 h; ⟨g, e, hg, hA.bl hbW⟩, hox1.nil⟩
    clear hoy hb2 hb3 hr2 hmy1 hox1 hbW B2 c00 c01 c10 x2 x3 v00 v01 A0V A1V AX BV
    generalize hVV : w3.alloc (.cells #[.int .u8 y.st, .int .u64 y.va, .slice sy ny ny, .int .i64 y.sp] 32) = U at *
    generalize hgy : w3.heap.size = gy at *
    clear hVV hgy
    have c00 := A0W.cell 0
    have c01 := A0W.cell 1
    have c10 := A1W.cell 0
    have x3 := AXW.cell 3
    have hr3 := hr.out x.sp _ BW
    rw [hz] at hr3
    replace hr3 := hid hr3
    go_upto_region 9 with (go_at_call 7; go_must (refine hr3.out.mono ?_; rintro e w4 ⟨sz, nz, rfl, hoz, hb4⟩))
    have AZ := Arr.new w4 32 #[.int .u8 z.st, .int .u64 z.va, .slice sz nz nz, .int .i64 z.sp]
    have AXZ := (AXW.bl hb4).alloc (.cells #[.int .u8 z.st, .int .u64 z.va, .slice sz nz nz, .int .i64 z.sp] 32)
    have AYZ := (AY.bl hb4).alloc (.cells #[.int .u8 z.st, .int .u64 z.va, .slice sz nz nz, .int .i64 z.sp] 32)
    have hbZ : Below U.heap.size U (w4.alloc (.cells #[.int .u8 z.st, .int .u64 z.va, .slice sz nz nz, .int .i64 z.sp] 32)) := hb4.alloc hb4.size _
    have BZ : Below w.heap.size w (w4.alloc (.cells #[.int .u8 z.st, .int .u64 z.va, .slice sz nz nz, .int .i64 z.sp] 32)) := BW.trans (hbZ.mono BW.size)
    have hozZ : OD w.heap.size (w4.alloc (.cells #[.int .u8 z.st, .int .u64 z.va, .slice sz nz nz, .int .i64 z.sp] 32)) sz nz z.W := ⟨hoz.len, fun h => let ⟨g, e, hg, hA⟩ := hoz.at0 h; ⟨g, e, by have := BW.size; omega, hA.alloc _⟩, hoz.nil⟩
    have hoyZ : OD w.heap.size (w4.alloc (.cells #[.int .u8 z.st, .int .u64 z.va, .slice sz nz nz, .int .i64 z.sp] 32)) sy ny y.W := ⟨hoyW.len, fun h => let ⟨g, e, hg, hA⟩ := hoyW.at0 h; ⟨g, e, hg, hA.bl hbZ⟩, hoyW.nil⟩
    have hoxZ : OD w.heap.size (w4.alloc (.cells #[.int .u8 z.st, .int .u64 z.va, .slice sz nz nz, .int .i64 z.sp] 32)) sx nx x.W := ⟨hoxW.len, fun h => let ⟨g, e, hg, hA⟩ := hoxW.at0 h; ⟨g, e, hg, hA.bl hbZ⟩, hoxW.nil⟩
    clear hoyW hoxW hoz hb4 hbZ BW c00 c01 c10 x3 A0W A1W AXW AY hr3
    generalize hVV : w4.alloc (.cells #[.int .u8 z.st, .int .u64 z.va, .slice sz nz nz, .int .i64 z.sp] 32) = T at *
    generalize hgz : w4.heap.size = gz at *
    clear hVV hgz
    have hsm : ∀ (a : OV) (sa : Option Addr) (na : Nat), a = x → OD w.heap.size T sa na a.W → Hid (∀ u, Below T.heap.size T u → Calls Try.prog 9 #[.agg #[.int .u8 x.st, .int .u64 x.va, .slice sx nx nx, .int .i64 x.sp], .agg #[.int .u8 a.st, .int .u64 a.va, .slice sa na na, .int .i64 a.sp]] u (BoP true u)) := fun a sa na ha ho => hid fun u hb => by
      subst ha
      have := same_any (s1 := a.st) (v1 := a.va) (k1 := a.sp) (s2 := a.st) (v2 := a.va) (k2 := a.sp) (c1 := nx) (c2 := na) u ((hoxZ.ds hnx).bl hb) ((ho.ds (by rw [← ho.len.out, hoxZ.len.out]; exact hnx)).bl hb)
      simpa [ouA] using this
    have x0 := AXZ.cell 0
    go_upto_region 11 with fail
    by_cases hst : x.st = 0
    · obtain ⟨q1, q2, q3⟩ := f7.out hst
      have hzx : z = x := by rw [← hz, q1]; exact hx.out
      have hsz := hsm z sz nz hzx hozZ
      have e0 : (x.st == 0) = true := by simpa using hst
      have e1 : (x.sp == fuel) = true := by simpa using q1
      have e2 : (x.va == 0) = true := by simpa using q2
      have e3 : decide (x.sp ≤ y.sp) = true := by simp; omega
      clear hsm hzx q1 q2 q3 hst f7 f8
      unfold BoP at hsz han
      go_wp2_with (first
        | (go_at_call 10; go_must (refine (han.out _).mono ?_; rintro e w5 ⟨rfl, hb5⟩; have X5 := AXZ.bl hb5; have Z5 := AZ.bl hb5; have p0 := X5.cell 0; have p1 := X5.cell 1; have p2 := X5.cell 2; have p3 := X5.cell 3; have r0 := Z5.cell 0; have r1 := Z5.cell 1; have r2 := Z5.cell 2; have r3 := Z5.cell 3))
        | (go_at_call 9; go_must (refine (hsz.out _ hb5).mono ?_; rintro e w6 ⟨rfl, hb6⟩; have t3 := (X5.bl hb6).cell 3; have u3 := ((AYZ.bl hb5).bl hb6).cell 3)))
      go_ret
      exact ⟨rfl, BZ.trans ((hb5.trans (hb6.mono hb5.size)).mono BZ.size)⟩
    · obtain ⟨q1, q2⟩ := f8.out hst
      have hsy := hsm y sy ny q1 hoyZ
      have hsz := hsm z sz nz q2 hozZ
      have e0 : (x.st == 0) = false := by simpa using hst
      clear hsm q1 q2 hst f7 f8
      unfold BoP at hsz hsy han
      go_wp2_with (first
        | (go_at_call 10; go_must (refine (han.out _).mono ?_; rintro e w5 ⟨rfl, hb5⟩; have X5 := AXZ.bl hb5; have Y5 := AYZ.bl hb5; have p0 := X5.cell 0; have p1 := X5.cell 1; have p2 := X5.cell 2; have p3 := X5.cell 3; have r0 := Y5.cell 0; have r1 := Y5.cell 1; have r2 := Y5.cell 2; have r3 := Y5.cell 3))
        | (go_at_call 9; have hs := hsy; clear hsy; go_must (refine (hs.out _ hb5).mono ?_; rintro e w6 ⟨rfl, hb6⟩; have X6 := X5.bl hb6; have Z6 := (AZ.bl hb5).bl hb6; have t0 := X6.cell 0; have t1 := X6.cell 1; have t2 := X6.cell 2; have t3 := X6.cell 3; have u0 := Z6.cell 0; have u1 := Z6.cell 1; have u2 := Z6.cell 2; have u3 := Z6.cell 3))
        | (go_at_call 9; go_must (refine (hsz.out _ (hb5.trans (hb6.mono hb5.size))).mono ?_; rintro e w7 ⟨rfl, hb7⟩)))
      go_ret
      exact ⟨rfl, BZ.trans (((hb5.trans (hb6.mono hb5.size)).trans (hb7.mono (by have := hb5.size; have := hb6.size; omega))).mono BZ.size)⟩
  · have hxc : x = ⟨0, 0, [], 0, rnC p D.length fuel⟩ := by rw [← hx.out]; unfold rnV; rw [if_neg hc0]
    have hc2 : rnC p D.length fuel = 2 := by
      unfold rnC at hc0 ⊢
      split
      · rfl
      · next h => rw [if_neg h, if_neg (by omega)] at hc0; exact absurd rfl hc0
    have hx2 : (x.c == 2) = true := by rw [hxc, hc2]; rfl
    have hmy1 := hmy.out _ BV
    have v00 := A0V.cell 0
    have v01 := A0V.cell 1
    unfold BoP at hmy1 han
    clear hff hr hmy hxc hc0
    cases hq : pgN p with
    | none =>
      rw [hq] at hmy1
      replace hmy1 := hid hmy1
      clear hq hc2
      go_wp2_with (first
        | (go_at_call 13; go_must (refine hmy1.out.mono ?_; rintro e w2 ⟨rfl, hb2⟩; have c01 := (A0V.bl hb2).cell 1; have c10 := (A1V.bl hb2).cell 0))
        | (go_at_call 10; go_must (refine (han.out _).mono ?_; rintro e w5 ⟨rfl, hb5⟩)))
      go_ret
      exact ⟨rfl, BV.trans ((hb2.trans (hb5.mono hb2.size)).mono BV.size)⟩
    | some q =>
      rw [hq] at hmy1
      replace hmy1 := hid hmy1
      have hor : p.da < (D.length : Int) ∨ fuel < 0 := by
        unfold rnC at hc2
        split at hc2
        · next h => rcases h with h | h | h
                    · rw [hq] at h; cases h
                    · exact .inl h
                    · exact .inr h
        · split at hc2 <;> cases hc2
      clear hq hc2
      have hor2 : (decide (p.da < (D.length : Int)) || decide (fuel < 0)) = true := by simpa using hor
      by_cases hl : p.da < (D.length : Int)
      · have g3 : decide (p.da < (D.length : Int)) = true := by simpa using hl
        clear hl hor hor2
        go_wp2_with (first
          | (go_at_call 13; go_must (refine hmy1.out.mono ?_; rintro e w2 ⟨rfl, hb2⟩; have c01 := (A0V.bl hb2).cell 1; have c10 := (A1V.bl hb2).cell 0))
          | (go_at_call 10; go_must (refine (han.out _).mono ?_; rintro e w5 ⟨rfl, hb5⟩)))
        go_ret
        exact ⟨rfl, BV.trans ((hb2.trans (hb5.mono hb2.size)).mono BV.size)⟩
      · have g3 : decide (p.da < (D.length : Int)) = false := by simpa using hl
        have g4 : decide (fuel < 0) = true := by rw [g3] at hor2; simpa using hor2
        clear hl hor hor2
        go_wp2_with (first
          | (go_at_call 13; go_must (refine hmy1.out.mono ?_; rintro e w2 ⟨rfl, hb2⟩; have c01 := (A0V.bl hb2).cell 1; have c10 := (A1V.bl hb2).cell 0))
          | (go_at_call 10; go_must (refine (han.out _).mono ?_; rintro e w5 ⟨rfl, hb5⟩)))
        go_ret
        exact ⟨rfl, BV.trans ((hb2.trans (hb5.mono hb2.size)).mono BV.size)⟩
end Go.Proofs.Ytmljihggooaboaa
/- Layer interp: what the final texts want. -/
namespace Go.Proofs.Ytmljihggooaboaa
open Go.ChangeShapes Go.WideShapes Go.ChangeAt Go.RowKit
set_option maxRecDepth 100000
set_option linter.unusedVariables false
set_option linter.unusedSimpArgs false

theorem ownI : ownKnob Try.prog.godebug = none := by kernel_rfl
theorem laidI : laidOutB Try.prog = true := by kernel_rfl
theorem u64I {z : Int} (h : (Lit.int .u64 z).wf = true) : U64 z := by
  have h1 : IntKind.u64.min = 0 := rfl
  have h2 : IntKind.u64.max = 18446744073709551615 := rfl
  simp only [Lit.wf, Bool.and_eq_true, decide_eq_true_eq] at h
  unfold U64
  omega
end Go.Proofs.Ytmljihggooaboaa
/- Layer interp: what the layers below give. -/
namespace Go.Proofs.Ytmljihggooaboaa
open Go.ChangeAt Go.ChangeShapes Go.RowKit Go.WideShapes
set_option maxRecDepth 100000
set_option linter.unusedVariables false
set_option linter.unusedSimpArgs false

theorem exists_list {α : Type} {P : Nat → α → Prop} : ∀ (n : Nat), (∀ i, i < n → ∃ a, P i a) → ∃ l : List α, l.length = n ∧ ∀ i a, l[i]? = some a → P i a
  | 0, _ => ⟨[], rfl, fun i a h => by simp at h⟩
  | n + 1, h => by
    obtain ⟨l, hl, hP⟩ := exists_list n (fun i hi => h i (by omega))
    obtain ⟨a, ha⟩ := h n (by omega)
    refine ⟨l ++ [a], by simp [hl], fun i b hb => ?_⟩
    by_cases hi : i < n
    · rw [List.getElem?_append_left (by omega)] at hb; exact hP i b hb
    · rw [List.getElem?_append_right (by omega)] at hb
      have : i - l.length = 0 := by have := (List.getElem?_eq_some_iff.1 hb).1; simp at this; omega
      rw [this] at hb
      simp at hb
      subst hb
      obtain rfl : i = n := by omega
      exact ha
/-- Nothing in it is greater than the reach. -/
def Small {H : Type} (t : TypeId) (d : DataW H) : Prop := ∀ n ∈ d.weights Try.prog t, n ≤ reachBytes
theorem bts_wf {L : List Int} (h : ∀ x ∈ L, (Lit.int .u8 x).wf = true) : Bts L := fun x hx => by
  have h1 := h x hx
  have hmin : IntKind.u8.min = 0 := rfl
  have hmax : IntKind.u8.max = 255 := rfl
  simp only [Lit.wf, Bool.and_eq_true, decide_eq_true_eq] at h1
  omega
theorem cells5 : Try.prog.cellsOf 5 = 1 := by kernel_rfl
theorem cells29 : Try.prog.cellsOf 55 = 32 := by kernel_rfl
section
variable {H : Type} {enc : TypeId × Value → H} {W : World} {base : Nat}

theorem h_of_trod {fuel : Nat} {cs : List Value} {x : DataW H × List MemPlace} (h : DataW.trod enc Try.prog W base (fun _ => true) true fuel 55 cs = some x) : ∃ X : List Int, X.length = 32 ∧ Bts X ∧ cs = by8 X := by
  obtain ⟨xs, m, -, hx, hl, hxs, hi⟩ := DataW.trod_array Try.underlying55 h
  rw [cells29] at hl
  have key : ∀ i, i < 32 → ∃ z, cs[i]? = some (.int .u8 z) ∧ (Lit.int .u8 z).wf = true := fun i hin => by
    have := hi i hin
    rw [List.getElem?_eq_getElem (by omega), cells5] at this
    obtain ⟨z, hz, -, hw⟩ := DataW.trod_int Try.underlying5 this
    refine ⟨z, ?_, hw⟩
    simp only [Nat.mul_one] at hz
    have h2 : (List.take 1 (List.drop i cs))[0]? = some (.int .u8 z) := by rw [hz]; rfl
    simpa using h2
  refine ⟨cs.map fun v => match v with | .int _ z => z | _ => 0, by simp [hl], bts_wf fun y hy => ?_, ?_⟩
  · obtain ⟨v, hv, rfl⟩ := List.mem_map.1 hy
    obtain ⟨i, hin, rfl⟩ := List.mem_iff_getElem.1 hv
    obtain ⟨z, hz, hw⟩ := key i (by omega)
    rw [List.getElem?_eq_getElem hin] at hz
    rw [Option.some.inj hz]; exact hw
  · apply List.ext_getElem?
    intro i
    by_cases hin : i < 32
    · obtain ⟨z, hz, -⟩ := key i hin
      simp [by8, hz]
    · rw [List.getElem?_eq_none (by omega), List.getElem?_eq_none (by rw [by8_len]; simp; omega)]
/-- The cells at an address. -/
theorem cells_at {a : Addr} {k : Nat} {cs : List Value} (hk : 0 < k) (h : W.cells? base a k = some cs) : ∃ b off, a = ⟨b, off, none⟩ ∧ W.rangeAt b off cs := by
  obtain ⟨-, hl, hc⟩ := World.cells?_some h
  have h0 := hc 0 hk
  have h0' : ∃ v, cs[0]? = some v := by
    cases cs with
    | nil => simp at hl; omega
    | cons x r => exact ⟨x, rfl⟩
  obtain ⟨v0, hv0⟩ := h0'
  rw [hv0] at h0
  obtain ⟨b, off, spot⟩ := a
  have hspot : spot = none := by simpa [Addr.add] using World.cell?_spot h0
  subst hspot
  refine ⟨b, off, rfl, fun j v hv => ?_⟩
  have hj : j < k := by have := (List.getElem?_eq_some_iff.1 hv).1; omega
  have := hc j hj
  rw [Addr.add_mid] at this
  rw [this]; exact hv
end
end Go.Proofs.Ytmljihggooaboaa
/- Layer interp: what the layers below give. -/
namespace Go.Proofs.Ytmljihggooaboaa
open Go.ChangeAt Go.ChangeShapes Go.RowKit Go.WideShapes
set_option maxRecDepth 100000
set_option linter.unusedVariables false
set_option linter.unusedSimpArgs false

theorem bytes5 : Try.prog.bytesOf 5 = 1 := by kernel_rfl
end Go.Proofs.Ytmljihggooaboaa
