/- RYn, RVr, Kz4. -/
import Derived.Test.YtimmiidkjpbffaaX41
import Derived.Test.YtimmiidkjpbffaaX01
import Derived.Test.YtimmiidkjpbffaaX02
import Derived.Test.YtimmiidkjpbffaaX08
import Derived.Test.YtimmiidkjpbffaaX03
import Derived.Test.YtimmiidkjpbffaaX21
import Derived.Test.YtimmiidkjpbffaaX27
import Derived.Test.YtimmiidkjpbffaaX28
import Derived.Test.YtimmiidkjpbffaaX29
import Derived.Test.YtimmiidkjpbffaaX30
import Derived.Test.YtimmiidkjpbffaaX31
import Derived.Test.YtimmiidkjpbffaaX35
import Derived.BigQuiet
import Derived.BigRegion
import Derived.ChangeKeysEq
import Derived.Deep.DeepCutAuto
import Derived.Deep.DrawnRows
import Derived.Deep.MidRow
import Derived.Deep.OwnRows
import Derived.Deep.QuietTactic
import Derived.Deep.RegionHeld3
import Derived.Deep.RegionLaw
import Derived.Deep.RegionWith
import Derived.Deep.WholeRow
import Derived.DeepKeys3
import Derived.Great.BuildSlice
import Derived.Laws.AppendOwnNone
import Derived.Laws.BitsLemmas
import Derived.Laws.BytesArg
import Derived.Laws.CopyOwn
import Derived.Laws.OwnMore
import Derived.Laws.ResultCell
import Derived.Laws.Tables
import Derived.Lib.SlBytesConst
import Derived.LoopIn
import Derived.LoopNIn
import Derived.Maps.AppendAt
import Derived.OwnWalkIn
import Derived.RangeFuncBound
import Derived.RangeFuncCalls
import Derived.RangeFuncLeaves
import Derived.RangeFuncNested
import Derived.RangeFuncRecord
import Derived.Recover
import Derived.Shelf.Abstract
import Derived.Shelf.RegionOpen
import Derived.TacticsInMore
import Derived.WalkKit
import Derived.WalkLawsBesides
import Derived.WalkSpells
import Derived.Test.YtimmiidkjpbffaaX42
import Derived.Test.YtimmiidkjpbffaaX44
import Derived.Test.YtimmiidkjpbffaaX45
/- Layer compile: what the layers below give. -/
namespace Go.Proofs.Ytimmiidkjpbffaa
open Go.RowKit
set_option maxRecDepth 100000
set_option linter.unusedVariables false
set_option linter.unusedSimpArgs false

theorem set18 {m : Mc} (h : m.rg.length = 16) (sp : Option Addr) (n cap : Nat) (v : Value) : (mcA m sp n cap).setIfInBounds 18 v = (mcL m v).toArray := by
  simp only [mcA, List.setIfInBounds_toArray]
  rw [mcL, List.set_cons_succ, List.set_append_right _ _ (by rw [by64_len, h]; omega), by64_len, h]
  rfl
set_option maxHeartbeats 1000000 in
/-- Copy: a memory of its own. -/
theorem copy_any (m : Mc) (sp : Option Addr) (n cap : Nat) (N : Nat) (w : World) (hok : m.ok) (hM : MS N w sp n cap m.me) (h0 : 0 < n) :
    Calls Try.prog 37 #[.agg (mcA m sp n cap)] w fun e w' => ∃ gm cap', e = .returned (.agg (mcA m (some ⟨gm, 0, none⟩) n cap')) ∧ w.heap.size ≤ gm ∧ n ≤ cap' ∧ cap' ≤ 9223372036854775807 ∧ MW w' gm m.me ∧ Below w.heap.size w w' := by
  have A0 := (Arr.new w 29 (mcA m sp n cap)).alloc (.cells (mcA zM none 0 0) 29)
  have A1 := Arr.new (w.alloc (.cells (mcA m sp n cap) 29)) 29 (mcA zM none 0 0)
  simp only [World.size_alloc] at A1
  have hs0 := mcA_size hok.r16 sp n cap
  have hsz := mcA_size zM_ok.r16 none 0 0
  have hb0 := (alloc_bel' w (.cells (mcA m sp n cap) 29)).alloc (by simp) (.cells (mcA zM none 0 0) 29)
  have c18A := mcA_18 hok.r16 sp n cap
  have hset : ∀ (cp gm : Nat), (mcA m sp n cap).setIfInBounds 18 (.slice (some ⟨gm, 0, none⟩) n cp) = mcA m (some ⟨gm, 0, none⟩) n cp := fun cp gm => set18 hok.r16 _ _ _ _
  have hM0 := hM.here.below hb0
  obtain ⟨g0, off, rfl, -⟩ := hM.at0 h0
  have hs5 := fun (cp gm : Nat) => mcA_size hok.r16 (some ⟨gm, 0, none⟩) n cp
  have ho5 := fun (cp gm : Nat) => mcA_one m (some ⟨gm, 0, none⟩) n cp
  generalize hC : mcA m (some ⟨g0, off, none⟩) n cap = C at A0 A1 hb0 hset c18A hs0 hM0 ⊢
  clear hC
  obtain ⟨W, hW⟩ : ∃ W : World, W = (w.alloc (.cells C 29)).alloc (.cells (mcA zM none 0 0) 29) := ⟨_, rfl⟩
  have hWs : w.heap.size + 2 ≤ W.heap.size := by rw [hW]; simp
  have hlit : (W.alloc (.cells #[] 25)).ownsRow W.heap.size 25 1 (.slice (some ⟨W.heap.size, 0, none⟩) 0 0) 0 (by64 []) := World.ownsRow_lit _ _ _ (Nat.le_refl _) (by unfold maxLen; omega) rfl
  rw [← hW] at A0 A1 hb0 hM0
  have A0' := A0.alloc (.cells #[] 25)
  have A1' := A1.alloc (.cells #[] 25)
  have d18 := (A0'.cell 18).trans c18A
  have hM1 := (hM0.mono (show w.heap.size ≤ W.heap.size by omega)).below (alloc_bel' W (.cells #[] 25))
  have hB1 : Below w.heap.size w (W.alloc (.cells #[] 25)) := hb0.alloc (by omega) _
  go_enter Try.func37, Try.ntmps37
  go_upto_region 1 with fail
  rw [show mcA zM none 0 0 = #[.int .u64 0, .int .u64 0, .int .u64 0, .int .u64 0, .int .u64 0, .int .u64 0, .int .u64 0, .int .u64 0, .int .u64 0, .int .u64 0, .int .u64 0, .int .u64 0, .int .u64 0, .int .u64 0, .int .u64 0, .int .u64 0, .int .u64 0, .int .u8 0, .slice none 0 0] from rfl] at hW
  rw [← hW]
  clear hW
  go_upto_region 2 with (at_builtin; go_must (refine append_words (by rfl) (.tmp 3) (.tmp 5) (by rfl) W.heap.size _ (by rfl) hlit (some ⟨g0, off, none⟩) n cap m.me (by rfl) hM1 (by simp) ?_; intro v1 w1 hown1 hg1; have hbw : Below W.heap.size W w1 := (alloc_bel' W (.cells #[] 25)).grown hg1 (by simp) (fun k e => by simp [Value.ownBlock] at e; omega); obtain ⟨gm, cap', rfl, -, hgm, hc1, hc2, hMW⟩ := own64 hown1 h0; have A02 := A0.below hbw A0.lt; have A12 := A1.below hbw A1.lt; have d18' := (A02.cell 18).trans c18A; have f18' := A02.frozen 18))
  have B2 : Below w.heap.size w w1 := hb0.trans (hbw.mono hb0.size)
  have A5 : Arr (w1.setCell ⟨w.heap.size, 18, none⟩ (.slice (some ⟨gm, 0, none⟩) n cap')) w.heap.size 29 (mcA m (some ⟨gm, 0, none⟩) n cap') := by have := A02.set 18 (.slice (some ⟨gm, 0, none⟩) n cap'); rw [hset] at this; exact this
  have A15 : Arr (w1.setCell ⟨w.heap.size, 18, none⟩ (.slice (some ⟨gm, 0, none⟩) n cap')) (w.heap.size + 1) 29 (mcA zM none 0 0) := A12.setOther _ (by simp)
  have MW5 : MW (w1.setCell ⟨w.heap.size, 18, none⟩ (.slice (some ⟨gm, 0, none⟩) n cap')) gm m.me := hMW.setOther _ (by show gm ≠ w.heap.size; omega)
  have B5 : Below w.heap.size w (w1.setCell ⟨w.heap.size, 18, none⟩ (.slice (some ⟨gm, 0, none⟩) n cap')) := B2.setCell (Nat.le_refl _) _
  generalize w1.setCell ⟨w.heap.size, 18, none⟩ (.slice (some ⟨gm, 0, none⟩) n cap') = W5 at A5 A15 MW5 B5 ⊢
  have hs5 := hs5 cap' gm
  have ho5 := ho5 cap' gm
  clear A0 A1 A0' A1' d18 A02 A12 d18' f18' hbw hMW hset c18A hlit hM0 hM1 hown1
  go_wp2_with (first
    | (refine ld45 (by rfl) (.tmp 1) (by rfl) w.heap.size (by rfl) _ hs5 A5 ?_)
    | (refine st45 (by rfl) (.tmp 2) (.tmp 8) (by rfl) (w.heap.size + 1) _ (by rfl) (by rfl) hs5 ho5 _ hsz A15 ?_))
  exact bodyPost_ret (v := .agg (mcA m (some ⟨gm, 0, none⟩) n cap')) (res45c Try.results37 rfl hs5 (A15.setRow _)) rfl ⟨gm, cap', rfl, by omega, hc1, hc2, MW5.block (setRow_other _ _ _ _ (by omega)), below_setRow B5 (by omega) _⟩
set_option maxHeartbeats 1000000 in
theorem refRun_no {N : Nat} {es : List En} (m : Mc) (sp : Option Addr) (n cap : Nat) (sq : Option Addr) (nk ck : Nat) (x : Int) (w : World) (hok : m.ok) (hM : MS N w sp n cap m.me) (hS : ES N w sq nk ck es) (hx : -9223372036854775808 ≤ x ∧ x ≤ 9223372036854775807) (hbad : mayM m = false ∨ x < 0 ∨ 4194304 < x) :
    Calls Try.prog 24 #[.agg (mcA m sp n cap), .slice sq nk ck, .int .i64 x] w (RnPost es m x w) := by
  have A0 := (Arr.new w 29 (mcA m sp n cap)).alloc (.cells (mcA zM none 0 0) 29)
  have A1 := Arr.new (w.alloc (.cells (mcA m sp n cap) 29)) 29 (mcA zM none 0 0)
  simp only [World.size_alloc] at A1
  have hs0 := mcA_size hok.r16 sp n cap
  have hsz := mcA_size zM_ok.r16 none 0 0
  have hoz := mcA_one zM none 0 0
  have hb0 := (alloc_bel' w (.cells (mcA m sp n cap) 29)).alloc (by simp) (.cells (mcA zM none 0 0) 29)
  have hmay : ∀ U, Calls Try.prog 22 #[.agg (mcA m sp n cap)] U fun e w' => e = .returned (.bool (mayM m)) ∧ Below U.heap.size U w' := fun U => refMay_anyV m sp n cap U hok hM.len hM.small
  generalize hC : mcA m sp n cap = C at *
  cases hmm : mayM m with
  | false =>
      have hr : rO es m x = (zM, 0, 2) := by simp [rO, hmm]
      replace hr := Hid.mk' hr
      replace hmm := Hid.mk' hmm
      clear hbad
      go_enter Try.func24, Try.ntmps24
      go_wp2_with (first
        | (refine ld45 (by rfl) (.tmp 3) (by rfl) w.heap.size (by rfl) C hs0 A0 ?_)
        | (go_at_call 22; go_must (refine (hmay _).mono ?_; rintro e w1 ⟨rfl, hb1⟩; rw [hmm.out]; have B1 := hb0.trans (hb1.mono (by simp; omega)); have A01 := A0.below hb1 (by simp; omega); have A11 := A1.below hb1 (by simp)))
        | (refine st45 (by rfl) (.tmp 6) (.tmp 18) (by rfl) (w.heap.size + 1) (mcA zM none 0 0) (by rfl) (by rfl) hsz hoz _ hsz A11 ?_))
      exact bodyPost_ret (v := .tuple #[.agg (mcA zM none 0 0), .int .i64 0, .int .i64 2]) (res45 Try.results24 rfl rfl rfl hsz (A11.setRow _)) rfl (rnNo hr.out (below_setRow B1 (by omega) _))
  | true =>
    by_cases hx0 : x < 0
    · have hr : rO es m x = (zM, 0, 2) := by simp [rO, hx0]
      replace hr := Hid.mk' hr
      replace hmm := Hid.mk' hmm
      clear hbad
      go_enter Try.func24, Try.ntmps24
      go_wp2_with (first
        | (refine ld45 (by rfl) (.tmp 3) (by rfl) w.heap.size (by rfl) C hs0 A0 ?_)
        | (go_at_call 22; go_must (refine (hmay _).mono ?_; rintro e w1 ⟨rfl, hb1⟩; rw [hmm.out]; have B1 := hb0.trans (hb1.mono (by simp; omega)); have A01 := A0.below hb1 (by simp; omega); have A11 := A1.below hb1 (by simp)))
        | (refine st45 (by rfl) (.tmp 6) (.tmp 18) (by rfl) (w.heap.size + 1) (mcA zM none 0 0) (by rfl) (by rfl) hsz hoz _ hsz A11 ?_))
      exact bodyPost_ret (v := .tuple #[.agg (mcA zM none 0 0), .int .i64 0, .int .i64 2]) (res45 Try.results24 rfl rfl rfl hsz (A11.setRow _)) rfl (rnNo hr.out (below_setRow B1 (by omega) _))
    · have hx4 : 4194304 < x := by rcases hbad with h | h | h; rw [hmm] at h; cases h; exact absurd h hx0; exact h
      have hr : rO es m x = (zM, 0, 4) := by simp [rO, hmm, hx0, hx4]
      replace hr := Hid.mk' hr
      replace hmm := Hid.mk' hmm
      clear hbad
      go_enter Try.func24, Try.ntmps24
      go_wp2_with (first
        | (refine ld45 (by rfl) (.tmp 3) (by rfl) w.heap.size (by rfl) C hs0 A0 ?_)
        | (go_at_call 22; go_must (refine (hmay _).mono ?_; rintro e w1 ⟨rfl, hb1⟩; rw [hmm.out]; have B1 := hb0.trans (hb1.mono (by simp; omega)); have A01 := A0.below hb1 (by simp; omega); have A11 := A1.below hb1 (by simp)))
        | (refine st45 (by rfl) (.tmp 6) (.tmp 21) (by rfl) (w.heap.size + 1) (mcA zM none 0 0) (by rfl) (by rfl) hsz hoz _ hsz A11 ?_))
      exact bodyPost_ret (v := .tuple #[.agg (mcA zM none 0 0), .int .i64 0, .int .i64 4]) (res45 Try.results24 rfl rfl rfl hsz (A11.setRow _)) rfl (rnNo hr.out (below_setRow B1 (by omega) _))
end Go.Proofs.Ytimmiidkjpbffaa
/- Layer compile: what the layers below give. -/
namespace Go.Proofs.Ytimmiidkjpbffaa
open Go.RowKit
set_option maxRecDepth 100000
set_option linter.unusedVariables false
set_option linter.unusedSimpArgs false

theorem rn_stop {es : List En} {m : Mc} (h : m.st ≠ 0) (k : Nat) : rn es k m = (m, 0) := by
  cases k with
  | zero => rfl
  | succ k => simp [rn, h]
theorem rn_go {es : List En} {m : Mc} (h : m.st = 0) (k : Nat) : rn es (k + 1) m = ((rn es k (tick es m)).1, (rn es k (tick es m)).2 + 1) := by simp [rn, h]
theorem rn_next {es : List En} {m mk : Mc} {F k : Nat} (hk : k < F) (h0 : mk.st = 0) (h : rn es F m = ((rn es (F - k) mk).1, (rn es (F - k) mk).2 + k)) : rn es F m = ((rn es (F - (k + 1)) (tick es mk)).1, (rn es (F - (k + 1)) (tick es mk)).2 + (k + 1)) := by
  rw [h, show F - k = (F - (k + 1)) + 1 by omega, rn_go h0]
  simp only [Prod.mk.injEq, true_and]
  omega
end Go.Proofs.Ytimmiidkjpbffaa
/- Layer compile: a run of the document's machine over four kinds of instructions. -/
namespace Go.Proofs.Ytimmiidkjpbffaa
open Go.RowKit
set_option maxRecDepth 100000
set_option linter.unusedVariables false
set_option linter.unusedSimpArgs false


/-- A machine at an instruction of one of these four kinds. -/
def opS (m : Mc) : Prop := ∃ (pN : Nat) (x : Int), m.pc = (pN : Int) ∧ pN < m.me.length ∧ m.me.getD pN 0 = x ∧ dOk x = true ∧ (dOp x = 1 ∨ dOp x = 2 ∨ dOp x = 17 ∨ dOp x = 18)
section
variable {N : Nat} {es : List En} {g gm n cap : Nat} {sp : Option Addr} {nk ck : Nat} {m : Mc}
theorem do_sm (w : World) (hV : DM N es w g gm n cap sp nk ck m) (hQ : opS m) : Calls Try.prog 46 #[.pointer (some ⟨g, 0, none⟩), .slice sp nk ck] w (DoPost N es g gm n cap sp nk ck m (stp es m) w) := by
  obtain ⟨pN, x, hpN, hpn', hx, hd, ho4⟩ := hQ
  have hpn : pN < n := by rw [hV.en.len.out]; exact hpn'
  have hU : U64 x := by rw [← hx]; exact hV.en.ok.me _
  have hR := dRg hU
  obtain ⟨a, ha⟩ : ∃ k : Nat, dA x = k := ⟨(dA x).toNat, by omega⟩
  obtain ⟨b, hb⟩ : ∃ k : Nat, dB x = k := ⟨(dB x).toNat, by omega⟩
  obtain ⟨c, hc⟩ : ∃ k : Nat, dC x = k := ⟨(dC x).toNat, by omega⟩
  have hst : stp es m = ex es m (dOp x) a b c (dI x) := by
    unfold stp
    rw [hpN, Int.toNat_natCast, hx, hd, ha, hb, hc, if_pos (by rw [← hV.en.len.out]; omega), if_pos rfl]
    simp
  rw [hst]
  obtain ⟨i, hi⟩ : ∃ i, dI x = i := ⟨_, rfl⟩
  obtain ⟨o, ho⟩ : ∃ o, dOp x = o := ⟨_, rfl⟩
  rw [hi, ho]
  rw [ho] at ho4
  rcases ho4 with rfl | rfl | rfl | rfl
  · exact do_1 w hV hpN hpn hx hd ho ha hb hc hi
  · exact do_2 w hV hpN hpn hx hd ho ha hb hc hi
  · exact do_17 w hV hpN hpn hx hd ho ha hb hc hi
  · exact do_18 w hV hpN hpn hx hd ho ha hb hc hi
/-- What Turn comes to. -/
def TuPost (N : Nat) (es : List En) (g gm n cap : Nat) (sp : Option Addr) (nk ck : Nat) (m : Mc) (w : World) (e : Ending) (w' : World) : Prop :=
  e = .returned (.tuple #[]) ∧ Chg (C2 g gm) w w' ∧ w.heap.size ≤ w'.heap.size ∧ DM N es w' g gm n cap sp nk ck (tick es m)
set_option maxHeartbeats 1000000 in
theorem refTurn_sm (w : World) (hQ : opS m) (hV : DM N es w g gm n cap sp nk ck m) (hst : m.st = 0) : Calls Try.prog 38 #[.pointer (some ⟨g, 0, none⟩), .slice sp nk ck] w (TuPost N es g gm n cap sp nk ck m w) := by
  have c17 := hV.en.c17
  rw [hst] at c17
  go_enter Try.func38, Try.ntmps38
  go_wp2_with (go_at_call 46; go_must (refine (do_sm w hV hQ).mono ?_; rintro e w1 ⟨hc1, hs1, ⟨m', hm', rfl, hV1⟩ | ⟨hm', rfl, hV1⟩⟩ <;> (have c17' := hV1.en.c17; have fz' := hV1.en.fz)))
  · have ht : tick es m = m' := by unfold tick; rw [hm']; rfl
    refine bodyPost_ret (v := .tuple #[]) (results_none Try.results38 _ _ _) rfl ⟨rfl, hc1, hs1, ?_⟩
    rw [ht]
    exact hV1
  · have ht : tick es m = { m with st := 2 } := by unfold tick; rw [hm']; rfl
    refine bodyPost_ret (v := .tuple #[]) (results_none Try.results38 _ _ _) rfl ⟨rfl, hc1.g2 _ _, by simpa using hs1, ?_⟩
    rw [ht]
    exact hV1.setSt (x := 2) (by omega)
end
set_option maxHeartbeats 2000000 in
theorem refRun_sm {N : Nat} {es : List En} (m : Mc) (sp : Option Addr) (n cap : Nat) (sq : Option Addr) (nk ck : Nat) (x : Int) (w : World) (hok : m.ok) (hM : MS N w sp n cap m.me) (hS : ES N w sq nk ck es) (hx : -9223372036854775808 ≤ x ∧ x ≤ 9223372036854775807) (hmay1 : mayM m = true) {F : Nat} (hxF : x = (F : Int)) (hF : F ≤ 4194304) {Q : Mc → Prop} (hQ : ∀ u, Q u → u.st = 0 → opS u ∧ Q (tick es u)) (hQm : Q m) :
    Calls Try.prog 24 #[.agg (mcA m sp n cap), .slice sq nk ck, .int .i64 x] w (RnPost es m x w) := by
  subst hxF
  have A0 := (Arr.new w 29 (mcA m sp n cap)).alloc (.cells (mcA zM none 0 0) 29)
  have A1 := Arr.new (w.alloc (.cells (mcA m sp n cap) 29)) 29 (mcA zM none 0 0)
  simp only [World.size_alloc] at A1
  have hs0 := mcA_size hok.r16 sp n cap
  have hsz := mcA_size zM_ok.r16 none 0 0
  have hoz := mcA_one zM none 0 0
  have hb0 := (alloc_bel' w (.cells (mcA m sp n cap) 29)).alloc (by simp) (.cells (mcA zM none 0 0) 29)
  have hmay : ∀ U, Calls Try.prog 22 #[.agg (mcA m sp n cap)] U fun e w' => e = .returned (.bool (mayM m)) ∧ Below U.heap.size U w' := fun U => refMay_anyV m sp n cap U hok hM.len hM.small
  have hsb : szB m.me.length = true := by unfold mayM at hmay1; exact (Bool.and_eq_true_iff.1 hmay1).1
  have hn := szB_le hsb
  rw [← hM.len.out] at hn
  have hn4 : n ≤ 4096 := hn.2
  have hn0 : 0 < n := by omega
  have hl := hM.len
  have hr : rO es m F = ((rn es F m).1, ((rn es F m).2 : Int), 0) := by
    unfold rO
    rw [if_neg (by rw [hmay1]; simp), if_neg (by omega), Int.toNat_natCast]
  replace hr := Hid.mk' hr
  have hmm := Hid.mk' hmay1
  clear hmay1 hsb
  have hf0 : ¬ (F : Int) < 0 := by omega
  have hf1 : ¬ (4194304 : Int) < F := by omega
  have hcopy := fun (U : World) (hU : MS w.heap.size U sp n cap m.me) => copy_any m sp n cap w.heap.size U hok hU hn0
  have hMs := hM.here
  have hSS := hS.here
  have hs9 := fun (cp gm : Nat) => mcA_size hok.r16 (some ⟨gm, 0, none⟩) n cp
  have ho9 := fun (cp gm : Nat) => mcA_one m (some ⟨gm, 0, none⟩) n cp
  generalize hC : mcA m sp n cap = C at A0 A1 hb0 hmay hs0 hcopy ⊢
  clear hC
  go_enter Try.func24, Try.ntmps24
  go_upto_region 6 with (first
      | (refine ld45 (by rfl) (.tmp 3) (by rfl) w.heap.size (by rfl) C hs0 A0 ?_)
      | (go_at_call 22; go_must (refine (hmay _).mono ?_; rintro e w1 ⟨rfl, hb1⟩; rw [hmm.out]; have B1 := hb0.trans (hb1.mono (by simp; omega)); have A01 := A0.below hb1 (by simp; omega); have A11 := A1.below hb1 (by simp)))
      | (refine ld45 (by rfl) (.tmp 3) (by rfl) w.heap.size (by rfl) C hs0 A01 ?_)
      | (go_at_call 37; go_must (refine (hcopy w1 (hMs.below B1)).mono ?_; rintro e w2 ⟨gm, cap', rfl, hgm, hc1, hc2, hMW, hb2⟩; have B2 := B1.trans (hb2.mono B1.size); have A12 := A11.below hb2 A11.lt; have hs9 := hs9 cap' gm; have ho9 := ho9 cap' gm))
      | (refine st45n (by rfl) (.tmp 9) (.tmp 23) (by rfl) w2 w2.heap.size rfl (by rfl) (mcA m (some ⟨gm, 0, none⟩) n cap') (by rfl) (by rfl) hs9 ho9 ?_))
  have hsz1 := hb1.size
  simp only [World.size_alloc] at hsz1
  have hsz2 := hb2.size
  have A9 := Arr.new w2 29 (mcA m (some ⟨gm, 0, none⟩) n cap')
  have A13 := A12.alloc (.cells (mcA m (some ⟨gm, 0, none⟩) n cap') 29)
  have hMl := hMW.lt
  have MW9 : MW (w2.alloc (.cells (mcA m (some ⟨gm, 0, none⟩) n cap') 29)) gm m.me := hMW.below (alloc_bel' _ _) hMl
  have B9 : Below w.heap.size w (w2.alloc (.cells (mcA m (some ⟨gm, 0, none⟩) n cap') 29)) := B2.alloc B2.size _
  obtain ⟨g9, hg9⟩ : ∃ g9, g9 = w2.heap.size := ⟨_, rfl⟩
  have h9m : g9 ≠ gm := by omega
  have h9w : w.heap.size + 1 < g9 := by omega
  have hgmw : w.heap.size + 1 < gm := by omega
  rw [← hg9] at A9 ⊢
  generalize w2.alloc (.cells (mcA m (some ⟨gm, 0, none⟩) n cap') 29) = W9 at A9 A13 MW9 B9 ⊢
  have hV9 : DM w.heap.size es W9 g9 gm n cap' sq nk ck m := ⟨⟨by simpa [mcA] using A9, MW9, h9m, hl, hn4, ⟨hc1, hc2⟩, hok⟩, hSS.below B9, by omega, by omega⟩
  clear A0 A1 hb0 hmay B1 A01 A11 hb1 hb2 hMW B2 A12 hs0 hcopy hg9 A9 MW9 hsz1 hsz2 hMl hs9 ho9 hMs
  have L13 := A13.lt
  go_wp2_with fail
  go_loopw [10] (fun v wr => ∃ (k : Nat) (mk : Mc), v = .int .i64 (k : Int) ∧ k ≤ F ∧ DM w.heap.size es wr g9 gm n cap' sq nk ck mk ∧ Chg (C2 g9 gm) W9 wr ∧ Arr wr (w.heap.size + 1) 29 (mcA zM none 0 0) ∧ Hid (rn es F m = ((rn es (F - k) mk).1, (rn es (F - k) mk).2 + k)) ∧ Q mk)
    (fun v _ => F - (intOf v).toNat)
  case atStart => exact ⟨0, m, rfl, by omega, hV9, Chg.refl _ _, A13, Hid.mk' (by simp), hQm⟩
  case round =>
    clear hV9
    obtain ⟨k, mk, rfl, hk, hVr, hcg, hA, hrn, hQk⟩ := hrel
    have c17 := hVr.en.c17
    by_cases hlt : k < F
    · have hI : (k : Int) < F := by omega
      by_cases hst : mk.st = 0
      · have hst' : (mk.st == 0) = true := by simpa using hst
        have hnx := Hid.mk' (rn_next hlt hst hrn.out)
        have hstH := Hid.mk' hst
        obtain ⟨hQ1, hQ2⟩ := hQ mk hQk hst
        clear hst
        go_wp2_with (go_at_call 38; go_must (refine (refTurn_sm wr hQ1 hVr hstH.out).mono ?_; rintro e w1 ⟨rfl, hc1, hs1, hV1⟩))
        have A1 : Arr w1 (w.heap.size + 1) 29 (mcA zM none 0 0) := (hc1.block _ hA.lt (by rintro (e | e) <;> omega)).trans hA
        go_roundw
        case rel => exact ⟨k + 1, tick es mk, by go_num, by omega, hV1, hcg.trans hc1, A1, hnx, hQ2⟩
        case measure => simp [intOf]; omega
      · have hst' : (mk.st == 0) = false := by simpa using hst
        have hfin : rn es F m = (mk, k) := by rw [hrn.out, rn_stop hst]; simp
        clear hst
        have hEr := hVr.en
        have A9 : Arr wr g9 29 (mcA mk (some ⟨gm, 0, none⟩) n cap') := by have := hEr.eng; simpa [mcA] using this
        have hs9 := mcA_size hEr.ok.r16 (some ⟨gm, 0, none⟩) n cap'
        have ho9 := mcA_one mk (some ⟨gm, 0, none⟩) n cap'
        have hrr := hr.out
        rw [hfin] at hrr
        replace hrr := Hid.mk' hrr
        clear hfin
        have hBr : Below w.heap.size w wr := ⟨hcg.os.trans B9.os, hcg.tape.trans B9.tape, hcg.output.trans B9.output, Nat.le_trans B9.size hcg.size, fun i hi => (hcg.block i (Nat.lt_of_lt_of_le hi B9.size) (by rintro (e | e) <;> omega)).trans (B9.block i hi)⟩
        go_wp2_with (first
          | (refine ld45 (by rfl) (.tmp 9) (by rfl) g9 (by rfl) _ hs9 A9 ?_)
          | (refine st45 (by rfl) (.tmp 6) (.tmp 36) (by rfl) (w.heap.size + 1) _ (by rfl) (by rfl) hs9 ho9 _ hsz hA ?_))
        have MWf : MW (wr.setRow (w.heap.size + 1) (mcA mk (some ⟨gm, 0, none⟩) n cap')) gm mk.me := hEr.mem.block (setRow_other _ _ _ _ (by omega))
        refine bodyPost_ret (v := .tuple #[.agg (mcA mk (some ⟨gm, 0, none⟩) n cap'), .int .i64 (k : Int), .int .i64 0]) (res45 Try.results24 rfl rfl rfl hs9 (hA.setRow _)) rfl ⟨some ⟨gm, 0, none⟩, n, cap', by rw [hrr.out], by rw [hrr.out]; exact hEr.ok, by rw [hrr.out]; exact MWf.ms hEr.len.out (by omega) ⟨hc1, hc2⟩, below_setRow hBr (by omega) _, fun _ => ⟨gm, rfl, by omega, by rw [hrr.out]; exact MWf⟩⟩
    · obtain rfl : k = F := by omega
      have hI : ¬ (k : Int) < k := by omega
      have hfin : rn es k m = (mk, k) := by rw [hrn.out]; simp [rn]
      have hEr := hVr.en
      have A9 : Arr wr g9 29 (mcA mk (some ⟨gm, 0, none⟩) n cap') := by have := hEr.eng; simpa [mcA] using this
      have hs9 := mcA_size hEr.ok.r16 (some ⟨gm, 0, none⟩) n cap'
      have ho9 := mcA_one mk (some ⟨gm, 0, none⟩) n cap'
      have hrr := hr.out
      rw [hfin] at hrr
      replace hrr := Hid.mk' hrr
      clear hfin
      have hBr : Below w.heap.size w wr := ⟨hcg.os.trans B9.os, hcg.tape.trans B9.tape, hcg.output.trans B9.output, Nat.le_trans B9.size hcg.size, fun i hi => (hcg.block i (Nat.lt_of_lt_of_le hi B9.size) (by rintro (e | e) <;> omega)).trans (B9.block i hi)⟩
      go_wp2_with (first
        | (refine ld45 (by rfl) (.tmp 9) (by rfl) g9 (by rfl) _ hs9 A9 ?_)
        | (refine st45 (by rfl) (.tmp 6) (.tmp 36) (by rfl) (w.heap.size + 1) _ (by rfl) (by rfl) hs9 ho9 _ hsz hA ?_))
      have MWf : MW (wr.setRow (w.heap.size + 1) (mcA mk (some ⟨gm, 0, none⟩) n cap')) gm mk.me := hEr.mem.block (setRow_other _ _ _ _ (by omega))
      refine bodyPost_ret (v := .tuple #[.agg (mcA mk (some ⟨gm, 0, none⟩) n cap'), .int .i64 (k : Int), .int .i64 0]) (res45 Try.results24 rfl rfl rfl hs9 (hA.setRow _)) rfl ⟨some ⟨gm, 0, none⟩, n, cap', by rw [hrr.out], by rw [hrr.out]; exact hEr.ok, by rw [hrr.out]; exact MWf.ms hEr.len.out (by omega) ⟨hc1, hc2⟩, below_setRow hBr (by omega) _, fun _ => ⟨gm, rfl, by omega, by rw [hrr.out]; exact MWf⟩⟩
end Go.Proofs.Ytimmiidkjpbffaa
