/- QVu, QVx, QVy, W3. -/
import Derived.Test.YtneihkegipcakaaGreatX01
import Derived.Test.YtneihkegipcakaaGreatX02
import Derived.Test.YtneihkegipcakaaGreatX03
import Derived.Test.YtneihkegipcakaaGreatX05
import Derived.Test.YtneihkegipcakaaGreatX04
import Derived.Test.YtneihkegipcakaaGreatX06
import Derived.Test.YtneihkegipcakaaGreatX07
import Derived.Test.YtneihkegipcakaaGreatX08
import Derived.Test.YtneihkegipcakaaGreatX10
import Derived.Test.YtneihkegipcakaaGreatX11
import Derived.Test.YtneihkegipcakaaGreatX12
import Derived.Test.YtneihkegipcakaaGreatX18
import Derived.BigQuiet
import Derived.BigRegion
import Derived.ChangeKeysEq
import Derived.Deep.DeepCutAuto
import Derived.Deep.DrawnRows
import Derived.Deep.MidRow
import Derived.Deep.QuietTactic
import Derived.Deep.RegionHeld3
import Derived.Deep.RegionLaw
import Derived.Deep.RegionWith
import Derived.Deep.WholeRow
import Derived.DeepKeys3
import Derived.Great.BuildSlice
import Derived.Laws.AppendOwnNone
import Derived.Laws.BitsLemmas
import Derived.Laws.BytesArg
import Derived.Laws.CopyOwn
import Derived.Laws.ResultCell
import Derived.Laws.Tables
import Derived.Lib.SlBytesConst
import Derived.LoopIn
import Derived.LoopNIn
import Derived.Maps.AppendAt
import Derived.OwnWalkIn
import Derived.RangeFuncBound
import Derived.RangeFuncCalls
import Derived.RangeFuncLeaves
import Derived.RangeFuncNested
import Derived.RangeFuncRecord
import Derived.Recover
import Derived.Shelf.Abstract
import Derived.Shelf.RegionOpen
import Derived.TacticsInMore
import Derived.WalkKit
import Derived.WalkLawsBesides
import Derived.WalkSpells
import Derived.Deep.OwnRows
import Derived.Laws.OwnMore
/- Layer trace: what the layers below give. -/
namespace Go.Proofs.YtneihkegipcakaaGreat
open Go.RowKit
set_option maxRecDepth 100000
set_option linter.unusedVariables false
set_option linter.unusedSimpArgs false

theorem list16 {P : List Int → Prop} (h : ∀ x0 x1 x2 x3 x4 x5 x6 x7 x8 x9 x10 x11 x12 x13 x14 x15, P [x0, x1, x2, x3, x4, x5, x6, x7, x8, x9, x10, x11, x12, x13, x14, x15]) (X : List Int) (hX : X.length = 16) : P X := by
  match X, hX with
  | [x0, x1, x2, x3, x4, x5, x6, x7, x8, x9, x10, x11, x12, x13, x14, x15], _ => exact h x0 x1 x2 x3 x4 x5 x6 x7 x8 x9 x10 x11 x12 x13 x14 x15
theorem built81 (m : Mc) (hr : m.rg.length = 16) (sp : Option Addr) (n cap : Nat) (sq : Option Addr) (k c gp : Nat) : Tryz.prog.built 157 [(0, .agg (mcA m sp n cap)), (1, .agg #[.slice sq k c, .map (some gp)])] = some (mcL m (.slice sp n cap) ++ [Value.slice sq k c, Value.map (some gp)]).toArray := by
  obtain ⟨pc, rg, st, me⟩ := m
  exact list16 (P := fun rg => Tryz.prog.built 157 [(0, .agg (mcA ⟨pc, rg, st, me⟩ sp n cap)), (1, .agg #[.slice sq k c, .map (some gp)])] = some (mcL ⟨pc, rg, st, me⟩ (.slice sp n cap) ++ [Value.slice sq k c, Value.map (some gp)]).toArray) (fun x0 x1 x2 x3 x4 x5 x6 x7 x8 x9 x10 x11 x12 x13 x14 x15 => by kernel_rfl) rg hr
theorem size81 : (Tryz.prog.info? 157).map (·.size) = some 21 := by kernel_rfl
theorem enA_size {m : Mc} (hr : m.rg.length = 16) (v a b : Value) : (mcL m v ++ [a, b]).toArray.size = 21 := by rw [List.size_toArray, List.length_append, mcL_len hr]; rfl
theorem enA_one (m : Mc) (sp : Option Addr) (n cap : Nat) (sq : Option Addr) (k c gp : Nat) : (mcL m (.slice sp n cap) ++ [Value.slice sq k c, Value.map (some gp)]).toArray.all (·.oneCell') = true := all_oneCell_toArray (by
  intro v hv
  rcases List.mem_append.1 hv with h | h
  · have := mcA_one m sp n cap
    rw [mcA, Array.all_eq_true_iff_forall_mem] at this
    exact this v (by simpa using h)
  · simp at h
    rcases h with rfl | rfl <;> rfl)
theorem y45 {ops : Array Oper} {S : World → Prop} {op : Oper} {a : Act} (hw : Region.wanted op (yielded ops a.tmps) = true) (x : Operand) (ho : op.op = .load 27 x)
    (g : Nat) (hx : a.eval x = .pointer (some ⟨g, 0, none⟩)) (C : Array Value) (hC : C.size = 19) (hS : ∀ u, S u → Arr u g 27 C) : YieldsIf Tryz.prog ops S op (.agg C) a := by
  have := yieldsIf_load_mid (P := Tryz.prog) (S := S) hw 27 x ho g 0 hx C.toList _ (fun u hu => (fun j v hv => by rw [Nat.zero_add, (hS u hu).cell]; simpa using hv)) Tryz.underlying27 rfl (by rw [Array.length_toList, hC]; exact size45)
  simpa using this
theorem y_bd {ops : Array Oper} {S : World → Prop} {op : Oper} {a : Act} (hw : Region.wanted op (yielded ops a.tmps) = true) (t : TypeId) (parts : Array (Nat × Operand)) (ho : op.op = .build t parts) {ps : List (Nat × Value)} (hp : parts.toList.map (fun p => (p.1, a.eval p.2)) = ps) {C : Array Value} (hb : Tryz.prog.built t ps = some C) : YieldsIf Tryz.prog ops S op (.agg C) a :=
  .inl ⟨hw, fun w _ => by
    have e : (parts.map fun (i, x) => (i, a.eval x)).toList = ps := by rw [Array.toList_map]; exact hp
    unfold execOp
    simp only [ho, Sem.run_bind, run_build w t _ C (by rw [e]; exact hb), Result.andThen_ok, Sem.run_pure]⟩
theorem step_wantV {P : Program} {ops : Array Oper} {o : Oper} {a : Act} {w : World} {K : Act → World → Prop} {Q : Exit → Act → World → Prop} {E : Prop} (hw : Region.wanted o (yielded ops a.tmps) = true) (h : o.wp P a w K Q) : if Region.wanted o (yielded ops a.tmps) = true then o.wp P a w K Q else E := by
  rw [if_pos hw]; exact h
/-- No machine. -/
def zM : Mc := ⟨0, [0, 0, 0, 0, 0, 0, 0, 0, 0, 0, 0, 0, 0, 0, 0, 0], 0, []⟩
theorem zM_rg : ∀ k, k < 16 → zM.rg.getD k 0 = 0 := by decide
theorem zM_ok : zM.ok := ⟨by show (0 : Int) ≤ 0 ∧ (0 : Int) < 18446744073709551616; omega, rfl, fun k => by
  have : zM.rg.getD k 0 = 0 := by
    by_cases h : k < 16
    · exact zM_rg k h
    · rw [List.getD_eq_getElem?_getD, List.getElem?_eq_none (by show 16 ≤ k; omega)]; rfl
  rw [this]; unfold U64; omega, by show (0 : Int) ≤ 0 ∧ (0 : Int) < 256; omega, fun k => by show U64 (([] : List Int).getD k 0); simp [U64]⟩
/-- What Run comes to. -/
def rO (es : List En) (m : Mc) (x : Int) : Mc × Int × Int :=
  if mayM m = false ∨ x < 0 then (zM, 0, 2) else if 4194304 < x then (zM, 0, 4) else ((rn es x.toNat m).1, (rn es x.toNat m).2, 0)
def RnPost (es : List En) (m : Mc) (x : Int) (w : World) (e : Ending) (w' : World) : Prop :=
  ∃ sp n cap, e = .returned (.tuple #[.agg (mcA (rO es m x).1 sp n cap), .int .i64 (rO es m x).2.1, .int .i64 (rO es m x).2.2]) ∧ (rO es m x).1.ok ∧ MS w'.heap.size w' sp n cap (rO es m x).1.me ∧ Below w.heap.size w w' ∧ (0 < n → ∃ gm, sp = some ⟨gm, 0, none⟩ ∧ w.heap.size ≤ gm ∧ MW w' gm (rO es m x).1.me)
theorem rnNo {es : List En} {m : Mc} {x : Int} {w w' : World} {er : Int} (hr : rO es m x = (zM, 0, er)) (hb : Below w.heap.size w w') : RnPost es m x w (.returned (.tuple #[.agg (mcA zM none 0 0), .int .i64 0, .int .i64 er])) w' := by
  refine ⟨none, 0, 0, by rw [hr], by rw [hr]; exact zM_ok, by rw [hr]; exact MS.nil0 _ _, hb, fun h => absurd h (by omega)⟩
set_option maxHeartbeats 1000000 in
theorem run_no {N : Nat} {es : List En} (m : Mc) (sp : Option Addr) (n cap : Nat) (sq : Option Addr) (nk ck : Nat) (x : Int) (w : World) (hok : m.ok) (hM : MS N w sp n cap m.me) (hS : ES N w sq nk ck es) (hx : -9223372036854775808 ≤ x ∧ x ≤ 9223372036854775807) (hbad : mayM m = false ∨ x < 0 ∨ 4194304 < x) :
    Calls Tryz.prog 51 #[.agg (mcA m sp n cap), .slice sq nk ck, .int .i64 x] w (RnPost es m x w) := by
  have A0 := (Arr.new w 27 (mcA m sp n cap)).alloc (.cells (mcA zM none 0 0) 27)
  have A1 := Arr.new (w.alloc (.cells (mcA m sp n cap) 27)) 27 (mcA zM none 0 0)
  simp only [World.size_alloc] at A1
  have hs0 := mcA_size hok.r16 sp n cap
  have hsz := mcA_size zM_ok.r16 none 0 0
  have hoz := mcA_one zM none 0 0
  have hb0 := (alloc_bel' w (.cells (mcA m sp n cap) 27)).alloc (by simp) (.cells (mcA zM none 0 0) 27)
  have hmay : ∀ U, Calls Tryz.prog 26 #[.agg (mcA m sp n cap)] U fun e w' => e = .returned (.bool (mayM m)) ∧ Below U.heap.size U w' := fun U => may_any m sp n cap U hok hM.len hM.small
  generalize hC : mcA m sp n cap = C at *
  cases hmm : mayM m with
  | false =>
    have hr : rO es m x = (zM, 0, 2) := by simp [rO, hmm]
    replace hr := Hid.mk' hr
    replace hmm := Hid.mk' hmm
    clear hbad
    go_enter Tryz.func51, Tryz.ntmps51
    go_wp2_with (first
      | (refine ld45 (by rfl) (.tmp 3) (by rfl) w.heap.size (by rfl) C hs0 A0 ?_)
      | (go_at_call 26; go_must (refine (hmay _).mono ?_; rintro e w1 ⟨rfl, hb1⟩; rw [hmm.out]; have B1 := hb0.trans (hb1.mono (by simp; omega)); have A01 := A0.below hb1 (by simp; omega); have A11 := A1.below hb1 (by simp)))
      | (refine st45 (by rfl) (.tmp 6) (.tmp 17) (by rfl) (w.heap.size + 1) (mcA zM none 0 0) (by rfl) (by rfl) hsz hoz _ hsz A11 ?_))
    exact bodyPost_ret (v := .tuple #[.agg (mcA zM none 0 0), .int .i64 0, .int .i64 2]) (res45 Tryz.results51 rfl rfl rfl hsz (A11.setRow _)) rfl (rnNo hr.out (below_setRow B1 (by omega) _))
  | true =>
    by_cases hx0 : x < 0
    · have hr : rO es m x = (zM, 0, 2) := by simp [rO, hx0]
      replace hr := Hid.mk' hr
      replace hmm := Hid.mk' hmm
      clear hbad
      go_enter Tryz.func51, Tryz.ntmps51
      go_wp2_with (first
        | (refine ld45 (by rfl) (.tmp 3) (by rfl) w.heap.size (by rfl) C hs0 A0 ?_)
        | (go_at_call 26; go_must (refine (hmay _).mono ?_; rintro e w1 ⟨rfl, hb1⟩; rw [hmm.out]; have B1 := hb0.trans (hb1.mono (by simp; omega)); have A01 := A0.below hb1 (by simp; omega); have A11 := A1.below hb1 (by simp)))
        | (refine st45 (by rfl) (.tmp 6) (.tmp 17) (by rfl) (w.heap.size + 1) (mcA zM none 0 0) (by rfl) (by rfl) hsz hoz _ hsz A11 ?_))
      exact bodyPost_ret (v := .tuple #[.agg (mcA zM none 0 0), .int .i64 0, .int .i64 2]) (res45 Tryz.results51 rfl rfl rfl hsz (A11.setRow _)) rfl (rnNo hr.out (below_setRow B1 (by omega) _))

    · have hx4 : 4194304 < x := by rcases hbad with h | h | h; rw [hmm] at h; cases h; exact absurd h hx0; exact h
      have hr : rO es m x = (zM, 0, 4) := by simp [rO, hmm, hx0, hx4]
      replace hr := Hid.mk' hr
      replace hmm := Hid.mk' hmm
      clear hbad
      go_enter Tryz.func51, Tryz.ntmps51
      go_wp2_with (first
        | (refine ld45 (by rfl) (.tmp 3) (by rfl) w.heap.size (by rfl) C hs0 A0 ?_)
        | (go_at_call 26; go_must (refine (hmay _).mono ?_; rintro e w1 ⟨rfl, hb1⟩; rw [hmm.out]; have B1 := hb0.trans (hb1.mono (by simp; omega)); have A01 := A0.below hb1 (by simp; omega); have A11 := A1.below hb1 (by simp)))
        | (refine st45 (by rfl) (.tmp 6) (.tmp 20) (by rfl) (w.heap.size + 1) (mcA zM none 0 0) (by rfl) (by rfl) hsz hoz _ hsz A11 ?_))
      exact bodyPost_ret (v := .tuple #[.agg (mcA zM none 0 0), .int .i64 0, .int .i64 4]) (res45 Tryz.results51 rfl rfl rfl hsz (A11.setRow _)) rfl (rnNo hr.out (below_setRow B1 (by omega) _))
set_option maxHeartbeats 2000000 in
theorem run_ok {N : Nat} {es : List En} (m : Mc) (sp : Option Addr) (n cap : Nat) (sq : Option Addr) (nk ck : Nat) (x : Int) (w : World) (hok : m.ok) (hM : MS N w sp n cap m.me) (hS : ES N w sq nk ck es) (hx : -9223372036854775808 ≤ x ∧ x ≤ 9223372036854775807) (hmay1 : mayM m = true) {F : Nat} (hxF : x = (F : Int)) (hF : F ≤ 4194304) :
    Calls Tryz.prog 51 #[.agg (mcA m sp n cap), .slice sq nk ck, .int .i64 x] w (RnPost es m x w) := by
  subst hxF
  have A0 := (Arr.new w 27 (mcA m sp n cap)).alloc (.cells (mcA zM none 0 0) 27)
  have A1 := Arr.new (w.alloc (.cells (mcA m sp n cap) 27)) 27 (mcA zM none 0 0)
  simp only [World.size_alloc] at A1
  have hs0 := mcA_size hok.r16 sp n cap
  have hsz := mcA_size zM_ok.r16 none 0 0
  have hoz := mcA_one zM none 0 0
  have hb0 := (alloc_bel' w (.cells (mcA m sp n cap) 27)).alloc (by simp) (.cells (mcA zM none 0 0) 27)
  have hmay : ∀ U, Calls Tryz.prog 26 #[.agg (mcA m sp n cap)] U fun e w' => e = .returned (.bool (mayM m)) ∧ Below U.heap.size U w' := fun U => may_any m sp n cap U hok hM.len hM.small
  have hsb : szB m.me.length = true := by unfold mayM at hmay1; exact (Bool.and_eq_true_iff.1 hmay1).1
  have hn := szB_le hsb
  rw [← hM.len.out] at hn
  have hn4 : n ≤ 4096 := hn.2
  have hl := hM.len
  have hxF : (F : Int) = (F : Int) := rfl
  have hr : rO es m F = ((rn es F m).1, ((rn es F m).2 : Int), 0) := by
    unfold rO
    rw [if_neg (by rw [hmay1]; simp), if_neg (by omega), Int.toNat_natCast]
  replace hr := Hid.mk' hr
  have hmm := Hid.mk' hmay1
  clear hmay1 hsb
  have hf0 : ¬ (F : Int) < 0 := by omega
  have hf1 : ¬ (4194304 : Int) < F := by omega
  have c18A := mcA_18 hok.r16 sp n cap
  have hb81 := fun (cp gm gp : Nat) => built81 m hok.r16 (some ⟨gm, 0, none⟩) n cp sq nk ck gp
  have hset : ∀ (cp gm : Nat), (mcA m sp n cap).setIfInBounds 18 (.slice (some ⟨gm, 0, none⟩) n cp) = mcA m (some ⟨gm, 0, none⟩) n cp := fun cp gm => by
    simp only [mcA, List.setIfInBounds_toArray]
    rw [mcL, List.set_cons_succ, List.set_append_right _ _ (by rw [by64_len, hok.r16]; omega), by64_len, hok.r16]
    rfl
  have hsl := hM.here
  have hSS := hS.here
  generalize hC : mcA m sp n cap = C at A0 A1 hb0 hmay hset c18A hs0 ⊢
  replace hC := Hid.mk' hC
  go_enter Tryz.func51, Tryz.ntmps51
  go_upto_region 6 with (first
      | (refine ld45 (by rfl) (.tmp 3) (by rfl) w.heap.size (by rfl) C hs0 A0 ?_)
      | (go_at_call 26; go_must (refine (hmay _).mono ?_; rintro e w1 ⟨rfl, hb1⟩; rw [hmm.out]; have B1 := hb0.trans (hb1.mono (by simp; omega)); have A01 := A0.below hb1 (by simp; omega); have A11 := A1.below hb1 (by simp); have d18 := (A01.cell 18).trans c18A; have f18 := A01.frozen 18))
      | (go_at_call 81; go_must (refine (clone64_any sp n cap m.me _ w1 (hsl.below B1) (by omega)).mono ?_; rintro e w2 ⟨gm, cap', rfl, hgm, hc1, hc2, hMW, hb2⟩; have B2 := B1.trans (hb2.mono B1.size); have A02 := A01.below hb2 A01.lt; have A12 := A11.below hb2 A11.lt; have d18' := (A02.cell 18).trans c18A; have f18' := A02.frozen 18)))
  have hsz1 := hb1.size
  simp only [World.size_alloc] at hsz1
  have hsz2 := hb2.size
  have A5 : Arr (w2.setCell ⟨w.heap.size, 18, none⟩ (.slice (some ⟨gm, 0, none⟩) n cap')) w.heap.size 27 (mcA m (some ⟨gm, 0, none⟩) n cap') := by have := A02.set 18 (.slice (some ⟨gm, 0, none⟩) n cap'); rw [hset] at this; exact this
  have A15 : Arr (w2.setCell ⟨w.heap.size, 18, none⟩ (.slice (some ⟨gm, 0, none⟩) n cap')) (w.heap.size + 1) 27 (mcA zM none 0 0) := A12.setOther _ (by simp)
  have MW5 : MW (w2.setCell ⟨w.heap.size, 18, none⟩ (.slice (some ⟨gm, 0, none⟩) n cap')) gm m.me := hMW.setOther _ (by show gm ≠ w.heap.size; omega)
  have B5 : Below w.heap.size w (w2.setCell ⟨w.heap.size, 18, none⟩ (.slice (some ⟨gm, 0, none⟩) n cap')) := B2.setCell (Nat.le_refl _) _
  generalize w2.setCell ⟨w.heap.size, 18, none⟩ (.slice (some ⟨gm, 0, none⟩) n cap') = W5 at A5 A15 MW5 B5 ⊢
  have hb81 := hb81 cap' gm
  have hgl := MW5.lt
  have hm5 := mcA_size hok.r16 (some ⟨gm, 0, none⟩) n cap'
  clear A0 A1 hb0 hmay B1 A01 A11 d18 f18 A02 A12 d18' f18' hb1 hb2 hMW B2 hset c18A hsl hs0 hC
  have hL5 := A15.lt
  refine wp_region_held_drew (S := fun u => Below W5.heap.size W5 u) (by kernel_rfl) ((Below.refl _ _).drew) (fun hHeld => ?_)
  refine wpAnyH_take (i := 0) (oi := ⟨_, _, _, _, _, _⟩) rfl (by kernel_rfl) (by kernel_rfl) (by kernel_rfl) (fun _ _ _ h => h) (y45 (by rfl) (.tmp 3) rfl w.heap.size rfl (mcA m (some ⟨gm, 0, none⟩) n cap') hm5 (fun u hu => A5.below hu A5.lt)) (by assumption) ?_
  try simp only [Act.put, List.setIfInBounds_toArray, List.set_cons_zero, List.set_cons_succ]
  refine wpAnyH_take (i := 1) (oi := ⟨_, _, _, _, _, _⟩) (v := ?_) rfl (by kernel_rfl) (by kernel_rfl) (by kernel_rfl) (fun _ _ _ h => h) (Or.inl ⟨by rfl, ?_⟩) (by assumption) ?_
  rotate_left
  · intro u hSw
    go_simp
    try (with_reducible rfl)
  try simp only [Act.put, List.setIfInBounds_toArray, List.set_cons_zero, List.set_cons_succ]
  refine wpAnyH_ready (rs := [2, 4]) (by kernel_rfl) (by simp) ?_
  refine AllReadyH.cons (o := ⟨_, _, _, _, _, _⟩) rfl (fun K hK => ?_) (AllReadyH.cons (o := ⟨_, _, _, _, _, _⟩) rfl (fun K hK => ?_) AllReadyH.nil)
  · go_simp
    refine (newShelf_any _ sq nk ck rfl _).mono ?_
    rintro e u ⟨gp, rfl, hgp, hMp, hbu⟩
    have hHu : Below W5.heap.size W5 u := ((Below.refl _ W5).drew).trans (hbu.mono (by simp))
    have hus := hHu.size
    have hgp' : W5.heap.size ≤ gp := hgp
    have hBs := B5.size
    go_wp2_with fail
    refine hK.out _ _ hHu (fun hHeld => ?_)
    clear hK K
    try simp only [Act.put, List.setIfInBounds_toArray, List.set_cons_zero, List.set_cons_succ]
    refine wpAnyH_take (i := 3) (oi := ⟨_, _, _, _, _, _⟩) rfl (by kernel_rfl) (by kernel_rfl) (by kernel_rfl) (fun _ _ _ h => h) (y_bd (by rfl) 157 #[(0, .tmp 25), (1, .tmp 27)] rfl (by rfl) (hb81 gp)) (by assumption) ?_
    try simp only [Act.put, List.setIfInBounds_toArray, List.set_cons_zero, List.set_cons_succ]
    refine wpAnyH_ready (rs := [4]) (by kernel_rfl) (by simp) ?_
    refine AllReadyH.cons (o := ⟨_, _, _, _, _, _⟩) rfl (fun K hK => ?_) AllReadyH.nil
    go_simp
    go_wp2_with fail
    refine hK.out _ _ (hHu.alloc (by omega) _) (fun hHeld => ?_)
    clear hK K
    try simp only [Act.put, List.setIfInBounds_toArray, List.set_cons_zero, List.set_cons_succ]
    refine wpAnyH_ready (rs := [5]) (by kernel_rfl) (by simp) ?_
    refine AllReadyH.cons (o := ⟨_, _, _, _, _, _⟩) rfl (fun K hK => ?_) AllReadyH.nil
    refine step_wantV rfl (wp_store_row 157 (.tmp 9) (.tmp 28) rfl u.heap.size _ rfl rfl 157 _ (Arr.new u 157 _) (by rw [enA_size hok.r16]; exact size81) (by rw [enA_size hok.r16]; rfl) (enA_one _ _ _ _ _ _ _ _) ?_)
    refine hK.out _ _ (below_setRow (hHu.alloc (by omega) _) (by omega) _) (fun hHeld => ?_)
    clear hK K
    try simp only [Act.put, List.setIfInBounds_toArray, List.set_cons_zero, List.set_cons_succ]
    refine wpAnyH_done (by kernel_rfl) ?_ _
    have hgpl := hMp.lt
    have hEN := (Arr.new u 157 #[.int .u64 0, .int .u64 0, .int .u64 0, .int .u64 0, .int .u64 0, .int .u64 0, .int .u64 0, .int .u64 0, .int .u64 0, .int .u64 0, .int .u64 0, .int .u64 0, .int .u64 0, .int .u64 0, .int .u64 0, .int .u64 0, .int .u64 0, .int .u8 0, .slice none 0 0, .slice none 0 0, .map none]).setRow (mcL m (.slice (some ⟨gm, 0, none⟩) n cap') ++ [Value.slice sq nk ck, Value.map (some gp)]).toArray
    have hMW' : MW ((u.alloc (.cells #[.int .u64 0, .int .u64 0, .int .u64 0, .int .u64 0, .int .u64 0, .int .u64 0, .int .u64 0, .int .u64 0, .int .u64 0, .int .u64 0, .int .u64 0, .int .u64 0, .int .u64 0, .int .u64 0, .int .u64 0, .int .u64 0, .int .u64 0, .int .u8 0, .slice none 0 0, .slice none 0 0, .map none] 157)).setRow u.heap.size (mcL m (.slice (some ⟨gm, 0, none⟩) n cap') ++ [Value.slice sq nk ck, Value.map (some gp)]).toArray) gm m.me := ((MW5.below hHu hgl).block (Below.heap_alloc _ _ _ (by omega))).block (setRow_other _ _ _ _ (by omega))
    have hMp' : MapH ((u.alloc (.cells #[.int .u64 0, .int .u64 0, .int .u64 0, .int .u64 0, .int .u64 0, .int .u64 0, .int .u64 0, .int .u64 0, .int .u64 0, .int .u64 0, .int .u64 0, .int .u64 0, .int .u64 0, .int .u64 0, .int .u64 0, .int .u64 0, .int .u64 0, .int .u8 0, .slice none 0 0, .slice none 0 0, .map none] 157)).setRow u.heap.size (mcL m (.slice (some ⟨gm, 0, none⟩) n cap') ++ [Value.slice sq nk ck, Value.map (some gp)]).toArray) gp (fun _ => none) := (hMp.same (Below.heap_alloc _ _ _ hgpl)).same (setRow_other _ _ _ _ (by omega))
    have hBU : Below w.heap.size w ((u.alloc (.cells #[.int .u64 0, .int .u64 0, .int .u64 0, .int .u64 0, .int .u64 0, .int .u64 0, .int .u64 0, .int .u64 0, .int .u64 0, .int .u64 0, .int .u64 0, .int .u64 0, .int .u64 0, .int .u64 0, .int .u64 0, .int .u64 0, .int .u64 0, .int .u8 0, .slice none 0 0, .slice none 0 0, .map none] 157)).setRow u.heap.size (mcL m (.slice (some ⟨gm, 0, none⟩) n cap') ++ [Value.slice sq nk ck, Value.map (some gp)]).toArray) := B5.trans ((below_setRow (hHu.alloc (by omega) _) (by omega) _).mono B5.size)
    have hVM : VM w.heap.size es ((u.alloc (.cells #[.int .u64 0, .int .u64 0, .int .u64 0, .int .u64 0, .int .u64 0, .int .u64 0, .int .u64 0, .int .u64 0, .int .u64 0, .int .u64 0, .int .u64 0, .int .u64 0, .int .u64 0, .int .u64 0, .int .u64 0, .int .u64 0, .int .u64 0, .int .u8 0, .slice none 0 0, .slice none 0 0, .map none] 157)).setRow u.heap.size (mcL m (.slice (some ⟨gm, 0, none⟩) n cap') ++ [Value.slice sq nk ck, Value.map (some gp)]).toArray) u.heap.size gm gp n cap' sq nk ck m := ⟨⟨hEN, hMW', by omega, hl, hn4, ⟨hc1, hc2⟩, hok⟩, hSS.below hBU, ⟨_, hMp', FIV.nil es⟩, ⟨by omega, by omega, by omega⟩, ⟨by omega, by omega⟩⟩
    have A1U : Arr ((u.alloc (.cells #[.int .u64 0, .int .u64 0, .int .u64 0, .int .u64 0, .int .u64 0, .int .u64 0, .int .u64 0, .int .u64 0, .int .u64 0, .int .u64 0, .int .u64 0, .int .u64 0, .int .u64 0, .int .u64 0, .int .u64 0, .int .u64 0, .int .u64 0, .int .u8 0, .slice none 0 0, .slice none 0 0, .map none] 157)).setRow u.heap.size (mcL m (.slice (some ⟨gm, 0, none⟩) n cap') ++ [Value.slice sq nk ck, Value.map (some gp)]).toArray) (w.heap.size + 1) 27 (mcA zM none 0 0) := ((A15.below hHu (by omega)).alloc _).setRowOther _ (by omega)
    generalize hUU : ((u.alloc (.cells #[.int .u64 0, .int .u64 0, .int .u64 0, .int .u64 0, .int .u64 0, .int .u64 0, .int .u64 0, .int .u64 0, .int .u64 0, .int .u64 0, .int .u64 0, .int .u64 0, .int .u64 0, .int .u64 0, .int .u64 0, .int .u64 0, .int .u64 0, .int .u8 0, .slice none 0 0, .slice none 0 0, .map none] 157)).setRow u.heap.size (mcL m (.slice (some ⟨gm, 0, none⟩) n cap') ++ [Value.slice sq nk ck, Value.map (some gp)]).toArray) = U at hVM A1U
    have hBU' : Below w.heap.size w U := by rw [← hUU]; exact hBU
    clear hUU hEN hMW' hMp' hBU
    go_wp2_with (first
      | (go_at_call 83; go_must (refine (run_any U hVM (F := F) rfl hF).mono ?_; rintro e u3 ⟨rfl, hcg, hV3⟩; have A13 := hVM.oth A1U (by decide) (by decide) hcg; have hB3 := hBU'.trans (hcg.low (by have := hBU'.size; omega) (fun k hk hs => by rcases hs with e | e | e <;> omega)); have hE3 := hV3.en; have hr3 : u3.rangeAt u.heap.size 0 (mcL (rn es F m).1 (.slice (some ⟨gm, 0, none⟩) n cap')) := (fun j v hv => by rw [Nat.zero_add, hE3.eng.cell, List.getElem?_toArray, List.getElem?_append_left (List.getElem?_eq_some_iff.1 hv).1]; exact hv)))
      | (refine wpList_load_mid (by rfl) 27 (.tmp 31) (by rfl) u.heap.size 0 (by rfl) (mcL (rn es F m).1 (.slice (some ⟨gm, 0, none⟩) n cap')) _ hr3 Tryz.underlying27 rfl (by rw [mcL_len hE3.ok.r16]; exact size45) ?_)
      | (refine st45 (by rfl) (.tmp 6) (.tmp 32) (by rfl) (w.heap.size + 1) (mcA (rn es F m).1 (some ⟨gm, 0, none⟩) n cap') (by rfl) (by rfl) (mcA_size hE3.ok.r16 _ _ _) (mcA_one _ _ _ _) _ hsz A13 ?_))
    refine bodyPost_ret (v := .tuple #[.agg (mcA (rn es F m).1 (some ⟨gm, 0, none⟩) n cap'), .int .i64 ((rn es F m).2 : Int), .int .i64 0]) (res45 Tryz.results51 rfl rfl rfl (mcA_size hE3.ok.r16 _ _ _) (A13.setRow _)) rfl ?_
    have hMWf : MW (u3.setRow (w.heap.size + 1) (mcA (rn es F m).1 (some ⟨gm, 0, none⟩) n cap')) gm (rn es F m).1.me := hE3.mem.block (setRow_other _ _ _ _ (by omega))
    exact ⟨some ⟨gm, 0, none⟩, n, cap', by rw [hr.out], by rw [hr.out]; exact hE3.ok, by rw [hr.out]; exact hMWf.ms hE3.len.out (by omega) ⟨hc1, hc2⟩, below_setRow hB3 (by omega) _, fun _ => ⟨gm, rfl, by omega, by rw [hr.out]; exact hMWf⟩⟩
  · go_simp
    go_wp2_with fail
    refine hK.out _ _ (((Below.refl W5.heap.size W5).drew).alloc (by simp) _) (fun hHeld => ?_)
    clear hK K
    try simp only [Act.put, List.setIfInBounds_toArray, List.set_cons_zero, List.set_cons_succ]
    refine wpAnyH_ready (rs := [2]) (by kernel_rfl) (by simp) ?_
    refine AllReadyH.cons (o := ⟨_, _, _, _, _, _⟩) rfl (fun K hK => ?_) AllReadyH.nil
    go_simp
    refine (newShelf_any _ sq nk ck rfl _).mono ?_
    rintro e u ⟨gp, rfl, hgp, hMp, hbu⟩
    have hHu : Below W5.heap.size W5 u := (((Below.refl W5.heap.size W5).drew).alloc (by simp) _).trans (hbu.mono (by simp))
    have hZu := (Arr.new W5.drew 157 #[.int .u64 0, .int .u64 0, .int .u64 0, .int .u64 0, .int .u64 0, .int .u64 0, .int .u64 0, .int .u64 0, .int .u64 0, .int .u64 0, .int .u64 0, .int .u64 0, .int .u64 0, .int .u64 0, .int .u64 0, .int .u64 0, .int .u64 0, .int .u8 0, .slice none 0 0, .slice none 0 0, .map none]).below hbu (by simp)
    have hus := hbu.size
    try simp only [World.size_alloc] at hus
    try simp only [World.size_alloc] at hgp
    go_wp2_with fail
    refine hK.out _ _ hHu (fun hHeld => ?_)
    clear hK K
    try simp only [Act.put, List.setIfInBounds_toArray, List.set_cons_zero, List.set_cons_succ]
    refine wpAnyH_take (i := 3) (oi := ⟨_, _, _, _, _, _⟩) rfl (by kernel_rfl) (by kernel_rfl) (by kernel_rfl) (fun _ _ _ h => h) (y_bd (by rfl) 157 #[(0, .tmp 25), (1, .tmp 27)] rfl (by rfl) (hb81 gp)) (by assumption) ?_
    try simp only [Act.put, List.setIfInBounds_toArray, List.set_cons_zero, List.set_cons_succ]
    refine wpAnyH_ready (rs := [5]) (by kernel_rfl) (by simp) ?_
    refine AllReadyH.cons (o := ⟨_, _, _, _, _, _⟩) rfl (fun K hK => ?_) AllReadyH.nil
    refine step_wantV rfl (wp_store_row 157 (.tmp 9) (.tmp 28) rfl W5.heap.size _ rfl rfl 157 _ hZu (by rw [enA_size hok.r16]; exact size81) (by rw [enA_size hok.r16]; rfl) (enA_one _ _ _ _ _ _ _ _) ?_)
    refine hK.out _ _ (below_setRow hHu (Nat.le_refl _) _) (fun hHeld => ?_)
    clear hK K
    try simp only [Act.put, List.setIfInBounds_toArray, List.set_cons_zero, List.set_cons_succ]
    refine wpAnyH_done (by kernel_rfl) ?_ _
    have hgpl := hMp.lt
    have hgp' : W5.heap.size + 1 ≤ gp := by simpa using hgp
    have hBs := B5.size
    have hEN := hZu.setRow (mcL m (.slice (some ⟨gm, 0, none⟩) n cap') ++ [Value.slice sq nk ck, Value.map (some gp)]).toArray
    have hMW' : MW (u.setRow W5.heap.size (mcL m (.slice (some ⟨gm, 0, none⟩) n cap') ++ [Value.slice sq nk ck, Value.map (some gp)]).toArray) gm m.me := (MW5.below hHu hgl).block (setRow_other _ _ _ _ (by omega))
    have hMp' : MapH (u.setRow W5.heap.size (mcL m (.slice (some ⟨gm, 0, none⟩) n cap') ++ [Value.slice sq nk ck, Value.map (some gp)]).toArray) gp (fun _ => none) := hMp.same (setRow_other _ _ _ _ (by omega))
    have hBU : Below w.heap.size w (u.setRow W5.heap.size (mcL m (.slice (some ⟨gm, 0, none⟩) n cap') ++ [Value.slice sq nk ck, Value.map (some gp)]).toArray) := B5.trans ((below_setRow hHu (Nat.le_refl _) _).mono B5.size)
    have hVM : VM w.heap.size es (u.setRow W5.heap.size (mcL m (.slice (some ⟨gm, 0, none⟩) n cap') ++ [Value.slice sq nk ck, Value.map (some gp)]).toArray) W5.heap.size gm gp n cap' sq nk ck m := ⟨⟨hEN, hMW', by omega, hl, hn4, ⟨hc1, hc2⟩, hok⟩, hSS.below hBU, ⟨_, hMp', FIV.nil es⟩, ⟨by have := B5.size; omega, by omega, by omega⟩, ⟨by omega, by omega⟩⟩
    have A1U : Arr (u.setRow W5.heap.size (mcL m (.slice (some ⟨gm, 0, none⟩) n cap') ++ [Value.slice sq nk ck, Value.map (some gp)]).toArray) (w.heap.size + 1) 27 (mcA zM none 0 0) := (A15.below hHu (by omega)).setRowOther _ (by omega)
    generalize hUU : (u.setRow W5.heap.size (mcL m (.slice (some ⟨gm, 0, none⟩) n cap') ++ [Value.slice sq nk ck, Value.map (some gp)]).toArray) = U at hVM A1U
    have hBU' : Below w.heap.size w U := by rw [← hUU]; exact hBU
    clear hUU hEN hMW' hMp' hBU
    go_wp2_with (first
      | (go_at_call 83; go_must (refine (run_any U hVM (F := F) rfl hF).mono ?_; rintro e u3 ⟨rfl, hcg, hV3⟩; have A13 := hVM.oth A1U (by decide) (by decide) hcg; have hB3 := hBU'.trans (hcg.low (by have := hBU'.size; omega) (fun k hk hs => by rcases hs with e | e | e <;> omega)); have hE3 := hV3.en; have hr3 : u3.rangeAt W5.heap.size 0 (mcL (rn es F m).1 (.slice (some ⟨gm, 0, none⟩) n cap')) := (fun j v hv => by rw [Nat.zero_add, hE3.eng.cell, List.getElem?_toArray, List.getElem?_append_left (List.getElem?_eq_some_iff.1 hv).1]; exact hv)))
      | (refine wpList_load_mid (by rfl) 27 (.tmp 31) (by rfl) W5.heap.size 0 (by rfl) (mcL (rn es F m).1 (.slice (some ⟨gm, 0, none⟩) n cap')) _ hr3 Tryz.underlying27 rfl (by rw [mcL_len hE3.ok.r16]; exact size45) ?_)
      | (refine st45 (by rfl) (.tmp 6) (.tmp 32) (by rfl) (w.heap.size + 1) (mcA (rn es F m).1 (some ⟨gm, 0, none⟩) n cap') (by rfl) (by rfl) (mcA_size hE3.ok.r16 _ _ _) (mcA_one _ _ _ _) _ hsz A13 ?_))
    refine bodyPost_ret (v := .tuple #[.agg (mcA (rn es F m).1 (some ⟨gm, 0, none⟩) n cap'), .int .i64 ((rn es F m).2 : Int), .int .i64 0]) (res45 Tryz.results51 rfl rfl rfl (mcA_size hE3.ok.r16 _ _ _) (A13.setRow _)) rfl ?_
    have hMWf : MW (u3.setRow (w.heap.size + 1) (mcA (rn es F m).1 (some ⟨gm, 0, none⟩) n cap')) gm (rn es F m).1.me := hE3.mem.block (setRow_other _ _ _ _ (by omega))
    exact ⟨some ⟨gm, 0, none⟩, n, cap', by rw [hr.out], by rw [hr.out]; exact hE3.ok, by rw [hr.out]; exact hMWf.ms hE3.len.out (by omega) ⟨hc1, hc2⟩, below_setRow hB3 (by omega) _, fun _ => ⟨gm, rfl, by omega, by rw [hr.out]; exact hMWf⟩⟩
end Go.Proofs.YtneihkegipcakaaGreat
/- Layer trace: what the layers below give. -/
namespace Go.Proofs.YtneihkegipcakaaGreat
open Go.RowKit
set_option maxRecDepth 100000
set_option linter.unusedVariables false
set_option linter.unusedSimpArgs false

/-- An instruction, as numbers. -/
structure Cd where
  o : Int
  a : Int
  b : Int
  c : Int
  i : Int
def Cd.arr (c : Cd) : Array Value := cdA c.o c.a c.b c.c c.i
def Cd.wd (c : Cd) : Int := wdI c.o c.a c.b c.c c.i
structure Cd.ok (x : Cd) : Prop where
  o : 0 ≤ x.o ∧ x.o < 256
  a : 0 ≤ x.a ∧ x.a < 256
  b : 0 ≤ x.b ∧ x.b < 256
  c : 0 ≤ x.c ∧ x.c < 256
  i : 0 ≤ x.i ∧ x.i < 4294967296
/-- Instructions in memory. -/
structure CS (N : Nat) (w : World) (sp : Option Addr) (n cap : Nat) (cs : List Cd) : Prop where
  len : Hid (n = cs.length)
  nil : sp = none → n = 0 ∧ cap = 0
  le : n ≤ cap
  big : cap ≤ 9223372036854775807
  small : n ≤ 140737488355328
  at0 : 0 < n → ∃ g off, sp = some ⟨g, off, none⟩ ∧ g < N ∧ ∀ i e, cs[i]? = some e → w.rangeAt g (off + i * 5) e.arr.toList
  ok : ∀ e ∈ cs, e.ok
theorem CS.below {N : Nat} {w w' : World} {sp : Option Addr} {n cap : Nat} {cs : List Cd} (h : CS N w sp n cap cs) (hb : Below N w w') : CS N w' sp n cap cs :=
  ⟨h.len, h.nil, h.le, h.big, h.small, fun h0 => let ⟨b, off, e, hbN, hB⟩ := h.at0 h0; ⟨b, off, e, hbN, fun i X hX => range_below (hB i X hX) hb hbN⟩, h.ok⟩
theorem CS.here {N : Nat} {w : World} {sp : Option Addr} {n cap : Nat} {cs : List Cd} (h : CS N w sp n cap cs) : CS w.heap.size w sp n cap cs :=
  ⟨h.len, h.nil, h.le, h.big, h.small, fun h0 => by
    obtain ⟨b, off, e, hbN, hB⟩ := h.at0 h0
    refine ⟨b, off, e, ?_, hB⟩
    have hl : 0 < cs.length := by rw [← h.len.out]; exact h0
    exact block_lt_of_cell (hB 0 cs[0] (List.getElem?_eq_getElem hl) 0 _ rfl), h.ok⟩
/-- The words of a machine that is loaded. -/
def ldW (x : Nat) (cs : List Cd) (ds : List Int) : List Int := cs.map Cd.wd ++ (ds ++ List.replicate (x - (cs.length + ds.length)) 0)
def lO (x : Int) (cs : List Cd) (ds : List Int) : Mc × Int :=
  if szI x = false then (zM, 2) else if x < cs.length + ds.length then (zM, 4) else ({ zM with me := ldW x.toNat cs ds }, 0)
theorem ldW_len {x : Nat} {cs : List Cd} {ds : List Int} (h : cs.length + ds.length ≤ x) : (ldW x cs ds).length = x := by simp [ldW]; omega
theorem Cd.ok.wd {c : Cd} (h : c.ok) : U64 c.wd := wdI_u h.o h.i
theorem ldW_get {x : Nat} {cs : List Cd} {ds : List Int} (h : cs.length + ds.length ≤ x) (t : Nat) : (ldW x cs ds).getD t 0 = if h : t < cs.length then cs[t].wd else if t < cs.length + ds.length then ds.getD (t - cs.length) 0 else 0 := by
  unfold ldW
  rw [List.getD_eq_getElem?_getD]
  by_cases h1 : t < cs.length
  · rw [dif_pos h1, List.getElem?_append_left (by simpa using h1)]
    simp [h1]
  · rw [dif_neg h1, List.getElem?_append_right (by simp; omega), List.length_map]
    by_cases h2 : t < cs.length + ds.length
    · rw [if_pos h2, List.getElem?_append_left (by omega), List.getD_eq_getElem?_getD]
    · rw [if_neg h2, List.getElem?_append_right (by omega), List.getElem?_replicate]
      split <;> rfl
theorem ldW_u {x : Nat} {cs : List Cd} {ds : List Int} (h : cs.length + ds.length ≤ x) (hc : ∀ e ∈ cs, e.ok) (hd : ∀ k, U64 (ds.getD k 0)) (t : Nat) : U64 ((ldW x cs ds).getD t 0) := by
  rw [ldW_get h]
  split
  · exact (hc _ (List.getElem_mem _)).wd
  · split
    · exact hd _
    · unfold U64; omega
/-- What Load answers. -/
def LdPost (x : Int) (cs : List Cd) (ds : List Int) (w : World) (e : Ending) (w' : World) : Prop :=
  ∃ sp n cap, e = .returned (.tuple #[.agg (mcA (lO x cs ds).1 sp n cap), .int .i64 (lO x cs ds).2]) ∧ (lO x cs ds).1.ok ∧ MS w'.heap.size w' sp n cap (lO x cs ds).1.me ∧ Below w.heap.size w w'
theorem ldNo {x : Int} {cs : List Cd} {ds : List Int} {w w' : World} {er : Int} (hr : lO x cs ds = (zM, er)) (hb : Below w.heap.size w w') : LdPost x cs ds w (.returned (.tuple #[.agg (mcA zM none 0 0), .int .i64 er])) w' :=
  ⟨none, 0, 0, by rw [hr], by rw [hr]; exact zM_ok, by rw [hr]; exact MS.nil0 _ _, hb⟩
theorem ldYes {x : Int} {X : Nat} {cs : List Cd} {ds : List Int} {w w' : World} {g : Nat} (hr : lO x cs ds = ({ zM with me := ldW X cs ds }, 0)) (hok : Mc.ok { zM with me := ldW X cs ds }) (hM : MW w' g (ldW X cs ds)) (hl : X = (ldW X cs ds).length) (hX : X ≤ 4096) (hb : Below w.heap.size w w') : LdPost x cs ds w (.returned (.tuple #[.agg (mcA { zM with me := ldW X cs ds } (some ⟨g, 0, none⟩) X X), .int .i64 0])) w' :=
  ⟨some ⟨g, 0, none⟩, X, X, by rw [hr], by rw [hr]; exact hok, by rw [hr]; exact hM.ms hl (by omega) ⟨Nat.le_refl _, by omega⟩, hb⟩
theorem built45 (sp : Option Addr) (n cap : Nat) (me : List Int) : Tryz.prog.built 27 [(3, .slice sp n cap)] = some (mcA { zM with me := me } sp n cap) := by kernel_rfl
theorem refwdc_any (e : Cd) (h : e.ok) (w : World) : Calls Tryz.prog 45 #[.agg e.arr] w fun r w' => r = .returned (.int .u64 e.wd) ∧ Below w.heap.size w w' := refWord_any w h.o h.a h.b h.c h.i
/-- The first k words laid. -/
def lay (x : Nat) (cs : List Cd) (k : Nat) : List Int := (cs.take k).map Cd.wd ++ List.replicate (x - k) 0
theorem lay_zero (x : Nat) (cs : List Cd) : lay x cs 0 = List.replicate x 0 := by simp [lay]
theorem lay_len {x k : Nat} {cs : List Cd} (h : k ≤ cs.length) (hx : cs.length ≤ x) : (lay x cs k).length = x := by simp [lay]; omega
theorem lay_set {x k : Nat} {cs : List Cd} {e : Cd} (he : cs[k]? = some e) (hx : cs.length ≤ x) : (lay x cs k).set k e.wd = lay x cs (k + 1) := by
  have hk := (List.getElem?_eq_some_iff.1 he).1
  unfold lay
  rw [List.set_append_right _ _ (by simp; omega), List.take_add_one, he]
  simp only [List.length_map, List.length_take, Nat.min_eq_left (Nat.le_of_lt hk), Nat.sub_self, List.map_append, Option.toList_some, List.map_cons, List.map_nil, List.append_assoc]
  rw [show x - k = (x - (k + 1)) + 1 by omega, List.replicate_succ, List.set_cons_zero]
  rfl
theorem lay_all {x : Nat} {cs : List Cd} (hx : cs.length ≤ x) : lay x cs cs.length = ldW x cs [] := by simp [lay, ldW]
theorem made_mw (w : World) (n : Nat) : MW (w.alloc (.cells (madeCells #[.int .u64 0] n) 22)) w.heap.size (List.replicate n 0) :=
  ⟨_, Arr.new w 22 _, fun t ht => by
    have ht' : t < n := by simpa using ht
    rw [← Array.getElem?_toList, toList_madeCells_one]
    simp [List.getD_eq_getElem?_getD, ht']⟩
theorem wp_bdT {o : Oper} {a : Act} {w : World} {K : Act → World → Prop} {Q : Exit → Act → World → Prop} (t : TypeId) (parts : Array (Nat × Operand)) (ho : o.op = .build t parts) {ps : List (Nat × Value)} (hp : parts.toList.map (fun p => (p.1, a.eval p.2)) = ps) {C : Array Value} (hb : Tryz.prog.built t ps = some C)
    (h : K (a.put o.dst (.agg C)) w) : o.wp Tryz.prog a w K Q := by
  have e : (parts.map fun (i, x) => (i, a.eval x)).toList = ps := by rw [Array.toList_map]; exact hp
  refine wp_build t parts ho (by rw [e, hb]; rfl) ?_
  rw [e, hb]; exact h
theorem ldW_splice {X : Nat} {cs : List Cd} {ds : List Int} {C : Array Value} (h : cs.length + ds.length ≤ X) (hC : ∀ t, t < (lay X cs cs.length).length → C[t]? = some (.int .u64 ((lay X cs cs.length).getD t 0))) :
    ∀ t, t < (ldW X cs ds).length → (C.toList.take cs.length ++ (by64 ds ++ C.toList.drop (cs.length + (by64 ds).length))).toArray[t]? = some (.int .u64 ((ldW X cs ds).getD t 0)) := by
  intro t ht
  rw [ldW_len h] at ht
  rw [lay_len (Nat.le_refl _) (by omega)] at hC
  have hsz : X ≤ C.size := by
    by_cases h0 : 0 < X
    · have := (Array.getElem?_eq_some_iff.1 (hC (X - 1) (by omega))).1
      omega
    · omega
  have ht0 : (C.toList.take cs.length).length = cs.length := by
    have e : C.toList.length = C.size := Array.length_toList
    rw [List.length_take, e]; exact Nat.min_eq_left (by omega)
  have hg := hC t ht
  rw [lay_all (by omega), ldW_get (by simp; omega)] at hg
  rw [ldW_get h, List.getElem?_toArray]
  by_cases h1 : t < cs.length
  · rw [dif_pos h1] at hg ⊢
    rw [List.getElem?_append_left (by rw [ht0]; exact h1), List.getElem?_take_of_lt h1, Array.getElem?_toList]
    exact hg
  · rw [dif_neg h1] at hg ⊢
    rw [if_neg (by simp; omega)] at hg
    rw [List.getElem?_append_right (by rw [ht0]; omega), ht0]
    by_cases h2 : t < cs.length + ds.length
    · rw [if_pos h2, List.getElem?_append_left (by rw [by64_len]; omega)]
      exact by64_get (by omega)
    · rw [if_neg h2, List.getElem?_append_right (by rw [by64_len]; omega), List.getElem?_drop, Array.getElem?_toList, by64_len]
      rw [show cs.length + ds.length + (t - cs.length - ds.length) = t by omega]
      exact hg
end Go.Proofs.YtneihkegipcakaaGreat
/- Layer trace: what the layers below give. -/
namespace Go.Proofs.YtneihkegipcakaaGreat
open Go.RowKit
set_option maxRecDepth 100000
set_option linter.unusedVariables false
set_option linter.unusedSimpArgs false

theorem run23_any {N : Nat} {es : List En} (m : Mc) (sp : Option Addr) (n cap : Nat) (sq : Option Addr) (nk ck : Nat) (x : Int) (w : World) (hok : m.ok) (hM : MS N w sp n cap m.me) (hS : ES N w sq nk ck es) (hx : -9223372036854775808 ≤ x ∧ x ≤ 9223372036854775807) :
    Calls Tryz.prog 51 #[.agg (mcA m sp n cap), .slice sq nk ck, .int .i64 x] w (RnPost es m x w) := by
  by_cases h : mayM m = false ∨ x < 0 ∨ 4194304 < x
  · exact run_no m sp n cap sq nk ck x w hok hM hS hx h
  · exact run_ok m sp n cap sq nk ck x w hok hM hS hx (by cases hm : mayM m with | true => rfl | false => exact absurd (.inl hm) h) (F := x.toNat) (by omega) (by omega)
end Go.Proofs.YtneihkegipcakaaGreat
/- Layer trace: the machine behind k steps. -/
namespace Go.Proofs.YtneihkegipcakaaGreat
open Go.RowKit
set_option maxRecDepth 100000
set_option linter.unusedVariables false
set_option linter.unusedSimpArgs false


theorem MS.sr {N : Nat} {w : World} {sp : Option Addr} {n cap : Nat} {L : List Int} (h : MS N w sp n cap L) {g : Nat} (hne : ∀ b off, sp = some ⟨b, off, none⟩ → 0 < n → b ≠ g) (D : Array Value) : MS N (w.setRow g D) sp n cap L :=
  ⟨h.len, h.nil, h.le, h.big, h.small, fun h0 => let ⟨b, off, e, hb, hB⟩ := h.at0 h0; ⟨b, off, e, hb, fun t ht => by
    rw [World.cell?_of_block (setRow_other w g b D (hne b off e h0))]; exact hB t ht⟩⟩
theorem hmw_ne {v : World} {sp : Option Addr} {n g ty : Nat} {L : List Int} {C : Array Value} {B : Nat} (h : 0 < n → ∃ gm, sp = some ⟨gm, 0, none⟩ ∧ B ≤ gm ∧ MW v gm L) (hA : Arr v g ty C) (ht : ty ≠ 22) : ∀ b off, sp = some ⟨b, off, none⟩ → 0 < n → b ≠ g := by
  rintro b off e h0 rfl
  obtain ⟨gm, e2, -, D, hD, -⟩ := h h0
  rw [e] at e2
  simp at e2
  obtain ⟨rfl, -⟩ := e2
  unfold Arr at hA hD
  rw [hA] at hD
  simp at hD
  exact ht hD.2
/-- What is left where a machine is told. -/
def MaP (m : Mc) (w : World) (e : Ending) (w' : World) : Prop := ∃ sp n cap, e = .returned (.agg (mcA m sp n cap)) ∧ m.ok ∧ MS w'.heap.size w' sp n cap m.me ∧ Below w.heap.size w w'
set_option maxHeartbeats 4000000 in
theorem machine_any {w : World} {g gt gm c : Nat} {most len : Int} {m : Mc} {sp : Option Addr} {n cap : Nat} (A : Arr w g 84 (tcA most len gt gm c)) (hok : m.ok) (hMS : MS w.heap.size w sp n cap m.me) (hM : w.rangeAt gt 0 (mcA m sp n cap).toList) (hgt : gt < w.heap.size) (hc : 1 ≤ c)
    (q : Int) (hq : q ≤ len) (h0 : 0 ≤ q) (h1 : q < 1024) (hl : 0 ≤ len ∧ len ≤ 262144) :
    Calls Tryz.prog 32 #[.pointer (some ⟨g, 0, none⟩), .int .i64 q] w (MaP (rO [] m q).1 w) := by
  have hmn : (if len < q then len else q) = q := if_neg (by omega)
  have hr := hok.r16
  have hsz := mcA_size hr sp n cap
  have hone := mcA_one m sp n cap
  have hlt := A.lt
  have h54 := fun (u : World) (hb : Below w.heap.size w u) => upTo_any (A.below hb hlt) hr (fun j v hv => (hb.cell (p := ⟨gt, 0 + j, none⟩) hgt).trans (hM j v hv)) (Nat.lt_of_lt_of_le hgt hb.size) q h0 h1 hc
  have h51 := fun (u : World) (hb : Below w.heap.size w u) => run23_any (N := w.heap.size) (es := []) m sp n cap none 0 0 q u hok (hMS.below hb) (ES.nil0 _ _) (by omega)
  unfold RnPost at h51
  unfold MaP
  obtain ⟨m1, hm1⟩ : ∃ x, x = (rO [] m q).1 := ⟨_, rfl⟩
  rw [← hm1] at h51 ⊢
  generalize (rO [] m q).2.1 = x1 at *
  generalize (rO [] m q).2.2 = x2 at *
  have c0 := A.cell 0
  have c2 := A.cell 2
  have c1 := A.cell 1
  unfold tcA at c0 c1 c2
  have hS0 : ∀ u, Below w.heap.size w u → u.cell? ⟨g, 0, none⟩ = some (.slice none 0 0) ∧ u.cell? ⟨g, 2, none⟩ = some (.int .i64 len) ∧ u.cell? ⟨g, 1, none⟩ = some (.int .i64 most) := fun u hb => ⟨(hb.cell (p := ⟨g, 0, none⟩) hlt).trans c0, (hb.cell (p := ⟨g, 2, none⟩) hlt).trans c2, (hb.cell (p := ⟨g, 1, none⟩) hlt).trans c1⟩
  have b0 := alloc_bel' w (.cells #[.int .u64 0, .int .u64 0, .int .u64 0, .int .u64 0, .int .u64 0, .int .u64 0, .int .u64 0, .int .u64 0, .int .u64 0, .int .u64 0, .int .u64 0, .int .u64 0, .int .u64 0, .int .u64 0, .int .u64 0, .int .u64 0, .int .u64 0, .int .u8 0, .slice none 0 0] 27)
  have A4 := Arr.new w 27 #[.int .u64 0, .int .u64 0, .int .u64 0, .int .u64 0, .int .u64 0, .int .u64 0, .int .u64 0, .int .u64 0, .int .u64 0, .int .u64 0, .int .u64 0, .int .u64 0, .int .u64 0, .int .u64 0, .int .u64 0, .int .u64 0, .int .u64 0, .int .u8 0, .slice none 0 0]
  clear A hMS hM hm1 c0 c1 c2
  generalize hCC : mcA m sp n cap = C at *
  clear hCC
  obtain ⟨W, hW⟩ : ∃ x, x = w.alloc (.cells #[.int .u64 0, .int .u64 0, .int .u64 0, .int .u64 0, .int .u64 0, .int .u64 0, .int .u64 0, .int .u64 0, .int .u64 0, .int .u64 0, .int .u64 0, .int .u64 0, .int .u64 0, .int .u64 0, .int .u64 0, .int .u64 0, .int .u64 0, .int .u8 0, .slice none 0 0] 27) := ⟨_, rfl⟩
  rw [← hW] at b0 A4
  have ltW := A4.lt
  go_enter Tryz.func32, Tryz.ntmps32
  go_upto_region 1 with fail
  rw [← hW]
  replace hW := Hid.mk' hW
  go_cut [5, 6] (fun a b wx => ∃ g5, a = .pointer (some ⟨g5, 0, none⟩) ∧ b = .int .i64 q ∧ Arr wx g5 27 C ∧ W.heap.size ≤ g5 ∧ Below W.heap.size W wx)
  case first =>
    have hD0 : Below W.heap.size W W.drew := (Below.refl _ _).drew
    have hS1 : ∀ u, Below W.heap.size W u → _ := fun u hb => hS0 u (b0.trans (hb.mono b0.size))
    refine rgn (fun u => u.cell? ⟨g, 0, none⟩ = some (.slice none 0 0) ∧ u.cell? ⟨g, 2, none⟩ = some (.int .i64 len) ∧ u.cell? ⟨g, 1, none⟩ = some (.int .i64 most)) (hS1 _ hD0) (fun hSw => ?_)
    refine tk3 0 rfl ?_
    refine tk3 1 rfl ?_
    refine tk3 2 rfl ?_
    refine tk3 3 rfl ?_
    refine tk3 4 rfl ?_
    refine tk3 5 rfl ?_
    refine tk3 6 rfl ?_
    refine tk3 7 rfl ?_
    refine tk3 8 rfl ?_
    refine rd2 9 13 rfl rfl (fun K hK => ?_) (fun K hK => ?_)
    · go_simp
      refine (h54 _ (b0.trans (hD0.mono b0.size))).mono ?_
      rintro e v1 ⟨rfl, hb1⟩
      have hv1 := hD0.trans (hb1.mono hD0.size)
      go_wp2_with fail
      refine hK.out _ _ (hS1 _ hv1) (fun hSv => ?_)
      clear hK K
      try simp only [Act.put, List.setIfInBounds_toArray, List.set_cons_zero, List.set_cons_succ]
      refine tk3 10 rfl ?_
      refine tk3 11 rfl ?_
      refine tk3 12 rfl ?_
      refine rd 13 rfl (fun K hK => ?_)
      go_simp
      go_wp2_with fail
      have hv2 := hv1.alloc hv1.size (.cells #[.int .u64 0, .int .u64 0, .int .u64 0, .int .u64 0, .int .u64 0, .int .u64 0, .int .u64 0, .int .u64 0, .int .u64 0, .int .u64 0, .int .u64 0, .int .u64 0, .int .u64 0, .int .u64 0, .int .u64 0, .int .u64 0, .int .u64 0, .int .u8 0, .slice none 0 0] 27)
      refine hK.out _ _ (hS1 _ hv2) (fun hSv2 => ?_)
      clear hK K
      try simp only [Act.put, List.setIfInBounds_toArray, List.set_cons_zero, List.set_cons_succ]
      refine rd 14 rfl (fun K hK => ?_)
      refine step_want rfl (wp_store_row 27 (.tmp 5) (.tmp 18) rfl v1.heap.size C rfl rfl 27 _ (Arr.new v1 27 #[.int .u64 0, .int .u64 0, .int .u64 0, .int .u64 0, .int .u64 0, .int .u64 0, .int .u64 0, .int .u64 0, .int .u64 0, .int .u64 0, .int .u64 0, .int .u64 0, .int .u64 0, .int .u64 0, .int .u64 0, .int .u64 0, .int .u64 0, .int .u8 0, .slice none 0 0]) (by rw [hsz]; exact size45) (by rw [hsz]; rfl) hone ?_)
      refine hK.out _ _ (hS1 _ (below_setRow hv2 hv1.size C)) (fun hSv3 => ?_)
      clear hK K
      try simp only [Act.put, List.setIfInBounds_toArray, List.set_cons_zero, List.set_cons_succ]
      refine tk3 15 rfl ?_
      refine dn ?_
      go_wp2_with fail
      go_meet
      exact ⟨v1.heap.size, rfl, rfl, (Arr.new v1 27 #[.int .u64 0, .int .u64 0, .int .u64 0, .int .u64 0, .int .u64 0, .int .u64 0, .int .u64 0, .int .u64 0, .int .u64 0, .int .u64 0, .int .u64 0, .int .u64 0, .int .u64 0, .int .u64 0, .int .u64 0, .int .u64 0, .int .u64 0, .int .u8 0, .slice none 0 0]).setRow C, hv1.size, below_setRow hv2 hv1.size C⟩
    · go_simp
      go_wp2_with fail
      have hv2 := hD0.alloc hD0.size (.cells #[.int .u64 0, .int .u64 0, .int .u64 0, .int .u64 0, .int .u64 0, .int .u64 0, .int .u64 0, .int .u64 0, .int .u64 0, .int .u64 0, .int .u64 0, .int .u64 0, .int .u64 0, .int .u64 0, .int .u64 0, .int .u64 0, .int .u64 0, .int .u8 0, .slice none 0 0] 27)
      refine hK.out _ _ (hS1 _ hv2) (fun hSv2 => ?_)
      clear hK K
      try simp only [Act.put, List.setIfInBounds_toArray, List.set_cons_zero, List.set_cons_succ]
      refine rd 9 rfl (fun K hK => ?_)
      go_simp
      refine (h54 _ (b0.trans (hv2.mono b0.size))).mono ?_
      rintro e v1 ⟨rfl, hb1⟩
      have hv1 := hv2.trans (hb1.mono hv2.size)
      have A5 := (Arr.new W.drew 27 #[.int .u64 0, .int .u64 0, .int .u64 0, .int .u64 0, .int .u64 0, .int .u64 0, .int .u64 0, .int .u64 0, .int .u64 0, .int .u64 0, .int .u64 0, .int .u64 0, .int .u64 0, .int .u64 0, .int .u64 0, .int .u64 0, .int .u64 0, .int .u8 0, .slice none 0 0]).below hb1 (Arr.new W.drew 27 #[.int .u64 0, .int .u64 0, .int .u64 0, .int .u64 0, .int .u64 0, .int .u64 0, .int .u64 0, .int .u64 0, .int .u64 0, .int .u64 0, .int .u64 0, .int .u64 0, .int .u64 0, .int .u64 0, .int .u64 0, .int .u64 0, .int .u64 0, .int .u8 0, .slice none 0 0]).lt
      go_wp2_with fail
      refine hK.out _ _ (hS1 _ hv1) (fun hSv => ?_)
      clear hK K
      try simp only [Act.put, List.setIfInBounds_toArray, List.set_cons_zero, List.set_cons_succ]
      refine tk3 10 rfl ?_
      refine tk3 11 rfl ?_
      refine tk3 12 rfl ?_
      refine rd 14 rfl (fun K hK => ?_)
      refine step_want rfl (wp_store_row 27 (.tmp 5) (.tmp 18) rfl W.heap.size C rfl rfl 27 _ A5 (by rw [hsz]; exact size45) (by rw [hsz]; rfl) hone ?_)
      refine hK.out _ _ (hS1 _ (below_setRow hv1 (Nat.le_refl _) C)) (fun hSv3 => ?_)
      clear hK K
      try simp only [Act.put, List.setIfInBounds_toArray, List.set_cons_zero, List.set_cons_succ]
      refine tk3 15 rfl ?_
      refine dn ?_
      go_wp2_with fail
      go_meet
      exact ⟨W.heap.size, rfl, rfl, A5.setRow C, Nat.le_refl _, below_setRow hv1 (Nat.le_refl _) C⟩
  case rest =>
    obtain ⟨g5, rfl, rfl, A5, hg5, hX⟩ := hcut
    have hW5 := b0.trans (hX.mono b0.size)
    have A4c := A4.below hX ltW
    go_upto_region 2 with fail
    have hD0 : Below wc.heap.size wc wc.drew := (Below.refl _ _).drew
    have hS1 : ∀ u, Below wc.heap.size wc u → _ := fun u hb => hS0 u (hW5.trans (hb.mono hW5.size))
    refine rgn (fun u => u.cell? ⟨g, 0, none⟩ = some (.slice none 0 0) ∧ u.cell? ⟨g, 2, none⟩ = some (.int .i64 len) ∧ u.cell? ⟨g, 1, none⟩ = some (.int .i64 most)) (hS1 _ hD0) (fun hSw => ?_)
    refine tk3 1 rfl ?_
    refine tk3 2 rfl ?_
    refine tk3 3 rfl ?_
    refine tk3 4 rfl ?_
    refine tk3 5 rfl ?_
    refine rd 0 rfl (fun K hK => ?_)
    refine step_want rfl (wp_load_mid 27 (.tmp 5) rfl g5 0 rfl C.toList _ (fun j v hv => by rw [Nat.zero_add, (A5.below hD0 A5.lt).cell]; simpa using hv) Tryz.underlying27 rfl (by rw [Array.length_toList, hsz]; exact size45) ?_)
    rw [Array.toArray_toList]
    refine hK.out _ _ (hS1 _ hD0) (fun hSv => ?_)
    clear hK K
    try simp only [Act.put, List.setIfInBounds_toArray, List.set_cons_zero, List.set_cons_succ]
    refine rd 6 rfl (fun K hK => ?_)
    go_simp
    refine (h51 _ (hW5.trans (hD0.mono hW5.size))).mono ?_
    rintro e v1 ⟨sp1, n1, cp1, rfl, hok1, hMS1, hb1, hmw⟩
    have hv1 := hD0.trans (hb1.mono hD0.size)
    have A5v := A5.below hv1 A5.lt
    have A4v := A4c.below hv1 A4c.lt
    have hsz1 := mcA_size hok1.r16 sp1 n1 cp1
    have hone1 := mcA_one m1 sp1 n1 cp1
    have hMSf : ∀ D D', MS v1.heap.size ((v1.setRow g5 D).setRow w.heap.size D') sp1 n1 cp1 m1.me := fun D D' => MS.sr (MS.sr hMS1 (hmw_ne hmw A5v (by decide)) D) (fun b off e h => (hmw_ne hmw A4v (by decide)) b off e h) D'
    obtain ⟨C1, hC1⟩ : ∃ x, x = mcA m1 sp1 n1 cp1 := ⟨_, rfl⟩
    rw [← hC1] at hsz1 hone1 ⊢
    replace hC1 := Hid.mk' hC1
    go_wp2_with fail
    refine hK.out _ _ (hS1 _ hv1) (fun hSv2 => ?_)
    clear hK K
    try simp only [Act.put, List.setIfInBounds_toArray, List.set_cons_zero, List.set_cons_succ]
    refine tk3 7 rfl ?_
    refine tk3 8 rfl ?_
    refine tk3 9 rfl ?_
    refine tk3 10 rfl ?_
    have hg5w : g5 ≠ w.heap.size := by omega
    have hge : wc.heap.size ≤ wc.heap.size := Nat.le_refl _
    refine rd 11 rfl (fun K hK => ?_)
    refine step_want rfl (wp_store_row 27 (.tmp 5) (.tmp 28) rfl g5 C1 rfl rfl 27 _ A5v (by rw [hsz1]; exact size45) (by rw [hsz, hsz1]) hone1 ?_)
    have hB1 := hW5.trans (hv1.mono hW5.size)
    have hB2 : Below w.heap.size w (v1.setRow g5 C1) := below_setRow hB1 (by omega) C1
    refine hK.out _ _ (hS0 _ hB2) (fun hSv3 => ?_)
    clear hK K
    try simp only [Act.put, List.setIfInBounds_toArray, List.set_cons_zero, List.set_cons_succ]
    refine dn ?_
    have A5w := A5v.setRow C1
    have A4w := A4v.setRowOther C1 (Ne.symm hg5w)
    go_wp2_with (first
      | (refine ld45 (by rfl) (.tmp 5) (by rfl) g5 (by rfl) C1 hsz1 A5w ?_)
      | (refine st45 (by rfl) (.tmp 4) (.tmp 31) (by rfl) w.heap.size C1 (by rfl) (by rfl) hsz1 hone1 _ (by rfl) A4w ?_))
    have hB3 := below_setRow hB2 (Nat.le_refl _) C1
    refine bodyPost_ret (v := .agg C1) (results_cell_row Tryz.results32 _ _ w.heap.size 27 _ (0, 0) _ rfl (A4w.setRow C1) Tryz.underlying27 rfl (by rw [hsz1]; exact size45)) rfl ⟨sp1, n1, cp1, ?_, hok1, ?_, hB3⟩
    · rw [hC1.out]
    · exact (hMSf C1 C1).mono (by simp)
end Go.Proofs.YtneihkegipcakaaGreat
