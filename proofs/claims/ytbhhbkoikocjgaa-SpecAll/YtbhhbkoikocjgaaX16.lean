/- Layer spec: what the layers below give. -/
import Derived.Test.YtbhhbkoikocjgaaX01
import Derived.Test.YtbhhbkoikocjgaaX02
import Derived.Test.YtbhhbkoikocjgaaX03
import Derived.Test.YtbhhbkoikocjgaaX04
import Derived.Test.YtbhhbkoikocjgaaX05
import Derived.Test.YtbhhbkoikocjgaaX06
import Derived.Test.YtbhhbkoikocjgaaX07
import Derived.Test.YtbhhbkoikocjgaaX08
import Derived.Test.YtbhhbkoikocjgaaX15
import Derived.Test.YtbhhbkoikocjgaaX12
import Derived.BigQuiet
import Derived.BigRegion
import Derived.ChangeKeysEq
import Derived.ChangeOld
import Derived.Deep.DeepCutAuto
import Derived.Deep.DrawnRows
import Derived.Deep.MidRow
import Derived.Deep.QuietTactic
import Derived.Deep.RegionHeld3
import Derived.Deep.RegionLaw
import Derived.Deep.RegionWith
import Derived.Deep.WholeRow
import Derived.Great.BuildSlice
import Derived.Great.FillDense
import Derived.JoinedTies
import Derived.KernelRfl
import Derived.Laws.AppendOwnNone
import Derived.Laws.BitsLemmas
import Derived.Laws.BytesArg
import Derived.Laws.CopyOwn
import Derived.Laws.CopyRow
import Derived.Laws.MakeOwn
import Derived.Laws.OwnMore
import Derived.Laws.ResultCell
import Derived.Laws.Tables
import Derived.Lib.AppendZeros
import Derived.Lib.SlBytesConst
import Derived.Lib.SliceRun
import Derived.LoopIn
import Derived.LoopNIn
import Derived.Maps.AppendAt
import Derived.OpenShut
import Derived.OwnWalkIn
import Derived.ProofKit
import Derived.RangeFuncBound
import Derived.RangeFuncCalls
import Derived.RangeFuncLeaves
import Derived.RangeFuncNested
import Derived.RangeFuncRecord
import Derived.Shelf.Abstract
import Derived.Shelf.RegionOpen
import Derived.ShutString
import Derived.SizedLaws
import Derived.TacticsInMore
import Derived.WalkKit
import Derived.WalkLawsBesides
import Derived.WalkSpells
import GoSem.Claim
import GoSem.ClaimJoined
import GoSem.ClaimMapViews
namespace Go.Proofs.Ytbhhbkoikocjgaa
set_option linter.unusedSectionVars false
set_option maxHeartbeats 1000000
open Go.RowKit
set_option maxRecDepth 100000
set_option linter.unusedVariables false
set_option linter.unusedSimpArgs false

variable [DecidableEq Ac] [DecidableEq Ou] [DecidableEq Mg]
theorem wp_bldO {o : Oper} {a : Act} {w : World} {K : Act → World → Prop} {Q : Exit → Act → World → Prop} (x : Operand) (ho : o.op = .buildSlice 28 1 #[(0, x)]) (e : Ou) (hx : a.eval x = .agg e.arr)
    (h : K (a.put o.dst (.slice (some ⟨w.heap.size, 0, none⟩) 1 1)) (w.alloc (.cells e.arr 66))) : o.wp Try.prog a w K Q := by
  obtain ⟨i0, hi0, hz0, hz1, hz2⟩ := info_parts info53
  refine wp_buildSlice 28 66 1 _ ho e.arr i0 (.agg (Ou.arr ⟨0, 0⟩)) Try.underlying28 hi0 hz0 (by rw [hz1]; omega) (by rw [hz1]; omega) ?_ h
  have e1 : (#[(0, x)].map fun (p : Nat × Operand) => (p.1, a.eval p.2)).toList = ([Value.agg e.arr].zipIdx 0).map fun x => (x.2, x.1) := by simp [hx]
  rw [hz1]
  refine Eq.trans (congrArg _ e1) ?_
  rw [Great.fill_whole (s := 2) (by omega) [.agg e.arr] _ (fun v hv => by simp only [List.mem_singleton] at hv; rw [hv]; rfl) (by simp)]
  simp [Value.cells, Ou.arr]
theorem ouF_app (a b : List Ou) : ouF (a ++ b) = ouF a ++ ouF b := by simp [ouF]
/-- A withdrawal appended. -/
theorem wp_ap53 {o : Oper} {a : Act} {w : World} {K : Act → World → Prop} {Q : Exit → Act → World → Prop} (s x : Operand) (ho : o.op = .call { callee := .builtin .append, args := #[s, x], argTypes := #[28, 28] })
    (base : Nat) (v : Value) (n : Nat) (os : List Ou) (e : Ou) (hs : a.eval s = v) (hE : w.ownsRow base 66 2 v n (ouF os)) (gx c : Nat) (hx : a.eval x = .slice (some ⟨gx, 0, none⟩) 1 c) (hA : Arr w gx 66 e.arr) (hk : n ≤ 1000000000) (hbase : base ≤ w.heap.size)
    (h : ∀ v' w', w'.ownsRow base 66 2 v' (n + 1) (ouF (os ++ [e])) → w.grownBy w' v.ownBlock → K (a.put o.dst v') w') : o.wp Try.prog a w K Q := by
  obtain ⟨i0, hi0, hz0, hz1, hz2⟩ := info_parts info53
  obtain ⟨v', w', hr, h2, h3, -⟩ := run_append_own (P := Try.prog) w base 28 o.type 66 i0 (.agg (Ou.arr ⟨0, 0⟩)) 2 16 Try.underlying28 hi0 hz0 hz1 hz2 rfl (by omega) v n _ hE ⟨gx, 0, none⟩ 1 c e.cells rfl (fun j u hj => by
    rw [Addr.add_mid]; exact hA.ou j u hj) e.one (by unfold maxLen; omega) (by omega) hbase
  unfold Oper.wp execOp
  simp only [ho, resolve, invoke, builtin, Sem.run_bind, Sem.run_pure, Result.andThen_ok, List.map_toArray, List.map_cons, List.map_nil, hs, hx, hr]
  refine h v' w' ?_ h3
  rw [ouF_app]
  simpa [ouF] using h2
theorem built50 (a b : Int) : Try.prog.built 66 [(0, .int .u64 a), (1, .int .u64 b)] = some (Ou.arr ⟨a, b⟩) := by kernel_rfl
set_option maxHeartbeats 1000000 in
theorem cloneO_any (N : Nat) (sp : Option Addr) (n cap : Nat) (os : List Ou) (w : World) (hS : OS N w sp n cap os) (hb : n * 16 ≤ 140737488351232) :
    Calls Try.prog 45 #[.slice sp n cap] w fun r w' => ∃ v, r = .returned v ∧ w'.ownsRow w.heap.size 66 2 v n (ouF os) ∧ Below w.heap.size w w' := by
  have hS := hS.here
  have q22 : ∀ (w : World) (a : Option Addr) (n c n' c' : Nat), (binOp .eql 28 (.slice a n c) (.slice none n' c')).run Try.prog w = .ok (.bool a.isNone) w := fun w a n c n' c' => Lib.run_eql_slice_nil w _ _ a n c n' c' Try.underlying28
  cases sp with
  | none =>
    obtain ⟨rfl, rfl⟩ := hS.nil rfl
    have hz : Hid (os = []) := Hid.mk' (List.eq_nil_of_length_eq_zero hS.len.out.symm)
    go_enter Try.func45, Try.ntmps45
    go_wp2_with fail
    go_ret
    exact ⟨_, rfl, by rw [hz.out]; exact World.ownsRow_nil _ _ _ _, Below.refl _ _⟩
  | some ad =>
    have B0 := alloc_bel' w (.cells #[] 66)
    have own0 : (w.alloc (.cells #[] 66)).ownsRow w.heap.size 66 2 (.slice (some ⟨w.heap.size, 0, none⟩) 0 0) 0 (ouF []) := World.ownsRow_made w #[] 0 (Nat.le_refl _) (by unfold maxLen; omega) rfl
    have S0 := hS.below B0
    go_enter Try.func45, Try.ntmps45
    go_wp2_with (first
      | (refine atA (.tmp 5) (.tmp 6) ?_; go_must (refine as53 (by rfl) (.tmp 5) (.tmp 6) (by rfl) w.heap.size _ _ (by rfl) own0 (some ad) n cap os (by rfl) S0 hb (by simp) ?_; intro v2 w2 own2 g2; have B2 := B0.grown g2 (by simp) (fun k e => own_ge own0 k e))))
    go_ret
    exact ⟨_, rfl, own2, B2⟩
def actP (ps : List Ac) (os : List Ou) (m : Mg) : List Ac := ((act ps os m).getD (ps, os)).1
def actO (ps : List Ac) (os : List Ou) (m : Mg) : List Ou := ((act ps os m).getD (ps, os)).2
theorem act_none {ps : List Ac} {os : List Ou} {m : Mg} (h : act ps os m = none) : actP ps os m = ps ∧ actO ps os m = os := by unfold actP actO; rw [h]; exact ⟨rfl, rfl⟩
theorem act_some {ps : List Ac} {os : List Ou} {m : Mg} {r : List Ac × List Ou} (h : act ps os m = some r) : actP ps os m = r.1 ∧ actO ps os m = r.2 := by unfold actP actO; rw [h]; exact ⟨rfl, rfl⟩
/-- What do leaves. -/
def DoPost (gb base : Nat) (ps : List Ac) (os : List Ou) (m : Mg) (w : World) (r : Ending) (w' : World) : Prop :=
  r = .returned (.tuple #[]) ∧ ∃ sp n cap, Arr w' gb 127 (stA (actP ps os m) sp n cap) ∧ w'.ownsRow base 66 2 (.slice sp n cap) n (ouF (actO ps os m)) ∧ Hid (n = (actO ps os m).length) ∧ Below gb w w'
theorem DoPost.no {gb base : Nat} {ps : List Ac} {os : List Ou} {m : Mg} {w w' : World} {sp : Option Addr} {n cap : Nat} (h : Hid (act ps os m = none)) (hA : Arr w' gb 127 (stA ps sp n cap)) (ho : w'.ownsRow base 66 2 (.slice sp n cap) n (ouF os)) (hn : Hid (n = os.length)) (hb : Below gb w w') : DoPost gb base ps os m w (.returned (.tuple #[])) w' := by
  obtain ⟨e1, e2⟩ := act_none h.out
  exact ⟨rfl, sp, n, cap, by rw [e1]; exact hA, by rw [e2]; exact ho, Hid.mk' (by rw [e2]; exact hn.out), hb⟩
theorem DoPost.yes {gb base : Nat} {ps q : List Ac} {os u : List Ou} {m : Mg} {w w' : World} {sp : Option Addr} {n cap : Nat} (h : Hid (act ps os m = some (q, u))) (hA : Arr w' gb 127 (stA q sp n cap)) (ho : w'.ownsRow base 66 2 (.slice sp n cap) n (ouF u)) (hn : Hid (n = u.length)) (hb : Below gb w w') : DoPost gb base ps os m w (.returned (.tuple #[])) w' := by
  obtain ⟨e1, e2⟩ := act_some h.out
  exact ⟨rfl, sp, n, cap, by rw [e1]; exact hA, by rw [e2]; exact ho, Hid.mk' (by rw [e2]; exact hn.out), hb⟩
theorem own_chg {w w' : World} {base n gb : Nat} {v : Value} {xs : List Value} (h : w.ownsRow base 66 2 v n xs) (hc : Chg (· = gb) w w') (hg : gb < base) : w'.ownsRow base 66 2 v n xs :=
  own_same h (fun k hk => hc.block k (own_lt h hk) (fun e => by have := own_ge h k hk; omega))
theorem own_bel {w w' : World} {base n : Nat} {v : Value} {xs : List Value} (h : w.ownsRow base 66 2 v n xs) (hb : Below w.heap.size w w') : w'.ownsRow base 66 2 v n xs :=
  own_same h (fun k hk => hb.block k (own_lt h hk))
theorem own_cellO {w : World} {base n gb o : Nat} {v u : Value} {xs : List Value} (h : w.ownsRow base 66 2 v n xs) (hg : gb < base) : (w.setCell ⟨gb, o, none⟩ u).ownsRow base 66 2 v n xs :=
  own_same h (fun k hk => Below.heap_setCell _ _ _ _ (show k ≠ gb from fun e => by have := own_ge h k hk; omega))
theorem own_sliceO {w : World} {base n : Nat} {v : Value} {xs : List Value} (h : w.ownsRow base 66 2 v n xs) : ∃ sp cap, v = .slice sp n cap := by
  obtain ⟨-, h' | ⟨g, cap, cur, rfl, -⟩⟩ := h
  · obtain ⟨rfl, rfl⟩ := h'; exact ⟨none, 0, rfl⟩
  · exact ⟨_, cap, rfl⟩
theorem wrapB (x : Int) : IntKind.u64.wrap x = x % 18446744073709551616 := by simp [IntKind.wrap, IntKind.bits, IntKind.signed]
set_option maxHeartbeats 2000000 in
theorem do1_any (gb base : Nat) (ps : List Ac) (os : List Ou) (sp : Option Addr) (n cap : Nat) (m : Mg) (w : World) (hA : Arr w gb 127 (stA ps sp n cap)) (own : w.ownsRow base 66 2 (.slice sp n cap) n (ouF os)) (hgb : gb < base) (hbw : base ≤ w.heap.size) (h1 : ps.length = 32) (hok : ∀ a ∈ ps, AcOK a) (hn : Hid (n = os.length)) (htt : (tt ps 0).isSome = true) (hm : MgOK m) (hk : m.kd = 1) (ht : m.tw < 32) :
    Calls Try.prog 65 #[.pointer (some ⟨gb, 0, none⟩), .agg m.arr] w (DoPost gb base ps os m w) := by
  have h2 : ∀ a ∈ ps, a.lk.length = 32 := fun a ha => (hok a ha).l32
  have ht0 := hm.t0
  have hlt := hA.lt
  have M0 := Arr.new w 95 m.arr
  have A0 := hA.alloc (.cells m.arr 95)
  have W0 := alloc_bel' w (.cells m.arr 95)
  have own0 := own_bel own W0
  have c0 := mg_c0 M0
  have c3 := mg_c3 M0
  rw [hk] at c0
  have hR := hasRoom_any gb ps sp n cap m.am (w.alloc (.cells m.arr 95)) A0 h1 hok htt
  obtain ⟨j, hj⟩ : ∃ j : Nat, Hid (m.tw = (j : Int)) := ⟨m.tw.toNat, Hid.mk' (by omega)⟩
  have hj32 : j < 32 := by have := hj.out; omega
  have hJ : (j : Int) < 32 := by omega
  obtain ⟨b, hb⟩ : ∃ b, Hid (ps[j]? = some b) := ⟨ps[j]'(by omega), Hid.mk' (List.getElem?_eq_getElem (by omega))⟩
  by_cases hr : m.am ≤ 4611686018427387904 - ttV ps
  · rw [decide_eq_true hr] at hR
    have hact : Hid (act ps os m = some (addB ps j m.am, os)) := Hid.mk' (by unfold act; rw [if_pos hk, if_pos hr, hj.out, Int.toNat_natCast])
    clear hr hk
    replace hR := Hid.mk' hR
    go_enter Try.func65, Try.ntmps65
    go_upto_region 4 with (first
      | (go_at_call 90; go_must (refine hR.out.mono ?_; rintro r w1 ⟨rfl, hb1⟩)))
    have A1 := A0.below hb1 A0.lt
    have M1 := M0.below hb1 M0.lt
    have own1 := own_bel own0 hb1
    have B1 : Below gb w w1 := (W0.mono (by omega)).trans (hb1.mono (by simp; omega))
    have A3 := A1.drew
    have M3 := M1.drew
    have cB := ac_c0 (A3.stAt h2 hb.out)
    have fB := A3.frozen (j * 34)
    obtain ⟨x, hX⟩ : ∃ x, IntKind.u64.wrap (b.bal + m.am) = x := ⟨_, rfl⟩
    have hxe : Hid (x = (b.bal + m.am) % 18446744073709551616) := Hid.mk' (by rw [← hX, wrapB])
    clear c0 c3
    refine wp_region_held_drew (S := fun u => Arr u w.heap.size 95 m.arr) (by kernel_rfl) (M3) (fun hHeld => ?_)
    refine wpAnyH_take (i := 0) (oi := ⟨_, _, _, _, _, _⟩) (v := ?_) rfl (by kernel_rfl) (by kernel_rfl) (by kernel_rfl) (fun _ _ _ h => h) (Or.inl ⟨by rfl, ?_⟩) (by assumption) ?_
    rotate_left
    · intro u hSw
      go_simp
      try (with_reducible rfl)
    try simp only [Act.put, List.setIfInBounds_toArray, List.set_cons_zero, List.set_cons_succ]
    refine wpAnyH_take (i := 1) (oi := ⟨_, _, _, _, _, _⟩) (v := ?_) rfl (by kernel_rfl) (by kernel_rfl) (by kernel_rfl) (fun _ _ _ h => h) (Or.inl ⟨by rfl, ?_⟩) (by assumption) ?_
    rotate_left
    · intro u hSw
      go_simp
      try (with_reducible rfl)
    try simp only [Act.put, List.setIfInBounds_toArray, List.set_cons_zero, List.set_cons_succ]
    refine wpAnyH_take (i := 2) (oi := ⟨_, _, _, _, _, _⟩) (v := ?_) rfl (by kernel_rfl) (by kernel_rfl) (by kernel_rfl) (fun _ _ _ h => h) (Or.inl ⟨by rfl, ?_⟩) (by assumption) ?_
    rotate_left
    · intro u hSw
      have cc := mg_c2 hSw
      rw [hj.out] at cc
      go_simp
      try (with_reducible rfl)
    try simp only [Act.put, List.setIfInBounds_toArray, List.set_cons_zero, List.set_cons_succ]
    refine wpAnyH_take (i := 3) (oi := ⟨_, _, _, _, _, _⟩) (v := ?_) rfl (by kernel_rfl) (by kernel_rfl) (by kernel_rfl) (fun _ _ _ h => h) (Or.inl ⟨by rfl, ?_⟩) (by assumption) ?_
    rotate_left
    · intro u hSw
      go_simp
      try (with_reducible rfl)
    try simp only [Act.put, List.setIfInBounds_toArray, List.set_cons_zero, List.set_cons_succ]
    refine wpAnyH_take (i := 4) (oi := ⟨_, _, _, _, _, _⟩) (v := ?_) rfl (by kernel_rfl) (by kernel_rfl) (by kernel_rfl) (fun _ _ _ h => h) (Or.inl ⟨by rfl, ?_⟩) (by assumption) ?_
    rotate_left
    · intro u hSw
      go_simp
      try (with_reducible rfl)
    try simp only [Act.put, List.setIfInBounds_toArray, List.set_cons_zero, List.set_cons_succ]
    refine wpAnyH_take (i := 5) (oi := ⟨_, _, _, _, _, _⟩) (v := ?_) rfl (by kernel_rfl) (by kernel_rfl) (by kernel_rfl) (fun _ _ _ h => h) (Or.inl ⟨by rfl, ?_⟩) (by assumption) ?_
    rotate_left
    · intro u hSw
      go_simp
      try (with_reducible rfl)
    try simp only [Act.put, List.setIfInBounds_toArray, List.set_cons_zero, List.set_cons_succ]
    refine wpAnyH_take (i := 6) (oi := ⟨_, _, _, _, _, _⟩) (v := ?_) rfl (by kernel_rfl) (by kernel_rfl) (by kernel_rfl) (fun _ _ _ h => h) (Or.inl ⟨by rfl, ?_⟩) (by assumption) ?_
    rotate_left
    · intro u hSw
      go_simp
      try (with_reducible rfl)
    try simp only [Act.put, List.setIfInBounds_toArray, List.set_cons_zero, List.set_cons_succ]
    refine wpAnyH_take (i := 7) (oi := ⟨_, _, _, _, _, _⟩) (v := ?_) rfl (by kernel_rfl) (by kernel_rfl) (by kernel_rfl) (fun _ _ _ h => h) (Or.inl ⟨by rfl, ?_⟩) (by assumption) ?_
    rotate_left
    · intro u hSw
      go_simp
      try (with_reducible rfl)
    try simp only [Act.put, List.setIfInBounds_toArray, List.set_cons_zero, List.set_cons_succ]
    refine wpAnyH_take (i := 9) (oi := ⟨_, _, _, _, _, _⟩) (v := ?_) rfl (by kernel_rfl) (by kernel_rfl) (by kernel_rfl) (fun _ _ _ h => h) (Or.inl ⟨by rfl, ?_⟩) (by assumption) ?_
    rotate_left
    · intro u hSw
      go_simp
      try (with_reducible rfl)
    try simp only [Act.put, List.setIfInBounds_toArray, List.set_cons_zero, List.set_cons_succ]
    refine wpAnyH_take (i := 10) (oi := ⟨_, _, _, _, _, _⟩) (v := ?_) rfl (by kernel_rfl) (by kernel_rfl) (by kernel_rfl) (fun _ _ _ h => h) (Or.inl ⟨by rfl, ?_⟩) (by assumption) ?_
    rotate_left
    · intro u hSw
      have cc := mg_c3 hSw
      go_simp
      try (with_reducible rfl)
    try simp only [Act.put, List.setIfInBounds_toArray, List.set_cons_zero, List.set_cons_succ]
    refine wpAnyH_take (i := 12) (oi := ⟨_, _, _, _, _, _⟩) (v := ?_) rfl (by kernel_rfl) (by kernel_rfl) (by kernel_rfl) (fun _ _ _ h => h) (Or.inl ⟨by rfl, ?_⟩) (by assumption) ?_
    rotate_left
    · intro u hSw
      go_simp
      try (with_reducible rfl)
    try simp only [Act.put, List.setIfInBounds_toArray, List.set_cons_zero, List.set_cons_succ]
    refine wpAnyH_take (i := 13) (oi := ⟨_, _, _, _, _, _⟩) (v := ?_) rfl (by kernel_rfl) (by kernel_rfl) (by kernel_rfl) (fun _ _ _ h => h) (Or.inl ⟨by rfl, ?_⟩) (by assumption) ?_
    rotate_left
    · intro u hSw
      go_simp
      try (with_reducible rfl)
    try simp only [Act.put, List.setIfInBounds_toArray, List.set_cons_zero, List.set_cons_succ]
    refine wpAnyH_take (i := 14) (oi := ⟨_, _, _, _, _, _⟩) (v := ?_) rfl (by kernel_rfl) (by kernel_rfl) (by kernel_rfl) (fun _ _ _ h => h) (Or.inl ⟨by rfl, ?_⟩) (by assumption) ?_
    rotate_left
    · intro u hSw
      go_simp
      try (with_reducible rfl)
    try simp only [Act.put, List.setIfInBounds_toArray, List.set_cons_zero, List.set_cons_succ]
    refine wpAnyH_ready (rs := [8]) (by kernel_rfl) (by simp) ?_
    refine AllReadyH.cons (o := ⟨_, _, _, _, _, _⟩) rfl (fun K hK => ?_) AllReadyH.nil
    go_simp
    go_wp2_with fail
    refine hK.out _ _ M3 (fun hHeld => ?_)
    clear hK K
    try simp only [Act.put, List.setIfInBounds_toArray, List.set_cons_zero, List.set_cons_succ]
    refine wpAnyH_take (i := 11) (oi := ⟨_, _, _, _, _, _⟩) (v := ?_) rfl (by kernel_rfl) (by kernel_rfl) (by kernel_rfl) (fun _ _ _ h => h) (Or.inl ⟨by rfl, ?_⟩) (by assumption) ?_
    rotate_left
    · intro u hSw
      go_simp
      try (with_reducible rfl)
    try simp only [Act.put, List.setIfInBounds_toArray, List.set_cons_zero, List.set_cons_succ]
    refine wpAnyH_take (i := 15) (oi := ⟨_, _, _, _, _, _⟩) (v := ?_) rfl (by kernel_rfl) (by kernel_rfl) (by kernel_rfl) (fun _ _ _ h => h) (Or.inl ⟨by rfl, ?_⟩) (by assumption) ?_
    rotate_left
    · intro u hSw
      go_simp
      try (with_reducible rfl)
    try simp only [Act.put, List.setIfInBounds_toArray, List.set_cons_zero, List.set_cons_succ]
    refine wpAnyH_take (i := 16) (oi := ⟨_, _, _, _, _, _⟩) (v := ?_) rfl (by kernel_rfl) (by kernel_rfl) (by kernel_rfl) (fun _ _ _ h => h) (Or.inl ⟨by rfl, ?_⟩) (by assumption) ?_
    rotate_left
    · intro u hSw
      go_simp
      try (with_reducible rfl)
    try simp only [Act.put, List.setIfInBounds_toArray, List.set_cons_zero, List.set_cons_succ]
    refine wpAnyH_ready (rs := [17]) (by kernel_rfl) (by simp) ?_
    refine AllReadyH.cons (o := ⟨_, _, _, _, _, _⟩) rfl (fun K hK => ?_) AllReadyH.nil
    go_simp
    go_wp2_with fail
    refine hK.out _ _ (M3.setOther (a := ⟨gb, j * 34, none⟩) _ (by simp; omega)) (fun hHeld => ?_)
    clear hK K
    try simp only [Act.put, List.setIfInBounds_toArray, List.set_cons_zero, List.set_cons_succ]
    refine wpAnyH_done (by kernel_rfl) ?_ _
    have A4 := (A1.set (j * 34) (.int .u64 x)).drew
    rw [stA_bal hb.out h2] at A4
    have own4 := own_bel (own_cellO (o := j * 34) (u := .int .u64 x) own1 hgb) (drew_bel _)
    have B4 := (B1.setCell (p := ⟨gb, j * 34, none⟩) (Nat.le_refl _) (.int .u64 x)).drew
    go_wp2_with fail
    go_end0
    refine DoPost.yes hact ?_ own4 hn B4
    rw [addB_some hb.out, ← hxe.out]
    exact A4
  · rw [decide_eq_false hr] at hR
    have hact : Hid (act ps os m = none) := Hid.mk' (by unfold act; rw [if_pos hk, if_neg hr])
    clear hr hk
    replace hR := Hid.mk' hR
    go_enter Try.func65, Try.ntmps65
    go_wp2_with (first
      | (go_at_call 90; go_must (refine hR.out.mono ?_; rintro r w1 ⟨rfl, hb1⟩)))
    have A1 := A0.below hb1 A0.lt
    have own1 := own_bel own0 hb1
    have B1 : Below gb w w1 := (W0.mono (by omega)).trans (hb1.mono (by simp; omega))
    go_end0
    exact DoPost.no hact A1 own1 hn B1
set_option maxHeartbeats 2000000 in
theorem do2_any (gb base : Nat) (ps : List Ac) (os : List Ou) (sp : Option Addr) (n cap : Nat) (m : Mg) (w : World) (hA : Arr w gb 127 (stA ps sp n cap)) (own : w.ownsRow base 66 2 (.slice sp n cap) n (ouF os)) (hgb : gb < base) (hbw : base ≤ w.heap.size) (h1 : ps.length = 32) (hok : ∀ a ∈ ps, AcOK a) (hn : Hid (n = os.length)) (hn32 : n ≤ 32) (hm : MgOK m) (hk : m.kd = 2) (hf : m.fr < 32) (ht : m.tw < 32) :
    Calls Try.prog 65 #[.pointer (some ⟨gb, 0, none⟩), .agg m.arr] w (DoPost gb base ps os m w) := by
  have h2 : ∀ a ∈ ps, a.lk.length = 32 := fun a ha => (hok a ha).l32
  have ht0 := hm.t0
  have hf0 := hm.f0
  have hlt := hA.lt
  have M0 := Arr.new w 95 m.arr
  have A0 := hA.alloc (.cells m.arr 95)
  have W0 := alloc_bel' w (.cells m.arr 95)
  have own0 := own_bel own W0
  have c0 := mg_c0 M0
  have c3 := mg_c3 M0
  rw [hk] at c0
  have hk1 : ¬ m.kd = 1 := by omega
  obtain ⟨i, hi⟩ : ∃ i : Nat, Hid (m.fr = (i : Int)) := ⟨m.fr.toNat, Hid.mk' (by omega)⟩
  have hi32 : i < 32 := by have := hi.out; omega
  obtain ⟨a, ha⟩ : ∃ a, Hid (ps[i]? = some a) := ⟨ps[i]'(by omega), Hid.mk' (List.getElem?_eq_getElem (by omega))⟩
  have hS := spend_any gb ps sp n cap m i a (w.alloc (.cells m.arr 95)) A0 h1 hok hm hi ha.out
  obtain ⟨j, hj⟩ : ∃ j : Nat, Hid (m.tw = (j : Int)) := ⟨m.tw.toNat, Hid.mk' (by omega)⟩
  have hj32 : j < 32 := by have := hj.out; omega
  have hJ : (j : Int) < 32 := by omega
  by_cases hs : spd a m = true
  · rw [hs, spP_t hs] at hS
    have hact : Hid (act ps os m = some (addB (ps.set i (spent a m)) j m.am, os)) := Hid.mk' (by unfold act; rw [if_neg hk1, hi.out, Int.toNat_natCast, ha.out]; simp only [hs, if_true]; rw [if_pos hk, hj.out, Int.toNat_natCast])
    have hsa := spent_ok (hok a (List.mem_of_getElem? ha.out)) hm hs
    have h2' : ∀ x ∈ ps.set i (spent a m), x.lk.length = 32 := fun x hx => (set_ok hok i hsa x hx).l32
    have hl' : (ps.set i (spent a m)).length = 32 := by rw [List.length_set, h1]
    clear hs hk hk1
    generalize ps.set i (spent a m) = qs at *
    obtain ⟨b, hb⟩ : ∃ b, Hid (qs[j]? = some b) := ⟨qs[j]'(by omega), Hid.mk' (List.getElem?_eq_getElem (by omega))⟩
    replace hS := Hid.mk' hS
    go_enter Try.func65, Try.ntmps65
    go_upto_region 7 with (first
      | (refine atL 95 (.tmp 3) ?_; refine ld27M (by rfl) (.tmp 3) (by rfl) w.heap.size 95 (by rfl) m hm M0 ?_)
      | (go_at_call 91; go_must (refine hS.out.mono ?_; rintro r w1 ⟨rfl, A1, hc1⟩)))
    have M1 := hc1.arr M0 (show ¬ w.heap.size = gb by omega)
    have own1 := own_chg own0 hc1 hgb
    have B1 : Below gb w w1 := (W0.mono (by omega)).trans (hc1.below (fun k hk => ⟨by simp; omega, by omega⟩))
    have A3 := A1.drew
    have M3 := M1.drew
    have cB := ac_c0 (A3.stAt h2' hb.out)
    have fB := A3.frozen (j * 34)
    obtain ⟨x, hX⟩ : ∃ x, IntKind.u64.wrap (b.bal + m.am) = x := ⟨_, rfl⟩
    have hxe : Hid (x = (b.bal + m.am) % 18446744073709551616) := Hid.mk' (by rw [← hX, wrapB])
    clear c0 c3
    refine wp_region_held_drew (S := fun u => Arr u w.heap.size 95 m.arr) (by kernel_rfl) (M3) (fun hHeld => ?_)
    refine wpAnyH_take (i := 0) (oi := ⟨_, _, _, _, _, _⟩) (v := ?_) rfl (by kernel_rfl) (by kernel_rfl) (by kernel_rfl) (fun _ _ _ h => h) (Or.inl ⟨by rfl, ?_⟩) (by assumption) ?_
    rotate_left
    · intro u hSw
      go_simp
      try (with_reducible rfl)
    try simp only [Act.put, List.setIfInBounds_toArray, List.set_cons_zero, List.set_cons_succ]
    refine wpAnyH_take (i := 1) (oi := ⟨_, _, _, _, _, _⟩) (v := ?_) rfl (by kernel_rfl) (by kernel_rfl) (by kernel_rfl) (fun _ _ _ h => h) (Or.inl ⟨by rfl, ?_⟩) (by assumption) ?_
    rotate_left
    · intro u hSw
      go_simp
      try (with_reducible rfl)
    try simp only [Act.put, List.setIfInBounds_toArray, List.set_cons_zero, List.set_cons_succ]
    refine wpAnyH_take (i := 2) (oi := ⟨_, _, _, _, _, _⟩) (v := ?_) rfl (by kernel_rfl) (by kernel_rfl) (by kernel_rfl) (fun _ _ _ h => h) (Or.inl ⟨by rfl, ?_⟩) (by assumption) ?_
    rotate_left
    · intro u hSw
      have cc := mg_c2 hSw
      rw [hj.out] at cc
      go_simp
      try (with_reducible rfl)
    try simp only [Act.put, List.setIfInBounds_toArray, List.set_cons_zero, List.set_cons_succ]
    refine wpAnyH_take (i := 3) (oi := ⟨_, _, _, _, _, _⟩) (v := ?_) rfl (by kernel_rfl) (by kernel_rfl) (by kernel_rfl) (fun _ _ _ h => h) (Or.inl ⟨by rfl, ?_⟩) (by assumption) ?_
    rotate_left
    · intro u hSw
      go_simp
      try (with_reducible rfl)
    try simp only [Act.put, List.setIfInBounds_toArray, List.set_cons_zero, List.set_cons_succ]
    refine wpAnyH_take (i := 4) (oi := ⟨_, _, _, _, _, _⟩) (v := ?_) rfl (by kernel_rfl) (by kernel_rfl) (by kernel_rfl) (fun _ _ _ h => h) (Or.inl ⟨by rfl, ?_⟩) (by assumption) ?_
    rotate_left
    · intro u hSw
      go_simp
      try (with_reducible rfl)
    try simp only [Act.put, List.setIfInBounds_toArray, List.set_cons_zero, List.set_cons_succ]
    refine wpAnyH_take (i := 5) (oi := ⟨_, _, _, _, _, _⟩) (v := ?_) rfl (by kernel_rfl) (by kernel_rfl) (by kernel_rfl) (fun _ _ _ h => h) (Or.inl ⟨by rfl, ?_⟩) (by assumption) ?_
    rotate_left
    · intro u hSw
      go_simp
      try (with_reducible rfl)
    try simp only [Act.put, List.setIfInBounds_toArray, List.set_cons_zero, List.set_cons_succ]
    refine wpAnyH_take (i := 6) (oi := ⟨_, _, _, _, _, _⟩) (v := ?_) rfl (by kernel_rfl) (by kernel_rfl) (by kernel_rfl) (fun _ _ _ h => h) (Or.inl ⟨by rfl, ?_⟩) (by assumption) ?_
    rotate_left
    · intro u hSw
      go_simp
      try (with_reducible rfl)
    try simp only [Act.put, List.setIfInBounds_toArray, List.set_cons_zero, List.set_cons_succ]
    refine wpAnyH_take (i := 7) (oi := ⟨_, _, _, _, _, _⟩) (v := ?_) rfl (by kernel_rfl) (by kernel_rfl) (by kernel_rfl) (fun _ _ _ h => h) (Or.inl ⟨by rfl, ?_⟩) (by assumption) ?_
    rotate_left
    · intro u hSw
      go_simp
      try (with_reducible rfl)
    try simp only [Act.put, List.setIfInBounds_toArray, List.set_cons_zero, List.set_cons_succ]
    refine wpAnyH_take (i := 9) (oi := ⟨_, _, _, _, _, _⟩) (v := ?_) rfl (by kernel_rfl) (by kernel_rfl) (by kernel_rfl) (fun _ _ _ h => h) (Or.inl ⟨by rfl, ?_⟩) (by assumption) ?_
    rotate_left
    · intro u hSw
      go_simp
      try (with_reducible rfl)
    try simp only [Act.put, List.setIfInBounds_toArray, List.set_cons_zero, List.set_cons_succ]
    refine wpAnyH_take (i := 10) (oi := ⟨_, _, _, _, _, _⟩) (v := ?_) rfl (by kernel_rfl) (by kernel_rfl) (by kernel_rfl) (fun _ _ _ h => h) (Or.inl ⟨by rfl, ?_⟩) (by assumption) ?_
    rotate_left
    · intro u hSw
      have cc := mg_c3 hSw
      go_simp
      try (with_reducible rfl)
    try simp only [Act.put, List.setIfInBounds_toArray, List.set_cons_zero, List.set_cons_succ]
    refine wpAnyH_take (i := 12) (oi := ⟨_, _, _, _, _, _⟩) (v := ?_) rfl (by kernel_rfl) (by kernel_rfl) (by kernel_rfl) (fun _ _ _ h => h) (Or.inl ⟨by rfl, ?_⟩) (by assumption) ?_
    rotate_left
    · intro u hSw
      go_simp
      try (with_reducible rfl)
    try simp only [Act.put, List.setIfInBounds_toArray, List.set_cons_zero, List.set_cons_succ]
    refine wpAnyH_take (i := 13) (oi := ⟨_, _, _, _, _, _⟩) (v := ?_) rfl (by kernel_rfl) (by kernel_rfl) (by kernel_rfl) (fun _ _ _ h => h) (Or.inl ⟨by rfl, ?_⟩) (by assumption) ?_
    rotate_left
    · intro u hSw
      go_simp
      try (with_reducible rfl)
    try simp only [Act.put, List.setIfInBounds_toArray, List.set_cons_zero, List.set_cons_succ]
    refine wpAnyH_take (i := 14) (oi := ⟨_, _, _, _, _, _⟩) (v := ?_) rfl (by kernel_rfl) (by kernel_rfl) (by kernel_rfl) (fun _ _ _ h => h) (Or.inl ⟨by rfl, ?_⟩) (by assumption) ?_
    rotate_left
    · intro u hSw
      go_simp
      try (with_reducible rfl)
    try simp only [Act.put, List.setIfInBounds_toArray, List.set_cons_zero, List.set_cons_succ]
    refine wpAnyH_ready (rs := [8]) (by kernel_rfl) (by simp) ?_
    refine AllReadyH.cons (o := ⟨_, _, _, _, _, _⟩) rfl (fun K hK => ?_) AllReadyH.nil
    go_simp
    go_wp2_with fail
    refine hK.out _ _ M3 (fun hHeld => ?_)
    clear hK K
    try simp only [Act.put, List.setIfInBounds_toArray, List.set_cons_zero, List.set_cons_succ]
    refine wpAnyH_take (i := 11) (oi := ⟨_, _, _, _, _, _⟩) (v := ?_) rfl (by kernel_rfl) (by kernel_rfl) (by kernel_rfl) (fun _ _ _ h => h) (Or.inl ⟨by rfl, ?_⟩) (by assumption) ?_
    rotate_left
    · intro u hSw
      go_simp
      try (with_reducible rfl)
    try simp only [Act.put, List.setIfInBounds_toArray, List.set_cons_zero, List.set_cons_succ]
    refine wpAnyH_take (i := 15) (oi := ⟨_, _, _, _, _, _⟩) (v := ?_) rfl (by kernel_rfl) (by kernel_rfl) (by kernel_rfl) (fun _ _ _ h => h) (Or.inl ⟨by rfl, ?_⟩) (by assumption) ?_
    rotate_left
    · intro u hSw
      go_simp
      try (with_reducible rfl)
    try simp only [Act.put, List.setIfInBounds_toArray, List.set_cons_zero, List.set_cons_succ]
    refine wpAnyH_take (i := 16) (oi := ⟨_, _, _, _, _, _⟩) (v := ?_) rfl (by kernel_rfl) (by kernel_rfl) (by kernel_rfl) (fun _ _ _ h => h) (Or.inl ⟨by rfl, ?_⟩) (by assumption) ?_
    rotate_left
    · intro u hSw
      go_simp
      try (with_reducible rfl)
    try simp only [Act.put, List.setIfInBounds_toArray, List.set_cons_zero, List.set_cons_succ]
    refine wpAnyH_ready (rs := [17]) (by kernel_rfl) (by simp) ?_
    refine AllReadyH.cons (o := ⟨_, _, _, _, _, _⟩) rfl (fun K hK => ?_) AllReadyH.nil
    go_simp
    go_wp2_with fail
    refine hK.out _ _ (M3.setOther (a := ⟨gb, j * 34, none⟩) _ (by simp; omega)) (fun hHeld => ?_)
    clear hK K
    try simp only [Act.put, List.setIfInBounds_toArray, List.set_cons_zero, List.set_cons_succ]
    refine wpAnyH_done (by kernel_rfl) ?_ _
    have A4 := (A1.set (j * 34) (.int .u64 x)).drew
    rw [stA_bal hb.out h2'] at A4
    have own4 := own_bel (own_cellO (o := j * 34) (u := .int .u64 x) own1 hgb) (drew_bel _)
    have B4 := (B1.setCell (p := ⟨gb, j * 34, none⟩) (Nat.le_refl _) (.int .u64 x)).drew
    go_wp2_with fail
    go_end0
    refine DoPost.yes hact ?_ own4 hn B4
    rw [addB_some hb.out, ← hxe.out]
    exact A4
  · have hs : spd a m = false := by simpa using hs
    rw [hs, spP_f hs] at hS
    have hact : Hid (act ps os m = none) := Hid.mk' (by unfold act; rw [if_neg hk1, hi.out, Int.toNat_natCast, ha.out]; simp only [hs]; rfl)
    clear hs hk hk1
    replace hS := Hid.mk' hS
    go_enter Try.func65, Try.ntmps65
    go_wp2_with (first
      | (refine atL 95 (.tmp 3) ?_; refine ld27M (by rfl) (.tmp 3) (by rfl) w.heap.size 95 (by rfl) m hm M0 ?_)
      | (go_at_call 91; go_must (refine hS.out.mono ?_; rintro r w1 ⟨rfl, A1, hc1⟩)))
    have own1 := own_chg own0 hc1 hgb
    have B1 : Below gb w w1 := (W0.mono (by omega)).trans (hc1.below (fun k hk => ⟨by simp; omega, by omega⟩))
    go_end0
    exact DoPost.no hact A1 own1 hn B1
set_option maxHeartbeats 2000000 in
theorem do3_any (gb base : Nat) (ps : List Ac) (os : List Ou) (sp : Option Addr) (n cap : Nat) (m : Mg) (w : World) (hA : Arr w gb 127 (stA ps sp n cap)) (own : w.ownsRow base 66 2 (.slice sp n cap) n (ouF os)) (hgb : gb < base) (hbw : base ≤ w.heap.size) (h1 : ps.length = 32) (hok : ∀ a ∈ ps, AcOK a) (hn : Hid (n = os.length)) (hn32 : n ≤ 32) (hm : MgOK m) (hk : m.kd = 3) (hf : m.fr < 32) :
    Calls Try.prog 65 #[.pointer (some ⟨gb, 0, none⟩), .agg m.arr] w (DoPost gb base ps os m w) := by
  have h2 : ∀ a ∈ ps, a.lk.length = 32 := fun a ha => (hok a ha).l32
  have ht0 := hm.t0
  have hf0 := hm.f0
  have hlt := hA.lt
  have M0 := Arr.new w 95 m.arr
  have A0 := hA.alloc (.cells m.arr 95)
  have W0 := alloc_bel' w (.cells m.arr 95)
  have own0 := own_bel own W0
  have c0 := mg_c0 M0
  have c3 := mg_c3 M0
  rw [hk] at c0
  have hk1 : ¬ m.kd = 1 := by omega
  obtain ⟨i, hi⟩ : ∃ i : Nat, Hid (m.fr = (i : Int)) := ⟨m.fr.toNat, Hid.mk' (by omega)⟩
  have hi32 : i < 32 := by have := hi.out; omega
  obtain ⟨a, ha⟩ : ∃ a, Hid (ps[i]? = some a) := ⟨ps[i]'(by omega), Hid.mk' (List.getElem?_eq_getElem (by omega))⟩
  have hS := spend_any gb ps sp n cap m i a (w.alloc (.cells m.arr 95)) A0 h1 hok hm hi ha.out
  by_cases hs : spd a m = true
  · rw [hs, spP_t hs] at hS
    by_cases h32 : n < 32
    · have hact : Hid (act ps os m = some (ps.set i (spent a m), os ++ [⟨m.tw, m.am⟩])) := Hid.mk' (by unfold act; rw [if_neg hk1, hi.out, Int.toNat_natCast, ha.out]; simp only [hs, if_true]; rw [if_neg (by omega), if_pos (by rw [← hn.out]; exact h32)])
      have hsa := spent_ok (hok a (List.mem_of_getElem? ha.out)) hm hs
      have h2' : ∀ x ∈ ps.set i (spent a m), x.lk.length = 32 := fun x hx => (set_ok hok i hsa x hx).l32
      have hl' : (ps.set i (spent a m)).length = 32 := by rw [List.length_set, h1]
      have cO := A0.stOut h1 h2
      have hN : decide ((32 : Int) ≤ (n : Int)) = false := decide_eq_false (by omega)
      clear hs hk hk1
      generalize ps.set i (spent a m) = qs at *
      replace hS := Hid.mk' hS
      go_enter Try.func65, Try.ntmps65
      go_upto_region 10 with (first
        | (refine atL 95 (.tmp 3) ?_; refine ld27M (by rfl) (.tmp 3) (by rfl) w.heap.size 95 (by rfl) m hm M0 ?_)
        | (go_at_call 91; go_must (refine hS.out.mono ?_; rintro r w1 ⟨rfl, A1, hc1⟩)))
      have M1 := hc1.arr M0 (show ¬ w.heap.size = gb by omega)
      have own1 := own_chg own0 hc1 hgb
      have hz1 : w.heap.size + 1 ≤ w1.heap.size := by have := hc1.size; simpa using this
      have B1 : Below gb w w1 := (W0.mono (by omega)).trans (hc1.below (fun k hk => ⟨by simp; omega, by omega⟩))
      have A3 := A1.drew
      have M3 := M1.drew
      have B3 := B1.drew
      have own3 := own_bel own1 (drew_bel _)
      have cO3 := A3.stOut hl' h2'
      clear c0 c3 cO
      have hU1 : base ≤ w1.drew.heap.size := by rw [drew_size]; omega
      refine wp_region_held_drew (S := fun u => Arr u w.heap.size 95 m.arr) (by kernel_rfl) (M3) (fun hHeld => ?_)
      generalize w1.drew = U at *
      refine wpAnyH_take (i := 0) (oi := ⟨_, _, _, _, _, _⟩) (v := ?_) rfl (by kernel_rfl) (by kernel_rfl) (by kernel_rfl) (fun _ _ _ h => h) (Or.inl ⟨by rfl, ?_⟩) (by assumption) ?_
      rotate_left
      · intro u hSw
        go_simp
        try (with_reducible rfl)
      try simp only [Act.put, List.setIfInBounds_toArray, List.set_cons_zero, List.set_cons_succ]
      refine wpAnyH_take (i := 1) (oi := ⟨_, _, _, _, _, _⟩) (v := ?_) rfl (by kernel_rfl) (by kernel_rfl) (by kernel_rfl) (fun _ _ _ h => h) (Or.inl ⟨by rfl, ?_⟩) (by assumption) ?_
      rotate_left
      · intro u hSw
        go_simp
        try (with_reducible rfl)
      try simp only [Act.put, List.setIfInBounds_toArray, List.set_cons_zero, List.set_cons_succ]
      refine wpAnyH_take (i := 2) (oi := ⟨_, _, _, _, _, _⟩) (v := ?_) rfl (by kernel_rfl) (by kernel_rfl) (by kernel_rfl) (fun _ _ _ h => h) (Or.inl ⟨by rfl, ?_⟩) (by assumption) ?_
      rotate_left
      · intro u hSw
        go_simp
        try (with_reducible rfl)
      try simp only [Act.put, List.setIfInBounds_toArray, List.set_cons_zero, List.set_cons_succ]
      refine wpAnyH_take (i := 3) (oi := ⟨_, _, _, _, _, _⟩) (v := ?_) rfl (by kernel_rfl) (by kernel_rfl) (by kernel_rfl) (fun _ _ _ h => h) (Or.inl ⟨by rfl, ?_⟩) (by assumption) ?_
      rotate_left
      · intro u hSw
        go_simp
        try (with_reducible rfl)
      try simp only [Act.put, List.setIfInBounds_toArray, List.set_cons_zero, List.set_cons_succ]
      refine wpAnyH_take (i := 4) (oi := ⟨_, _, _, _, _, _⟩) (v := ?_) rfl (by kernel_rfl) (by kernel_rfl) (by kernel_rfl) (fun _ _ _ h => h) (Or.inl ⟨by rfl, ?_⟩) (by assumption) ?_
      rotate_left
      · intro u hSw
        go_simp
        try (with_reducible rfl)
      try simp only [Act.put, List.setIfInBounds_toArray, List.set_cons_zero, List.set_cons_succ]
      refine wpAnyH_take (i := 6) (oi := ⟨_, _, _, _, _, _⟩) (v := ?_) rfl (by kernel_rfl) (by kernel_rfl) (by kernel_rfl) (fun _ _ _ h => h) (Or.inl ⟨by rfl, ?_⟩) (by assumption) ?_
      rotate_left
      · intro u hSw
        go_simp
        try (with_reducible rfl)
      try simp only [Act.put, List.setIfInBounds_toArray, List.set_cons_zero, List.set_cons_succ]
      refine wpAnyH_take (i := 7) (oi := ⟨_, _, _, _, _, _⟩) (v := ?_) rfl (by kernel_rfl) (by kernel_rfl) (by kernel_rfl) (fun _ _ _ h => h) (Or.inl ⟨by rfl, ?_⟩) (by assumption) ?_
      rotate_left
      · intro u hSw
        have cc := mg_c2 hSw
        go_simp
        try (with_reducible rfl)
      try simp only [Act.put, List.setIfInBounds_toArray, List.set_cons_zero, List.set_cons_succ]
      refine wpAnyH_take (i := 8) (oi := ⟨_, _, _, _, _, _⟩) (v := ?_) rfl (by kernel_rfl) (by kernel_rfl) (by kernel_rfl) (fun _ _ _ h => h) (Or.inl ⟨by rfl, ?_⟩) (by assumption) ?_
      rotate_left
      · intro u hSw
        go_simp
        try (with_reducible rfl)
      try simp only [Act.put, List.setIfInBounds_toArray, List.set_cons_zero, List.set_cons_succ]
      refine wpAnyH_take (i := 9) (oi := ⟨_, _, _, _, _, _⟩) (v := ?_) rfl (by kernel_rfl) (by kernel_rfl) (by kernel_rfl) (fun _ _ _ h => h) (Or.inl ⟨by rfl, ?_⟩) (by assumption) ?_
      rotate_left
      · intro u hSw
        have cc := mg_c3 hSw
        go_simp
        try (with_reducible rfl)
      try simp only [Act.put, List.setIfInBounds_toArray, List.set_cons_zero, List.set_cons_succ]
      refine wpAnyH_take (i := 10) (oi := ⟨_, _, _, _, _, _⟩) rfl (by kernel_rfl) (by kernel_rfl) (by kernel_rfl) (fun _ _ _ h => h) (y_bd (by rfl) 66 #[(0, .tmp 75), (1, .tmp 77)] rfl rfl (built50 m.tw m.am)) (by assumption) ?_
      try simp only [Act.put, List.setIfInBounds_toArray, List.set_cons_zero, List.set_cons_succ]
      have own4 := own_bel own3 (alloc_bel' U (.cells (Ou.arr ⟨m.tw, m.am⟩) 66))
      have M4 := M3.alloc (.cells (Ou.arr ⟨m.tw, m.am⟩) 66)
      have A4 := A3.alloc (.cells (Ou.arr ⟨m.tw, m.am⟩) 66)
      have B4 := B3.alloc (by omega) (.cells (Ou.arr ⟨m.tw, m.am⟩) 66)
      refine wpAnyH_ready (rs := [5, 11]) (by kernel_rfl) (by simp) ?_
      refine AllReadyH.cons (o := ⟨_, _, _, _, _, _⟩) rfl (fun K hK => ?_) (AllReadyH.cons (o := ⟨_, _, _, _, _, _⟩) rfl (fun K hK => ?_) AllReadyH.nil)
      · skip
        go_simp
        go_wp2_with fail
        refine hK.out _ _ M3 (fun hHeld => ?_)
        clear hK K
        try simp only [Act.put, List.setIfInBounds_toArray, List.set_cons_zero, List.set_cons_succ]
        refine wpAnyH_ready (rs := [11]) (by kernel_rfl) (by simp) ?_
        refine AllReadyH.cons (o := ⟨_, _, _, _, _, _⟩) rfl (fun K hK => ?_) AllReadyH.nil
        refine step_want rfl (wp_bldO (.tmp 78) rfl ⟨m.tw, m.am⟩ rfl ?_)
        refine hK.out _ _ M4 (fun hHeld => ?_)
        clear hK K
        try simp only [Act.put, List.setIfInBounds_toArray, List.set_cons_zero, List.set_cons_succ]
        refine wpAnyH_ready (rs := [12]) (by kernel_rfl) (by simp) ?_
        refine AllReadyH.cons (o := ⟨_, _, _, _, _, _⟩) rfl (fun K hK => ?_) AllReadyH.nil
        refine step_want rfl (wp_ap53 (.tmp 73) (.tmp 79) rfl base _ n os ⟨m.tw, m.am⟩ rfl own4 U.heap.size 1 rfl (Arr.new U 66 _) (by omega) (by simp; omega) (fun v2 w2 own2 g2 => ?_))
        have M5 := M4.grown g2 (fun e => by have := own_lt own e.symm; omega)
        have A5 := A4.grown g2 (fun e => by have := own_ge own _ e.symm; omega)
        have B5 := B4.grown g2 (by simp; omega) (fun k e => by have := own_ge own k e; omega)
        obtain ⟨s2, c2, rfl⟩ := own_sliceO own2
        have cO5 := A5.stOut hl' h2'
        have fO5 := A5.frozen 1088
        have A6 := A5.set 1088 (.slice s2 (n + 1) c2)
        rw [stA_set hl' h2'] at A6
        have own6 := own_cellO (o := 1088) (u := .slice s2 (n + 1) c2) own2 hgb
        have B6 := B5.setCell (p := ⟨gb, 1088, none⟩) (Nat.le_refl _) (.slice s2 (n + 1) c2)
        refine hK.out _ _ M5 (fun hHeld => ?_)
        clear hK K
        try simp only [Act.put, List.setIfInBounds_toArray, List.set_cons_zero, List.set_cons_succ]
        refine wpAnyH_take (i := 13) (oi := ⟨_, _, _, _, _, _⟩) (v := ?_) rfl (by kernel_rfl) (by kernel_rfl) (by kernel_rfl) (fun _ _ _ h => h) (Or.inl ⟨by rfl, ?_⟩) (by assumption) ?_
        rotate_left
        · intro u hSw
          go_simp
          try (with_reducible rfl)
        try simp only [Act.put, List.setIfInBounds_toArray, List.set_cons_zero, List.set_cons_succ]
        refine wpAnyH_take (i := 14) (oi := ⟨_, _, _, _, _, _⟩) (v := ?_) rfl (by kernel_rfl) (by kernel_rfl) (by kernel_rfl) (fun _ _ _ h => h) (Or.inl ⟨by rfl, ?_⟩) (by assumption) ?_
        rotate_left
        · intro u hSw
          go_simp
          try (with_reducible rfl)
        try simp only [Act.put, List.setIfInBounds_toArray, List.set_cons_zero, List.set_cons_succ]
        refine wpAnyH_take (i := 15) (oi := ⟨_, _, _, _, _, _⟩) (v := ?_) rfl (by kernel_rfl) (by kernel_rfl) (by kernel_rfl) (fun _ _ _ h => h) (Or.inl ⟨by rfl, ?_⟩) (by assumption) ?_
        rotate_left
        · intro u hSw
          go_simp
          try (with_reducible rfl)
        try simp only [Act.put, List.setIfInBounds_toArray, List.set_cons_zero, List.set_cons_succ]
        refine wpAnyH_ready (rs := [16]) (by kernel_rfl) (by simp) ?_
        refine AllReadyH.cons (o := ⟨_, _, _, _, _, _⟩) rfl (fun K hK => ?_) AllReadyH.nil
        go_simp
        go_wp2_with fail
        refine hK.out _ _ (M5.setOther (a := ⟨gb, 1088, none⟩) _ (by simp; omega)) (fun hHeld => ?_)
        clear hK K
        try simp only [Act.put, List.setIfInBounds_toArray, List.set_cons_zero, List.set_cons_succ]
        refine wpAnyH_done (by kernel_rfl) ?_ _
        go_wp2_with fail
        go_end0
        exact DoPost.yes hact A6 own6 (Hid.mk' (by rw [List.length_append, hn.out]; rfl)) B6
      · skip
        refine step_want rfl (wp_bldO (.tmp 78) rfl ⟨m.tw, m.am⟩ rfl ?_)
        refine hK.out _ _ M4 (fun hHeld => ?_)
        clear hK K
        try simp only [Act.put, List.setIfInBounds_toArray, List.set_cons_zero, List.set_cons_succ]
        have cO4 := A4.stOut hl' h2'
        refine wpAnyH_ready (rs := [5]) (by kernel_rfl) (by simp) ?_
        refine AllReadyH.cons (o := ⟨_, _, _, _, _, _⟩) rfl (fun K hK => ?_) AllReadyH.nil
        go_simp
        go_wp2_with fail
        refine hK.out _ _ M4 (fun hHeld => ?_)
        clear hK K
        try simp only [Act.put, List.setIfInBounds_toArray, List.set_cons_zero, List.set_cons_succ]
        refine wpAnyH_ready (rs := [12]) (by kernel_rfl) (by simp) ?_
        refine AllReadyH.cons (o := ⟨_, _, _, _, _, _⟩) rfl (fun K hK => ?_) AllReadyH.nil
        refine step_want rfl (wp_ap53 (.tmp 73) (.tmp 79) rfl base _ n os ⟨m.tw, m.am⟩ rfl own4 U.heap.size 1 rfl (Arr.new U 66 _) (by omega) (by simp; omega) (fun v2 w2 own2 g2 => ?_))
        have M5 := M4.grown g2 (fun e => by have := own_lt own e.symm; omega)
        have A5 := A4.grown g2 (fun e => by have := own_ge own _ e.symm; omega)
        have B5 := B4.grown g2 (by simp; omega) (fun k e => by have := own_ge own k e; omega)
        obtain ⟨s2, c2, rfl⟩ := own_sliceO own2
        have cO5 := A5.stOut hl' h2'
        have fO5 := A5.frozen 1088
        have A6 := A5.set 1088 (.slice s2 (n + 1) c2)
        rw [stA_set hl' h2'] at A6
        have own6 := own_cellO (o := 1088) (u := .slice s2 (n + 1) c2) own2 hgb
        have B6 := B5.setCell (p := ⟨gb, 1088, none⟩) (Nat.le_refl _) (.slice s2 (n + 1) c2)
        refine hK.out _ _ M5 (fun hHeld => ?_)
        clear hK K
        try simp only [Act.put, List.setIfInBounds_toArray, List.set_cons_zero, List.set_cons_succ]
        refine wpAnyH_take (i := 13) (oi := ⟨_, _, _, _, _, _⟩) (v := ?_) rfl (by kernel_rfl) (by kernel_rfl) (by kernel_rfl) (fun _ _ _ h => h) (Or.inl ⟨by rfl, ?_⟩) (by assumption) ?_
        rotate_left
        · intro u hSw
          go_simp
          try (with_reducible rfl)
        try simp only [Act.put, List.setIfInBounds_toArray, List.set_cons_zero, List.set_cons_succ]
        refine wpAnyH_take (i := 14) (oi := ⟨_, _, _, _, _, _⟩) (v := ?_) rfl (by kernel_rfl) (by kernel_rfl) (by kernel_rfl) (fun _ _ _ h => h) (Or.inl ⟨by rfl, ?_⟩) (by assumption) ?_
        rotate_left
        · intro u hSw
          go_simp
          try (with_reducible rfl)
        try simp only [Act.put, List.setIfInBounds_toArray, List.set_cons_zero, List.set_cons_succ]
        refine wpAnyH_take (i := 15) (oi := ⟨_, _, _, _, _, _⟩) (v := ?_) rfl (by kernel_rfl) (by kernel_rfl) (by kernel_rfl) (fun _ _ _ h => h) (Or.inl ⟨by rfl, ?_⟩) (by assumption) ?_
        rotate_left
        · intro u hSw
          go_simp
          try (with_reducible rfl)
        try simp only [Act.put, List.setIfInBounds_toArray, List.set_cons_zero, List.set_cons_succ]
        refine wpAnyH_ready (rs := [16]) (by kernel_rfl) (by simp) ?_
        refine AllReadyH.cons (o := ⟨_, _, _, _, _, _⟩) rfl (fun K hK => ?_) AllReadyH.nil
        go_simp
        go_wp2_with fail
        refine hK.out _ _ (M5.setOther (a := ⟨gb, 1088, none⟩) _ (by simp; omega)) (fun hHeld => ?_)
        clear hK K
        try simp only [Act.put, List.setIfInBounds_toArray, List.set_cons_zero, List.set_cons_succ]
        refine wpAnyH_done (by kernel_rfl) ?_ _
        go_wp2_with fail
        go_end0
        exact DoPost.yes hact A6 own6 (Hid.mk' (by rw [List.length_append, hn.out]; rfl)) B6
    · have hact : Hid (act ps os m = none) := Hid.mk' (by unfold act; rw [if_neg hk1, hi.out, Int.toNat_natCast, ha.out]; simp only [hs, if_true]; rw [if_neg (by omega), if_neg (by rw [← hn.out]; exact h32)])
      have cO := A0.stOut h1 h2
      have hN : decide ((32 : Int) ≤ (n : Int)) = true := decide_eq_true (by omega)
      clear hs hk hk1 hS
      go_enter Try.func65, Try.ntmps65
      go_wp2_with fail
      go_end0
      exact DoPost.no hact A0 own0 hn (W0.mono (by omega))
  · have hs : spd a m = false := by simpa using hs
    rw [hs, spP_f hs] at hS
    have hact : Hid (act ps os m = none) := Hid.mk' (by unfold act; rw [if_neg hk1, hi.out, Int.toNat_natCast, ha.out]; simp only [hs]; rfl)
    have cO := A0.stOut h1 h2
    clear hs hk hk1
    replace hS := Hid.mk' hS
    by_cases h32 : n < 32
    · have hN : decide ((32 : Int) ≤ (n : Int)) = false := decide_eq_false (by omega)
      go_enter Try.func65, Try.ntmps65
      go_wp2_with (first
        | (refine atL 95 (.tmp 3) ?_; refine ld27M (by rfl) (.tmp 3) (by rfl) w.heap.size 95 (by rfl) m hm M0 ?_)
        | (go_at_call 91; go_must (refine hS.out.mono ?_; rintro r w1 ⟨rfl, A1, hc1⟩)))
      have own1 := own_chg own0 hc1 hgb
      have B1 : Below gb w w1 := (W0.mono (by omega)).trans (hc1.below (fun k hk => ⟨by simp; omega, by omega⟩))
      go_end0
      exact DoPost.no hact A1 own1 hn B1
    · have hN : decide ((32 : Int) ≤ (n : Int)) = true := decide_eq_true (by omega)
      clear hS
      go_enter Try.func65, Try.ntmps65
      go_wp2_with fail
      go_end0
      exact DoPost.no hact A0 own0 hn (W0.mono (by omega))
theorem do_any (gb base : Nat) (ps : List Ac) (os : List Ou) (sp : Option Addr) (n cap : Nat) (m : Mg) (w : World) (hA : Arr w gb 127 (stA ps sp n cap)) (own : w.ownsRow base 66 2 (.slice sp n cap) n (ouF os)) (hgb : gb < base) (hbw : base ≤ w.heap.size) (h1 : ps.length = 32) (hok : ∀ a ∈ ps, AcOK a) (hn : Hid (n = os.length)) (hn32 : n ≤ 32) (htt : (tt ps 0).isSome = true) (hm : MgOK m) (hmay : m.may = true) :
    Calls Try.prog 65 #[.pointer (some ⟨gb, 0, none⟩), .agg m.arr] w (DoPost gb base ps os m w) := by
  rcases may_kinds hm hmay with ⟨hk, ht, -⟩ | ⟨hk, hf, ht⟩ | ⟨hk, hf, -⟩
  · exact do1_any gb base ps os sp n cap m w hA own hgb hbw h1 hok hn htt hm hk ht
  · exact do2_any gb base ps os sp n cap m w hA own hgb hbw h1 hok hn hn32 hm hk hf ht
  · exact do3_any gb base ps os sp n cap m w hA own hgb hbw h1 hok hn hn32 hm hk hf
end Go.Proofs.Ytbhhbkoikocjgaa
