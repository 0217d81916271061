/- Layer spec: what the layers below give. -/
import Derived.Test.YtbhhbkoikocjgaaX01
import Derived.Test.YtbhhbkoikocjgaaX02
import Derived.Test.YtbhhbkoikocjgaaX03
import Derived.Test.YtbhhbkoikocjgaaX04
import Derived.Test.YtbhhbkoikocjgaaX05
import Derived.Test.YtbhhbkoikocjgaaX06
import Derived.Test.YtbhhbkoikocjgaaX07
import Derived.Test.YtbhhbkoikocjgaaX08
import Derived.Test.YtbhhbkoikocjgaaX11
import Derived.Test.YtbhhbkoikocjgaaX14
import Derived.Test.YtbhhbkoikocjgaaX15
import Derived.Test.YtbhhbkoikocjgaaX12
import Derived.Test.YtbhhbkoikocjgaaX16
import Derived.Test.YtbhhbkoikocjgaaX21
import Derived.Test.YtbhhbkoikocjgaaX17
import Derived.Test.YtbhhbkoikocjgaaX22
import Derived.Test.YtbhhbkoikocjgaaX23
import Derived.Test.YtbhhbkoikocjgaaX24
import Derived.BigQuiet
import Derived.BigRegion
import Derived.ChangeKeysEq
import Derived.ChangeOld
import Derived.Deep.DeepCutAuto
import Derived.Deep.DrawnRows
import Derived.Deep.MidRow
import Derived.Deep.QuietTactic
import Derived.Deep.RegionHeld3
import Derived.Deep.RegionLaw
import Derived.Deep.RegionWith
import Derived.Deep.WholeRow
import Derived.Great.BuildSlice
import Derived.Great.FillDense
import Derived.JoinedTies
import Derived.KernelRfl
import Derived.Laws.AppendOwnNone
import Derived.Laws.BitsLemmas
import Derived.Laws.BytesArg
import Derived.Laws.CopyOwn
import Derived.Laws.CopyRow
import Derived.Laws.MakeOwn
import Derived.Laws.OwnMore
import Derived.Laws.ResultCell
import Derived.Laws.Tables
import Derived.Lib.AppendZeros
import Derived.Lib.SlBytesConst
import Derived.Lib.SliceRun
import Derived.LoopIn
import Derived.LoopNIn
import Derived.Maps.AppendAt
import Derived.OpenShut
import Derived.OwnWalkIn
import Derived.ProofKit
import Derived.RangeFuncBound
import Derived.RangeFuncCalls
import Derived.RangeFuncLeaves
import Derived.RangeFuncNested
import Derived.RangeFuncRecord
import Derived.Shelf.Abstract
import Derived.Shelf.RegionOpen
import Derived.ShutString
import Derived.SizedLaws
import Derived.TacticsInMore
import Derived.WalkKit
import Derived.WalkLawsBesides
import Derived.WalkSpells
import GoSem.Claim
import GoSem.ClaimJoined
import GoSem.ClaimMapViews
namespace Go.Proofs.Ytbhhbkoikocjgaa
set_option linter.unusedSectionVars false
set_option maxHeartbeats 1000000
open Go.RowKit
set_option maxRecDepth 100000
set_option linter.unusedVariables false
set_option linter.unusedSimpArgs false

variable [DecidableEq Ac] [DecidableEq Ou] [DecidableEq Mg]
theorem own_cellN {w : World} {base n gb o : Nat} {v u : Value} {xs : List Value} (h : w.ownsRow base 66 2 v n xs) (hg : v.ownBlock ≠ some gb) : (w.setCell ⟨gb, o, none⟩ u).ownsRow base 66 2 v n xs :=
  own_same h (fun k hk => Below.heap_setCell _ _ _ _ (show k ≠ gb from fun e => hg (by rw [← e]; exact hk)))
theorem own_only {w w' : World} {base n gb : Nat} {v : Value} {xs : List Value} (h : w.ownsRow base 66 2 v n xs) (ho : Only gb w w') (hg : v.ownBlock ≠ some gb) : w'.ownsRow base 66 2 v n xs :=
  own_same h (fun k hk => ho.oth k (fun e => hg (by rw [← e]; exact hk)))
theorem ap53N {ops : Array Oper} {rest : List Oper} {o : Oper} {a : Act} {w : World} {Q : Exit → Act → World → Prop} (hgd : o.guard = none) (s x : Operand) (ho : o.op = .call { callee := .builtin .append, args := #[s, x], argTypes := #[28, 28] })
    (base : Nat) (v : Value) (n : Nat) (os : List Ou) (e : Ou) (hs : a.eval s = v) (hE : w.ownsRow base 66 2 v n (ouF os)) (gx c : Nat) (hx : a.eval x = .slice (some ⟨gx, 0, none⟩) 1 c) (hA : Arr w gx 66 e.arr) (hk : n ≤ 1000000000) (hbase : base ≤ w.heap.size)
    (h : ∀ v' w', w'.ownsRow base 66 2 v' (n + 1) (ouF (os ++ [e])) → w.grownBy w' v.ownBlock → (v'.ownBlock = v.ownBlock ∨ v'.ownBlock = some w.heap.size) → wpList Try.prog ops Q rest (a.put o.dst v') w') : wpList Try.prog ops Q (o :: rest) a w := by
  obtain ⟨i0, hi0, hz0, hz1, hz2⟩ := info_parts info53
  obtain ⟨v', w', hr, h2, h3, h4, h5⟩ := run_append_own_at (P := Try.prog) w base 28 o.type 66 i0 (.agg (Ou.arr ⟨0, 0⟩)) 2 16 Try.underlying28 hi0 hz0 hz1 hz2 rfl (by omega) v n _ hE ⟨gx, 0, none⟩ 1 c e.cells rfl (fun j u hj => by
    rw [Addr.add_mid]; exact hA.ou j u hj) e.one (by unfold maxLen; omega) (by omega) hbase
  refine wpList_plain hgd fun _ hK => ?_
  unfold Oper.wp execOp
  simp only [ho, resolve, invoke, builtin, Sem.run_bind, Sem.run_pure, Result.andThen_ok, List.map_toArray, List.map_cons, List.map_nil, hs, hx, hr]
  refine hK _ _ (h v' w' ?_ h3 h5)
  rw [ouF_app]
  simpa [ouF] using h2
set_option maxHeartbeats 2000000 in
theorem refDelta_no (ps : List Ac) (N : Nat) (sp : Option Addr) (n cap : Nat) (os : List Ou) (sb : Option Addr) (nb cb : Nat) (L : List Int) (w : World) (hS : SS N w ps sp n cap os) (hm : may ps n = false) : Calls Try.prog 29 #[.agg (stA ps sp n cap), .slice sb nb cb] w (DLPost ps os L w) := by
  have hS := hS.here
  have h1 := hS.a32.out
  have h2 := hS.l32
  have hok := hS.ok.out
  have hnsm := hS.outs.small
  have A0 := (Arr.new w 30 (stA ps sp n cap)).alloc (.cells (stA zs none 0 0) 30)
  have R0 : Arr ((w.alloc (.cells (stA ps sp n cap) 30)).alloc (.cells (stA zs none 0 0) 30)) (w.heap.size + 1) 30 (stA zs none 0 0) := by simpa using Arr.new (w.alloc (.cells (stA ps sp n cap) 30)) 30 (stA zs none 0 0)
  have B0 := (alloc_bel' w (.cells (stA ps sp n cap) 30)).alloc (by simp) (.cells (stA zs none 0 0) 30)
  have hz30 := zeroValue30
  have hzsz : (stA zs none 0 0).size = 1089 := stA_size zs_len zs_l32
  have hbz := built30z
  have hfin : Hid (may ps os.length = false) := Hid.mk' (by rw [← hS.outs.len.out]; exact hm)
  generalize hZ : stA zs none 0 0 = Z at A0 R0 B0 hz30 hzsz hbz
  replace hZ := Hid.mk' hZ
  go_enter Try.func29, Try.ntmps29
  go_upto_region 1 with fail
  generalize (w.alloc (.cells (stA ps sp n cap) 30)).alloc (.cells Z 30) = V at A0 R0 B0 ⊢
  have hM := refMay_any ps sp n cap V h1 hok hnsm
  rw [hm] at hM
  replace hM := Hid.mk' hM
  have hsz : (Try.prog.info? 30).map (·.size) = some Z.size := by rw [hzsz]; exact size30
  have hone : Z.all (·.oneCell') = true := by rw [← hZ.out]; exact stA_one zs none 0 0
  go_wp2_with (first
    | (refine atL 30 (.tmp 2) ?_; refine ld30 (by rfl) _ (by rfl) w.heap.size 30 (by rfl) ps sp n cap h1 h2 A0 ?_)
    | (go_at_call 19; go_must (refine hM.out.mono ?_; rintro r w1 ⟨rfl, hb1⟩; have R1 := R0.below hb1 R0.lt; have B1 := B0.trans (hb1.mono B0.size)))
    | (refine atB 30 ?_; refine bdT (by rfl) 30 #[] (by rfl) (by rfl) hbz ?_)
    | (refine atS 30 (.tmp 4) (.tmp 16) ?_; refine wpList_store_arr (by rfl) 30 (.tmp 4) (.tmp 16) (by rfl) (w.heap.size + 1) Z (by rfl) (by rfl) 30 _ R1 hsz (by rfl) hone ?_))
  have R2 := R1.setRow Z
  have B2 := below_setRow B1 (show w.heap.size ≤ w.heap.size + 1 by omega) Z
  subst hZ
  exact bodyPost_ret (v := .tuple #[.agg (stA zs none 0 0), .bool false, .int .i64 2]) (resD Try.results29 rfl rfl rfl zs_len zs_l32 R2) rfl (DLPost.no hfin.out B2)
set_option maxHeartbeats 8000000 in
theorem refDelta_ok (ps : List Ac) (N : Nat) (sp : Option Addr) (n cap : Nat) (os : List Ou) (sb : Option Addr) (nb cb : Nat) (L : List Int) (Nb : Nat) (w : World) (hS : SS N w ps sp n cap os) (hL : BS Nb w sb nb cb L) (hm : may ps n = true) : Calls Try.prog 29 #[.agg (stA ps sp n cap), .slice sb nb cb] w (DLPost ps os L w) := by
  have hS := hS.here
  have h1 := hS.a32.out
  have h2 := hS.l32
  have hok := hS.ok.out
  have hnsm := hS.outs.small
  have A0 := (Arr.new w 30 (stA ps sp n cap)).alloc (.cells (stA zs none 0 0) 30)
  have R0 : Arr ((w.alloc (.cells (stA ps sp n cap) 30)).alloc (.cells (stA zs none 0 0) 30)) (w.heap.size + 1) 30 (stA zs none 0 0) := by simpa using Arr.new (w.alloc (.cells (stA ps sp n cap) 30)) 30 (stA zs none 0 0)
  have B0 := (alloc_bel' w (.cells (stA ps sp n cap) 30)).alloc (by simp) (.cells (stA zs none 0 0) 30)
  have hz30 := zeroValue30
  have hzsz : (stA zs none 0 0).size = 1089 := stA_size zs_len zs_l32
  have hn32 := may_le hm
  have hoo := hS.outs.ok
  have hlen := hS.outs.len
  have hLb := hL.bts
  have hL := hL.here
  have hfin : Hid (may ps os.length = true) := Hid.mk' (by rw [← hS.outs.len.out]; exact hm)
  have htt : (tt ps 0).isSome = true := by unfold may at hm; simp only [Bool.and_eq_true] at hm; exact hm.1
  have z27 := zv27
  have hmz := Mg.size mg0_ok
  generalize hZ : stA zs none 0 0 = Z at A0 R0 B0 hz30 hzsz
  clear hZ
  go_enter Try.func29, Try.ntmps29
  go_upto_region 1 with fail
  generalize (w.alloc (.cells (stA ps sp n cap) 30)).alloc (.cells Z 30) = V at A0 R0 B0 ⊢
  have hM := refMay_any ps sp n cap V h1 hok hnsm
  rw [hm] at hM
  replace hM := Hid.mk' hM
  go_upto_region 3 with (first
    | (refine atL 30 (.tmp 2) ?_; refine ld30 (by rfl) _ (by rfl) w.heap.size 30 (by rfl) ps sp n cap h1 h2 A0 ?_)
    | (go_at_call 19; go_must (refine hM.out.mono ?_; rintro r w1 ⟨rfl, hb1⟩; have A1 := A0.below hb1 A0.lt; have R1 := R0.below hb1 R0.lt; have B1 := B0.trans (hb1.mono B0.size))))
  have hC := Hid.mk' (copyO_any ps _ sp n cap os w1 (hS.below B1) (by omega))
  go_upto_region 4 with (first
    | (refine atL 30 (.tmp 2) ?_; refine ld30 (by rfl) _ (by rfl) w.heap.size 30 (by rfl) ps sp n cap h1 h2 A1 ?_)
    | (go_at_call 21; go_must (refine hC.out.mono ?_; rintro r w2 ⟨s2, c2, rfl, own2, hb2⟩))
    | (refine atS 30 (.tmp 7) (.tmp 18) ?_; refine st30n (by rfl) _ _ (by rfl) w2 w2.heap.size rfl hzsz ps s2 n c2 (by rfl) (by rfl) h1 h2 ?_))
  have hbase := R1.lt
  have hz2 := hb2.size
  have A2 := (A1.below hb2 A1.lt).alloc (.cells (stA ps s2 n c2) 30)
  have R2 := (R1.below hb2 R1.lt).alloc (.cells (stA ps s2 n c2) 30)
  have T2 := Arr.new w2 30 (stA ps s2 n c2)
  have B2 := (B1.trans (hb2.mono B1.size)).alloc (Nat.le_trans B1.size hz2) (.cells (stA ps s2 n c2) 30)
  have own3 := own_bel own2 (alloc_bel' w2 (.cells (stA ps s2 n c2) 30))
  have hneT : (Value.slice s2 n c2).ownBlock ≠ some w2.heap.size := fun e => by have := own_lt own2 e; omega
  have hW2 : w2.heap.size < (w2.alloc (.cells (stA ps s2 n c2) 30)).heap.size := by simp
  generalize w2.alloc (.cells (stA ps s2 n c2) 30) = W2 at *
  generalize w2.heap.size = GT at *
  generalize w1.heap.size = BS1 at *
  have hgt : w.heap.size + 1 < GT := by omega
  clear hb2 own2 A1 R1 B1 A0 R0 B0 hM hb1 hC
  have hmo := rdM_ok hLb
  have hRd := refRead_any sb nb cb _ L W2 (hL.below B2)
  unfold RPost at hRd
  have hmy := Hid.mk' (fun h => rdE_may (L := L) h)
  by_cases he : rdE L = 0
  · have hdl : Hid (dlt ps os L = act ps os (rdM L)) := Hid.mk' (by unfold dlt; rw [if_pos he])
    rw [he] at hRd
    have hmy := hmy.out he
    generalize rdM L = m at *
    replace hRd := Hid.mk' hRd
    clear he
    go_upto_region 5 with (first
      | (go_at_call 47; go_must (refine hRd.out.mono ?_; rintro r w6 ⟨rfl, hb6⟩))
      | (refine atS 95 (.tmp 8) (.tmp 22) ?_; refine st27n (by rfl) _ _ (by rfl) w6 w6.heap.size rfl hmz m (by rfl) (by rfl) hmo ?_))
    have hz6 := hb6.size
    have A6 := (A2.below hb6 A2.lt).alloc (.cells m.arr 95)
    have R6 := (R2.below hb6 R2.lt).alloc (.cells m.arr 95)
    have T6 := (T2.below hb6 T2.lt).alloc (.cells m.arr 95)
    have own6 := own_bel (own_bel own3 hb6) (alloc_bel' w6 (.cells m.arr 95))
    have B6 := (B2.trans (hb6.mono B2.size)).alloc (Nat.le_trans B2.size hz6) (.cells m.arr 95)
    have M6 := Arr.new w6 95 m.arr
    have hgm : GT < w6.heap.size := by omega
    generalize w6.alloc (.cells m.arr 95) = W6 at *
    generalize w6.heap.size = GM at *
    clear A2 R2 T2 B2 own3 hb6 hRd
    have c0 := mg_c0 M6
    have c3 := mg_c3 M6
    have ht0 := hmo.t0
    have hf0 := hmo.f0
    have ma0 := hmo.a0
    have ma1 := hmo.a1
    rcases may_kinds hmo hmy with ⟨hk, ht, -⟩ | ⟨hk, hf, ht⟩ | ⟨hk, hf, -⟩
    · skip
      rw [hk] at c0
      have hTt := refTotal_any ps sp n cap W6 h1 hok
      have e0 : ttE ps = 0 := by unfold ttE; rw [if_pos htt]
      rw [e0] at hTt
      have hvr := ttV_rng hok
      obtain ⟨j, hj⟩ : ∃ j : Nat, Hid (m.tw = (j : Int)) := ⟨m.tw.toNat, Hid.mk' (by omega)⟩
      have hj32 : j < 32 := by have := hj.out; omega
      have hJ : (j : Int) < 32 := by omega
      obtain ⟨b, hb⟩ : ∃ b, Hid (ps[j]? = some b) := ⟨ps[j]'(by omega), Hid.mk' (List.getElem?_eq_getElem (by omega))⟩
      by_cases hr : m.am ≤ 4611686018427387904 - ttV ps
      · have hact : Hid (dlt ps os L = some (addB ps j m.am, os)) := Hid.mk' (by rw [hdl.out]; unfold act; rw [if_pos hk, if_pos hr, hj.out, Int.toNat_natCast])
        clear hk e0
        generalize ttV ps = tv at *
        have hw : (4611686018427387904 - tv) % 18446744073709551616 = 4611686018427387904 - tv := by omega
        have hr' : decide (4611686018427387904 - tv < m.am) = false := decide_eq_false (by omega)
        replace hTt := Hid.mk' hTt
        go_upto_region 9 with (first
          | (refine atL 30 (.tmp 2) ?_; refine ld30 (by rfl) _ (by rfl) w.heap.size 30 (by rfl) ps sp n cap h1 h2 A6 ?_)
          | (go_at_call 20; go_must (refine hTt.out.mono ?_; rintro r w7 ⟨rfl, hb7⟩)))
        have R7 := R6.below hb7 R6.lt
        have T7 := T6.below hb7 T6.lt
        have M7 := M6.below hb7 M6.lt
        have own7 := own_bel own6 hb7
        have B7 := B6.trans (hb7.mono B6.size)
        have c7 := mg_c3 M7
        go_upto_region 11 with fail
        clear c0 c3 c7
        have A3 := (T7).drew
        have M3 := (M7).drew
        have cB := ac_c0 (A3.stAt h2 hb.out)
        have fB := A3.frozen (j * 34)
        obtain ⟨x, hX⟩ : ∃ x, IntKind.u64.wrap (b.bal + m.am) = x := ⟨_, rfl⟩
        have hxe : Hid (x = (b.bal + m.am) % 18446744073709551616) := Hid.mk' (by rw [← hX, wrapB])
        refine wp_region_held_drew (S := fun u => Arr u GM 95 m.arr) (by kernel_rfl) (M3) (fun hHeld => ?_)
        refine wpAnyH_take (i := 0) (oi := ⟨_, _, _, _, _, _⟩) (v := ?_) rfl (by kernel_rfl) (by kernel_rfl) (by kernel_rfl) (fun _ _ _ h => h) (Or.inl ⟨by rfl, ?_⟩) (by assumption) ?_
        rotate_left
        · intro u hSw
          go_simp
          try (with_reducible rfl)
        try simp only [Act.put, List.setIfInBounds_toArray, List.set_cons_zero, List.set_cons_succ]
        refine wpAnyH_take (i := 1) (oi := ⟨_, _, _, _, _, _⟩) (v := ?_) rfl (by kernel_rfl) (by kernel_rfl) (by kernel_rfl) (fun _ _ _ h => h) (Or.inl ⟨by rfl, ?_⟩) (by assumption) ?_
        rotate_left
        · intro u hSw
          have cc := mg_c2 hSw
          rw [hj.out] at cc
          go_simp
          try (with_reducible rfl)
        try simp only [Act.put, List.setIfInBounds_toArray, List.set_cons_zero, List.set_cons_succ]
        refine wpAnyH_take (i := 2) (oi := ⟨_, _, _, _, _, _⟩) (v := ?_) rfl (by kernel_rfl) (by kernel_rfl) (by kernel_rfl) (fun _ _ _ h => h) (Or.inl ⟨by rfl, ?_⟩) (by assumption) ?_
        rotate_left
        · intro u hSw
          go_simp
          try (with_reducible rfl)
        try simp only [Act.put, List.setIfInBounds_toArray, List.set_cons_zero, List.set_cons_succ]
        refine wpAnyH_take (i := 3) (oi := ⟨_, _, _, _, _, _⟩) (v := ?_) rfl (by kernel_rfl) (by kernel_rfl) (by kernel_rfl) (fun _ _ _ h => h) (Or.inl ⟨by rfl, ?_⟩) (by assumption) ?_
        rotate_left
        · intro u hSw
          go_simp
          try (with_reducible rfl)
        try simp only [Act.put, List.setIfInBounds_toArray, List.set_cons_zero, List.set_cons_succ]
        refine wpAnyH_take (i := 4) (oi := ⟨_, _, _, _, _, _⟩) (v := ?_) rfl (by kernel_rfl) (by kernel_rfl) (by kernel_rfl) (fun _ _ _ h => h) (Or.inl ⟨by rfl, ?_⟩) (by assumption) ?_
        rotate_left
        · intro u hSw
          go_simp
          try (with_reducible rfl)
        try simp only [Act.put, List.setIfInBounds_toArray, List.set_cons_zero, List.set_cons_succ]
        refine wpAnyH_take (i := 6) (oi := ⟨_, _, _, _, _, _⟩) (v := ?_) rfl (by kernel_rfl) (by kernel_rfl) (by kernel_rfl) (fun _ _ _ h => h) (Or.inl ⟨by rfl, ?_⟩) (by assumption) ?_
        rotate_left
        · intro u hSw
          go_simp
          try (with_reducible rfl)
        try simp only [Act.put, List.setIfInBounds_toArray, List.set_cons_zero, List.set_cons_succ]
        refine wpAnyH_take (i := 7) (oi := ⟨_, _, _, _, _, _⟩) (v := ?_) rfl (by kernel_rfl) (by kernel_rfl) (by kernel_rfl) (fun _ _ _ h => h) (Or.inl ⟨by rfl, ?_⟩) (by assumption) ?_
        rotate_left
        · intro u hSw
          have cc := mg_c3 hSw
          go_simp
          try (with_reducible rfl)
        try simp only [Act.put, List.setIfInBounds_toArray, List.set_cons_zero, List.set_cons_succ]
        refine wpAnyH_take (i := 9) (oi := ⟨_, _, _, _, _, _⟩) (v := ?_) rfl (by kernel_rfl) (by kernel_rfl) (by kernel_rfl) (fun _ _ _ h => h) (Or.inl ⟨by rfl, ?_⟩) (by assumption) ?_
        rotate_left
        · intro u hSw
          go_simp
          try (with_reducible rfl)
        try simp only [Act.put, List.setIfInBounds_toArray, List.set_cons_zero, List.set_cons_succ]
        refine wpAnyH_ready (rs := [5]) (by kernel_rfl) (by simp) ?_
        refine AllReadyH.cons (o := ⟨_, _, _, _, _, _⟩) rfl (fun K hK => ?_) AllReadyH.nil
        go_simp
        go_wp2_with fail
        refine hK.out _ _ M3 (fun hHeld => ?_)
        clear hK K
        try simp only [Act.put, List.setIfInBounds_toArray, List.set_cons_zero, List.set_cons_succ]
        refine wpAnyH_take (i := 8) (oi := ⟨_, _, _, _, _, _⟩) (v := ?_) rfl (by kernel_rfl) (by kernel_rfl) (by kernel_rfl) (fun _ _ _ h => h) (Or.inl ⟨by rfl, ?_⟩) (by assumption) ?_
        rotate_left
        · intro u hSw
          go_simp
          try (with_reducible rfl)
        try simp only [Act.put, List.setIfInBounds_toArray, List.set_cons_zero, List.set_cons_succ]
        refine wpAnyH_take (i := 10) (oi := ⟨_, _, _, _, _, _⟩) (v := ?_) rfl (by kernel_rfl) (by kernel_rfl) (by kernel_rfl) (fun _ _ _ h => h) (Or.inl ⟨by rfl, ?_⟩) (by assumption) ?_
        rotate_left
        · intro u hSw
          go_simp
          try (with_reducible rfl)
        try simp only [Act.put, List.setIfInBounds_toArray, List.set_cons_zero, List.set_cons_succ]
        refine wpAnyH_take (i := 11) (oi := ⟨_, _, _, _, _, _⟩) (v := ?_) rfl (by kernel_rfl) (by kernel_rfl) (by kernel_rfl) (fun _ _ _ h => h) (Or.inl ⟨by rfl, ?_⟩) (by assumption) ?_
        rotate_left
        · intro u hSw
          go_simp
          try (with_reducible rfl)
        try simp only [Act.put, List.setIfInBounds_toArray, List.set_cons_zero, List.set_cons_succ]
        refine wpAnyH_ready (rs := [12]) (by kernel_rfl) (by simp) ?_
        refine AllReadyH.cons (o := ⟨_, _, _, _, _, _⟩) rfl (fun K hK => ?_) AllReadyH.nil
        go_simp
        go_wp2_with fail
        refine hK.out _ _ (M3.setOther (a := ⟨GT, j * 34, none⟩) _ (by simp; omega)) (fun hHeld => ?_)
        clear hK K
        try simp only [Act.put, List.setIfInBounds_toArray, List.set_cons_zero, List.set_cons_succ]
        refine wpAnyH_done (by kernel_rfl) ?_ _
        have A4 := ((T7).set (j * 34) (.int .u64 x)).drew
        have eq4 : ps.set j ⟨x, b.non, b.lk⟩ = addB ps j m.am := by rw [addB_some hb.out, ← hxe.out]
        rw [stA_bal hb.out h2, eq4] at A4
        clear eq4
        have R4 := ((R7).setOther (a := ⟨GT, j * 34, none⟩) (.int .u64 x) (by simp; omega)).drew
        have own4 := own_bel (own_cellN (o := j * 34) (u := .int .u64 x) (own7) hneT) (drew_bel _)
        have B4 := ((B7).setCell (p := ⟨GT, j * 34, none⟩) (by show w.heap.size ≤ GT; omega) (.int .u64 x)).drew
        have hq1 : (addB ps j m.am).length = 32 := by rw [addB_len, h1]
        have hq2 : ∀ a ∈ addB ps j m.am, a.lk.length = 32 := fun a ha => (addB_ok hok j m.am a ha).l32
        generalize addB ps j m.am = Q at *
        have hszQ : (Try.prog.info? 30).map (·.size) = some (stA Q s2 n c2).size := by rw [stA_size hq1 hq2]; exact size30
        go_wp2_with (first
          | go_skip
          | (refine atL 30 (.tmp 7) ?_; refine ld30 (by rfl) _ (by rfl) GT 30 (by rfl) Q s2 n c2 hq1 hq2 A4 ?_)
          | (refine atS 30 (.tmp 4) (.tmp 53) ?_; refine wpList_store_arr (by rfl) 30 (.tmp 4) (.tmp 53) (by rfl) (w.heap.size + 1) (stA Q s2 n c2) (by rfl) (by rfl) 30 _ R4 hszQ (by rw [hzsz, stA_size hq1 hq2]) (stA_one Q s2 n c2) ?_))
        have R9 := (R4).setRow (stA Q s2 n c2)
        have own9 := own_row (own4) (stA Q s2 n c2) hbase
        have B9 := below_setRow (B4) (show w.heap.size ≤ w.heap.size + 1 by omega) (stA Q s2 n c2)
        exact bodyPost_ret (v := .tuple #[.agg (stA Q s2 n c2), .bool true, .int .i64 0]) (resD Try.results29 rfl rfl rfl hq1 hq2 R9) rfl (DLPost.did hfin.out hact.out (own_mono own9 (by omega)) hlen B9)
      · have hact : Hid (dlt ps os L = none) := Hid.mk' (by rw [hdl.out]; unfold act; rw [if_pos hk, if_neg hr])
        clear hk e0
        generalize ttV ps = tv at *
        have hw : (4611686018427387904 - tv) % 18446744073709551616 = 4611686018427387904 - tv := by omega
        have hr' : decide (4611686018427387904 - tv < m.am) = true := decide_eq_true (by omega)
        replace hTt := Hid.mk' hTt
        go_upto_region 9 with (first
          | (refine atL 30 (.tmp 2) ?_; refine ld30 (by rfl) _ (by rfl) w.heap.size 30 (by rfl) ps sp n cap h1 h2 A6 ?_)
          | (go_at_call 20; go_must (refine hTt.out.mono ?_; rintro r w7 ⟨rfl, hb7⟩)))
        have R7 := R6.below hb7 R6.lt
        have T7 := T6.below hb7 T6.lt
        have M7 := M6.below hb7 M6.lt
        have own7 := own_bel own6 hb7
        have B7 := B6.trans (hb7.mono B6.size)
        have c7 := mg_c3 M7
        have hszQ : (Try.prog.info? 30).map (·.size) = some (stA ps s2 n c2).size := by rw [stA_size h1 h2]; exact size30
        go_wp2_with (first
          | go_skip
          | (refine atL 30 (.tmp 7) ?_; refine ld30 (by rfl) _ (by rfl) GT 30 (by rfl) ps s2 n c2 h1 h2 T7 ?_)
          | (refine atS 30 (.tmp 4) (.tmp 40) ?_; refine wpList_store_arr (by rfl) 30 (.tmp 4) (.tmp 40) (by rfl) (w.heap.size + 1) (stA ps s2 n c2) (by rfl) (by rfl) 30 _ R7 hszQ (by rw [hzsz, stA_size h1 h2]) (stA_one ps s2 n c2) ?_))
        have R9 := (R7).setRow (stA ps s2 n c2)
        have own9 := own_row (own7) (stA ps s2 n c2) hbase
        have B9 := below_setRow (B7) (show w.heap.size ≤ w.heap.size + 1 by omega) (stA ps s2 n c2)
        exact bodyPost_ret (v := .tuple #[.agg (stA ps s2 n c2), .bool false, .int .i64 0]) (resD Try.results29 rfl rfl rfl h1 h2 R9) rfl (DLPost.stay hfin.out hact.out (own_mono own9 (by omega)) hlen B9)
    · skip
      rw [hk] at c0
      have hk1 : ¬ m.kd = 1 := by omega
      have c1 := mg_c1 M6
      obtain ⟨i, hi⟩ : ∃ i : Nat, Hid (m.fr = (i : Int)) := ⟨m.fr.toNat, Hid.mk' (by omega)⟩
      rw [hi.out] at c1
      have hi32 : i < 32 := by have := hi.out; omega
      have hI : (i : Int) < 32 := by omega
      obtain ⟨a, ha⟩ : ∃ a, Hid (ps[i]? = some a) := ⟨ps[i]'(by omega), Hid.mk' (List.getElem?_eq_getElem (by omega))⟩
      have hao := hok a (List.mem_of_getElem? ha.out)
      have hal := hao.l32
      have b0 := hao.b0
      have b1 := hao.b1
      have n0 := hao.n0
      have n1 := hao.n1
      have hactE : Hid (act ps os m = if spd a m = true then (if m.kd = 2 then some (addB (ps.set m.fr.toNat (spent a m)) m.tw.toNat m.am, os) else if os.length < 32 then some (ps.set m.fr.toNat (spent a m), os ++ [⟨m.tw, m.am⟩]) else none) else none) := Hid.mk' (by
        have h3 : ps[m.fr.toNat]? = some a := by rw [hi.out, Int.toNat_natCast]; exact ha.out
        unfold act; rw [if_neg hk1, h3])
      go_upto_region 14 with (first
        | (refine atL 26 (.tmp 57) ?_; refine ld26 (by rfl) _ (by rfl) w.heap.size (i * 34) (by rfl) a hal (A6.stAt h2 ha.out) ?_)
        | (refine atS 26 (.tmp 12) (.tmp 58) ?_; refine st26n (by rfl) _ _ (by rfl) W6 W6.heap.size rfl (by rfl) a (by rfl) (by rfl) hal ?_))
      have C7 := Arr.new W6 26 a.arr
      have A7 := A6.alloc (.cells a.arr 26)
      have R7 := R6.alloc (.cells a.arr 26)
      have T7 := T6.alloc (.cells a.arr 26)
      have M7 := M6.alloc (.cells a.arr 26)
      have own7 := own_bel own6 (alloc_bel' W6 (.cells a.arr 26))
      have B7 := B6.alloc B6.size (.cells a.arr 26)
      have hgc := M6.lt
      generalize W6.alloc (.cells a.arr 26) = W7 at *
      generalize W6.heap.size = GC at *
      clear A6 R6 T6 M6 own6 B6 c0 c1 c3
      have hO := Hid.mk' (refOpens_any a m W7 hao hmo)
      have hspd : Hid (spd a m = (opn a m && (decide (m.am ≤ a.bal) && !decide (a.non = 18446744073709551615)))) := Hid.mk' rfl
      by_cases ho : opn a m = true
      · have hO' := hO
        rw [ho] at hO'
        replace hspd : Hid (spd a m = (decide (m.am ≤ a.bal) && !decide (a.non = 18446744073709551615))) := Hid.mk' (by rw [hspd.out, ho]; rfl)
        clear ho
        by_cases hb2 : m.am ≤ a.bal
        · have hb' : decide (a.bal < m.am) = false := decide_eq_false (by omega)
          by_cases hn2 : a.non = 18446744073709551615
          · have hwn : IntKind.u64.wrap (a.non + 1) = 0 := by rw [wrapB, hn2]; rfl
            have hact : Hid (dlt ps os L = none) := Hid.mk' (by rw [hdl.out, hactE.out, hspd.out, decide_eq_true hn2, Bool.not_true, Bool.and_false]; rfl)
            clear hn2 hb2 hO
            go_upto_region 15 with (first
              | go_skip
              | (refine atL 26 (.tmp 12) ?_; refine ld26 (by rfl) _ (by rfl) GC 0 (by rfl) a hal C7.ac ?_)
              | (refine atL 95 (.tmp 8) ?_; refine ld27M (by rfl) (.tmp 8) (by rfl) GM 95 (by rfl) m hmo M7 ?_)
              | (go_at_call 48; go_must (refine hO'.out.mono ?_; rintro r w8 ⟨rfl, hb8⟩; have C8 := C7.below hb8 C7.lt; have A8 := A7.below hb8 A7.lt; have R8 := R7.below hb8 R7.lt; have T8 := T7.below hb8 T7.lt; have M8 := M7.below hb8 M7.lt; have own8 := own_bel own7 hb8; have B8 := B7.trans (hb8.mono B7.size); have k0 := mg_c0 M8; rw [hk] at k0; have k3 := mg_c3 M8; have d0 := ac_c0 C8.ac; have d1 := ac_c1 C8.ac; have cO8 := A8.stOut h1 h2; simp only [Nat.zero_add] at d1)))
            have hszQ : (Try.prog.info? 30).map (·.size) = some (stA ps s2 n c2).size := by rw [stA_size h1 h2]; exact size30
            go_wp2_with (first
              | go_skip
              | (refine atL 30 (.tmp 7) ?_; refine ld30 (by rfl) _ (by rfl) GT 30 (by rfl) ps s2 n c2 h1 h2 T8 ?_)
              | (refine atS 30 (.tmp 4) (.tmp 87) ?_; refine wpList_store_arr (by rfl) 30 (.tmp 4) (.tmp 87) (by rfl) (w.heap.size + 1) (stA ps s2 n c2) (by rfl) (by rfl) 30 _ R8 hszQ (by rw [hzsz, stA_size h1 h2]) (stA_one ps s2 n c2) ?_))
            have R9 := (R8).setRow (stA ps s2 n c2)
            have own9 := own_row (own8) (stA ps s2 n c2) hbase
            have B9 := below_setRow (B8) (show w.heap.size ≤ w.heap.size + 1 by omega) (stA ps s2 n c2)
            exact bodyPost_ret (v := .tuple #[.agg (stA ps s2 n c2), .bool false, .int .i64 0]) (resD Try.results29 rfl rfl rfl h1 h2 R9) rfl (DLPost.stay hfin.out hact.out (own_mono own9 (by omega)) hlen B9)
          · have hwn' : IntKind.u64.wrap (a.non + 1) = a.non + 1 := wrap64_of (by omega) (by omega)
            have hwz : (a.non + 1 == 0) = false := by simp; omega
            have hspt : spd a m = true := by rw [hspd.out, decide_eq_true hb2, decide_eq_false hn2]; rfl
            have hws' : IntKind.u64.wrap (a.bal - m.am) = a.bal - m.am := wrap64_of (by omega) (by omega)
            have hsa := spent_ok hao hmo hspt
            have hset : Hid (ps.set i (spent a m) = ps.set m.fr.toNat (spent a m)) := Hid.mk' (by rw [hi.out, Int.toNat_natCast])
            have h2' : ∀ x ∈ ps.set i (spent a m), x.lk.length = 32 := fun x hx => (set_ok hok i hsa x hx).l32
            have hok' := set_ok hok i hsa
            have hl' : (ps.set i (spent a m)).length = 32 := by rw [List.length_set, h1]
            clear hn2 hb2 hO
            obtain ⟨j, hj⟩ : ∃ j : Nat, Hid (m.tw = (j : Int)) := ⟨m.tw.toNat, Hid.mk' (by omega)⟩
            have hj32 : j < 32 := by have := hj.out; omega
            have hJ : (j : Int) < 32 := by omega
            have hact : Hid (dlt ps os L = some (addB (ps.set i (spent a m)) j m.am, os)) := Hid.mk' (by rw [hdl.out, hactE.out, if_pos hspt, if_pos hk, hset.out, hj.out, Int.toNat_natCast])
            go_upto_region 16 with (first
              | go_skip
              | (refine atL 26 (.tmp 12) ?_; refine ld26 (by rfl) _ (by rfl) GC 0 (by rfl) a hal C7.ac ?_)
              | (refine atL 95 (.tmp 8) ?_; refine ld27M (by rfl) (.tmp 8) (by rfl) GM 95 (by rfl) m hmo M7 ?_)
              | (go_at_call 48; go_must (refine hO'.out.mono ?_; rintro r w8 ⟨rfl, hb8⟩; have C8 := C7.below hb8 C7.lt; have A8 := A7.below hb8 A7.lt; have R8 := R7.below hb8 R7.lt; have T8 := T7.below hb8 T7.lt; have M8 := M7.below hb8 M7.lt; have own8 := own_bel own7 hb8; have B8 := B7.trans (hb8.mono B7.size); have k0 := mg_c0 M8; rw [hk] at k0; have k3 := mg_c3 M8; have d0 := ac_c0 C8.ac; have d1 := ac_c1 C8.ac; have cO8 := A8.stOut h1 h2; simp only [Nat.zero_add] at d1)))
            have hth : w8.there GT (i * 34) (Ac.arr (spent a m)).size := arr_there T8 (by rw [stA_size h1 h2, Ac.size hsa.l32]; omega)
            have hb26 := built26 (a.bal - m.am) (a.non + 1) m.nx hmo.nl
            have hs26 : (Try.prog.info? 26).map (·.size) = some (Ac.arr (spent a m)).size := s26 hsa.l32
            have k1 := mg_c1 M8
            rw [hi.out] at k1
            obtain ⟨T9, O9⟩ := arr_setCells (spent a m).cells (i * 34) w8 _ T8
            rw [stA_acc ha.out h2 hsa.l32] at T9
            have R9 := O9.arr R8 (show w.heap.size + 1 ≠ GT by omega)
            have M9 := O9.arr M8 (show GM ≠ GT by omega)
            have own9 := own_only own8 O9 hneT
            have B9 := B8.trans (O9.bel.mono (show w.heap.size ≤ GT by omega))
            go_upto_region 17 with (first
              | (refine atL 24 (.tmp 98) ?_; refine ld25 (by rfl) (.tmp 98) (by rfl) GM 37 (by rfl) m.nx hmo.nl (mg_nx M8 hmo.kl) ?_)
              | (refine atB 26 ?_; refine bdT (by rfl) 26 #[(0, .tmp 94), (1, .tmp 97), (2, .tmp 99)] (by rfl) (by rfl) hb26 ?_)
              | (refine atS 26 (.tmp 102) (.tmp 100) ?_; refine wpList_store_mid (by rfl) 26 (.tmp 102) (.tmp 100) (by rfl) GT (i * 34) (Ac.arr (spent a m)) (by rfl) (by rfl) hth hs26 (Ac.oneA _) ?_))
            have e9 : w8.setCells GT (i * 34) (Ac.arr (spent a m)).toList = w8.setCells GT (i * 34) (spent a m).cells := rfl
            try rw [e9]
            generalize w8.setCells GT (i * 34) (spent a m).cells = W9 at *
            clear e9
            have k9 := mg_c0 M9
            rw [hk] at k9
            clear C7 C8 A7 A8 R7 R8 T7 T8 M7 M8 own7 own8 B7 B8 k0 k1 k3 d0 d1 cO8 hth hb26 hs26 O9
            generalize ps.set i (spent a m) = qs at *
            obtain ⟨b, hb⟩ : ∃ b, Hid (qs[j]? = some b) := ⟨qs[j]'(by omega), Hid.mk' (List.getElem?_eq_getElem (by omega))⟩
            go_upto_region 18 with fail
            clear k9
            have A3 := (T9).drew
            have M3 := (M9).drew
            have cB := ac_c0 (A3.stAt h2' hb.out)
            have fB := A3.frozen (j * 34)
            obtain ⟨x, hX⟩ : ∃ x, IntKind.u64.wrap (b.bal + m.am) = x := ⟨_, rfl⟩
            have hxe : Hid (x = (b.bal + m.am) % 18446744073709551616) := Hid.mk' (by rw [← hX, wrapB])
            refine wp_region_held_drew (S := fun u => Arr u GM 95 m.arr) (by kernel_rfl) (M3) (fun hHeld => ?_)
            refine wpAnyH_take (i := 0) (oi := ⟨_, _, _, _, _, _⟩) (v := ?_) rfl (by kernel_rfl) (by kernel_rfl) (by kernel_rfl) (fun _ _ _ h => h) (Or.inl ⟨by rfl, ?_⟩) (by assumption) ?_
            rotate_left
            · intro u hSw
              go_simp
              try (with_reducible rfl)
            try simp only [Act.put, List.setIfInBounds_toArray, List.set_cons_zero, List.set_cons_succ]
            refine wpAnyH_take (i := 1) (oi := ⟨_, _, _, _, _, _⟩) (v := ?_) rfl (by kernel_rfl) (by kernel_rfl) (by kernel_rfl) (fun _ _ _ h => h) (Or.inl ⟨by rfl, ?_⟩) (by assumption) ?_
            rotate_left
            · intro u hSw
              have cc := mg_c2 hSw
              rw [hj.out] at cc
              go_simp
              try (with_reducible rfl)
            try simp only [Act.put, List.setIfInBounds_toArray, List.set_cons_zero, List.set_cons_succ]
            refine wpAnyH_take (i := 2) (oi := ⟨_, _, _, _, _, _⟩) (v := ?_) rfl (by kernel_rfl) (by kernel_rfl) (by kernel_rfl) (fun _ _ _ h => h) (Or.inl ⟨by rfl, ?_⟩) (by assumption) ?_
            rotate_left
            · intro u hSw
              go_simp
              try (with_reducible rfl)
            try simp only [Act.put, List.setIfInBounds_toArray, List.set_cons_zero, List.set_cons_succ]
            refine wpAnyH_take (i := 3) (oi := ⟨_, _, _, _, _, _⟩) (v := ?_) rfl (by kernel_rfl) (by kernel_rfl) (by kernel_rfl) (fun _ _ _ h => h) (Or.inl ⟨by rfl, ?_⟩) (by assumption) ?_
            rotate_left
            · intro u hSw
              go_simp
              try (with_reducible rfl)
            try simp only [Act.put, List.setIfInBounds_toArray, List.set_cons_zero, List.set_cons_succ]
            refine wpAnyH_take (i := 4) (oi := ⟨_, _, _, _, _, _⟩) (v := ?_) rfl (by kernel_rfl) (by kernel_rfl) (by kernel_rfl) (fun _ _ _ h => h) (Or.inl ⟨by rfl, ?_⟩) (by assumption) ?_
            rotate_left
            · intro u hSw
              go_simp
              try (with_reducible rfl)
            try simp only [Act.put, List.setIfInBounds_toArray, List.set_cons_zero, List.set_cons_succ]
            refine wpAnyH_take (i := 6) (oi := ⟨_, _, _, _, _, _⟩) (v := ?_) rfl (by kernel_rfl) (by kernel_rfl) (by kernel_rfl) (fun _ _ _ h => h) (Or.inl ⟨by rfl, ?_⟩) (by assumption) ?_
            rotate_left
            · intro u hSw
              go_simp
              try (with_reducible rfl)
            try simp only [Act.put, List.setIfInBounds_toArray, List.set_cons_zero, List.set_cons_succ]
            refine wpAnyH_take (i := 7) (oi := ⟨_, _, _, _, _, _⟩) (v := ?_) rfl (by kernel_rfl) (by kernel_rfl) (by kernel_rfl) (fun _ _ _ h => h) (Or.inl ⟨by rfl, ?_⟩) (by assumption) ?_
            rotate_left
            · intro u hSw
              have cc := mg_c3 hSw
              go_simp
              try (with_reducible rfl)
            try simp only [Act.put, List.setIfInBounds_toArray, List.set_cons_zero, List.set_cons_succ]
            refine wpAnyH_take (i := 9) (oi := ⟨_, _, _, _, _, _⟩) (v := ?_) rfl (by kernel_rfl) (by kernel_rfl) (by kernel_rfl) (fun _ _ _ h => h) (Or.inl ⟨by rfl, ?_⟩) (by assumption) ?_
            rotate_left
            · intro u hSw
              go_simp
              try (with_reducible rfl)
            try simp only [Act.put, List.setIfInBounds_toArray, List.set_cons_zero, List.set_cons_succ]
            refine wpAnyH_ready (rs := [5]) (by kernel_rfl) (by simp) ?_
            refine AllReadyH.cons (o := ⟨_, _, _, _, _, _⟩) rfl (fun K hK => ?_) AllReadyH.nil
            go_simp
            go_wp2_with fail
            refine hK.out _ _ M3 (fun hHeld => ?_)
            clear hK K
            try simp only [Act.put, List.setIfInBounds_toArray, List.set_cons_zero, List.set_cons_succ]
            refine wpAnyH_take (i := 8) (oi := ⟨_, _, _, _, _, _⟩) (v := ?_) rfl (by kernel_rfl) (by kernel_rfl) (by kernel_rfl) (fun _ _ _ h => h) (Or.inl ⟨by rfl, ?_⟩) (by assumption) ?_
            rotate_left
            · intro u hSw
              go_simp
              try (with_reducible rfl)
            try simp only [Act.put, List.setIfInBounds_toArray, List.set_cons_zero, List.set_cons_succ]
            refine wpAnyH_take (i := 10) (oi := ⟨_, _, _, _, _, _⟩) (v := ?_) rfl (by kernel_rfl) (by kernel_rfl) (by kernel_rfl) (fun _ _ _ h => h) (Or.inl ⟨by rfl, ?_⟩) (by assumption) ?_
            rotate_left
            · intro u hSw
              go_simp
              try (with_reducible rfl)
            try simp only [Act.put, List.setIfInBounds_toArray, List.set_cons_zero, List.set_cons_succ]
            refine wpAnyH_take (i := 11) (oi := ⟨_, _, _, _, _, _⟩) (v := ?_) rfl (by kernel_rfl) (by kernel_rfl) (by kernel_rfl) (fun _ _ _ h => h) (Or.inl ⟨by rfl, ?_⟩) (by assumption) ?_
            rotate_left
            · intro u hSw
              go_simp
              try (with_reducible rfl)
            try simp only [Act.put, List.setIfInBounds_toArray, List.set_cons_zero, List.set_cons_succ]
            refine wpAnyH_ready (rs := [12]) (by kernel_rfl) (by simp) ?_
            refine AllReadyH.cons (o := ⟨_, _, _, _, _, _⟩) rfl (fun K hK => ?_) AllReadyH.nil
            go_simp
            go_wp2_with fail
            refine hK.out _ _ (M3.setOther (a := ⟨GT, j * 34, none⟩) _ (by simp; omega)) (fun hHeld => ?_)
            clear hK K
            try simp only [Act.put, List.setIfInBounds_toArray, List.set_cons_zero, List.set_cons_succ]
            refine wpAnyH_done (by kernel_rfl) ?_ _
            have A4 := ((T9).set (j * 34) (.int .u64 x)).drew
            have eq4 : qs.set j ⟨x, b.non, b.lk⟩ = addB qs j m.am := by rw [addB_some hb.out, ← hxe.out]
            rw [stA_bal hb.out h2', eq4] at A4
            clear eq4
            have R4 := ((R9).setOther (a := ⟨GT, j * 34, none⟩) (.int .u64 x) (by simp; omega)).drew
            have own4 := own_bel (own_cellN (o := j * 34) (u := .int .u64 x) (own9) hneT) (drew_bel _)
            have B4 := ((B9).setCell (p := ⟨GT, j * 34, none⟩) (by show w.heap.size ≤ GT; omega) (.int .u64 x)).drew
            have hq1 : (addB qs j m.am).length = 32 := by rw [addB_len, hl']
            have hq2 : ∀ a ∈ addB qs j m.am, a.lk.length = 32 := fun a ha => (addB_ok hok' j m.am a ha).l32
            generalize addB qs j m.am = Q at *
            have hszQ : (Try.prog.info? 30).map (·.size) = some (stA Q s2 n c2).size := by rw [stA_size hq1 hq2]; exact size30
            go_wp2_with (first
              | go_skip
              | (refine atL 30 (.tmp 7) ?_; refine ld30 (by rfl) _ (by rfl) GT 30 (by rfl) Q s2 n c2 hq1 hq2 A4 ?_)
              | (refine atS 30 (.tmp 4) (.tmp 128) ?_; refine wpList_store_arr (by rfl) 30 (.tmp 4) (.tmp 128) (by rfl) (w.heap.size + 1) (stA Q s2 n c2) (by rfl) (by rfl) 30 _ R4 hszQ (by rw [hzsz, stA_size hq1 hq2]) (stA_one Q s2 n c2) ?_))
            have R9 := (R4).setRow (stA Q s2 n c2)
            have own9 := own_row (own4) (stA Q s2 n c2) hbase
            have B9 := below_setRow (B4) (show w.heap.size ≤ w.heap.size + 1 by omega) (stA Q s2 n c2)
            exact bodyPost_ret (v := .tuple #[.agg (stA Q s2 n c2), .bool true, .int .i64 0]) (resD Try.results29 rfl rfl rfl hq1 hq2 R9) rfl (DLPost.did hfin.out hact.out (own_mono own9 (by omega)) hlen B9)
        · have hb' : decide (a.bal < m.am) = true := decide_eq_true (by omega)
          have hact : Hid (dlt ps os L = none) := Hid.mk' (by rw [hdl.out, hactE.out, hspd.out, decide_eq_false hb2]; rfl)
          clear hb2 hO
          go_upto_region 15 with (first
            | go_skip
            | (refine atL 26 (.tmp 12) ?_; refine ld26 (by rfl) _ (by rfl) GC 0 (by rfl) a hal C7.ac ?_)
            | (refine atL 95 (.tmp 8) ?_; refine ld27M (by rfl) (.tmp 8) (by rfl) GM 95 (by rfl) m hmo M7 ?_)
            | (go_at_call 48; go_must (refine hO'.out.mono ?_; rintro r w8 ⟨rfl, hb8⟩; have C8 := C7.below hb8 C7.lt; have A8 := A7.below hb8 A7.lt; have R8 := R7.below hb8 R7.lt; have T8 := T7.below hb8 T7.lt; have M8 := M7.below hb8 M7.lt; have own8 := own_bel own7 hb8; have B8 := B7.trans (hb8.mono B7.size); have k0 := mg_c0 M8; rw [hk] at k0; have k3 := mg_c3 M8; have d0 := ac_c0 C8.ac; have d1 := ac_c1 C8.ac; have cO8 := A8.stOut h1 h2; simp only [Nat.zero_add] at d1)))
          have hszQ : (Try.prog.info? 30).map (·.size) = some (stA ps s2 n c2).size := by rw [stA_size h1 h2]; exact size30
          go_wp2_with (first
            | go_skip
            | (refine atL 30 (.tmp 7) ?_; refine ld30 (by rfl) _ (by rfl) GT 30 (by rfl) ps s2 n c2 h1 h2 T8 ?_)
            | (refine atS 30 (.tmp 4) (.tmp 87) ?_; refine wpList_store_arr (by rfl) 30 (.tmp 4) (.tmp 87) (by rfl) (w.heap.size + 1) (stA ps s2 n c2) (by rfl) (by rfl) 30 _ R8 hszQ (by rw [hzsz, stA_size h1 h2]) (stA_one ps s2 n c2) ?_))
          have R9 := (R8).setRow (stA ps s2 n c2)
          have own9 := own_row (own8) (stA ps s2 n c2) hbase
          have B9 := below_setRow (B8) (show w.heap.size ≤ w.heap.size + 1 by omega) (stA ps s2 n c2)
          exact bodyPost_ret (v := .tuple #[.agg (stA ps s2 n c2), .bool false, .int .i64 0]) (resD Try.results29 rfl rfl rfl h1 h2 R9) rfl (DLPost.stay hfin.out hact.out (own_mono own9 (by omega)) hlen B9)
      · have ho : opn a m = false := by simpa using ho
        have hO' := hO
        rw [ho] at hO'
        have hact : Hid (dlt ps os L = none) := Hid.mk' (by rw [hdl.out, hactE.out, hspd.out, ho]; rfl)
        clear ho hO
        go_upto_region 15 with (first
          | go_skip
          | (refine atL 26 (.tmp 12) ?_; refine ld26 (by rfl) _ (by rfl) GC 0 (by rfl) a hal C7.ac ?_)
          | (refine atL 95 (.tmp 8) ?_; refine ld27M (by rfl) (.tmp 8) (by rfl) GM 95 (by rfl) m hmo M7 ?_)
          | (go_at_call 48; go_must (refine hO'.out.mono ?_; rintro r w8 ⟨rfl, hb8⟩; have C8 := C7.below hb8 C7.lt; have A8 := A7.below hb8 A7.lt; have R8 := R7.below hb8 R7.lt; have T8 := T7.below hb8 T7.lt; have M8 := M7.below hb8 M7.lt; have own8 := own_bel own7 hb8; have B8 := B7.trans (hb8.mono B7.size); have k0 := mg_c0 M8; rw [hk] at k0; have k3 := mg_c3 M8; have d0 := ac_c0 C8.ac; have d1 := ac_c1 C8.ac; have cO8 := A8.stOut h1 h2; simp only [Nat.zero_add] at d1)))
        have hszQ : (Try.prog.info? 30).map (·.size) = some (stA ps s2 n c2).size := by rw [stA_size h1 h2]; exact size30
        go_wp2_with (first
          | go_skip
          | (refine atL 30 (.tmp 7) ?_; refine ld30 (by rfl) _ (by rfl) GT 30 (by rfl) ps s2 n c2 h1 h2 T8 ?_)
          | (refine atS 30 (.tmp 4) (.tmp 87) ?_; refine wpList_store_arr (by rfl) 30 (.tmp 4) (.tmp 87) (by rfl) (w.heap.size + 1) (stA ps s2 n c2) (by rfl) (by rfl) 30 _ R8 hszQ (by rw [hzsz, stA_size h1 h2]) (stA_one ps s2 n c2) ?_))
        have R9 := (R8).setRow (stA ps s2 n c2)
        have own9 := own_row (own8) (stA ps s2 n c2) hbase
        have B9 := below_setRow (B8) (show w.heap.size ≤ w.heap.size + 1 by omega) (stA ps s2 n c2)
        exact bodyPost_ret (v := .tuple #[.agg (stA ps s2 n c2), .bool false, .int .i64 0]) (resD Try.results29 rfl rfl rfl h1 h2 R9) rfl (DLPost.stay hfin.out hact.out (own_mono own9 (by omega)) hlen B9)
    · skip
      rw [hk] at c0
      have hk1 : ¬ m.kd = 1 := by omega
      have c1 := mg_c1 M6
      obtain ⟨i, hi⟩ : ∃ i : Nat, Hid (m.fr = (i : Int)) := ⟨m.fr.toNat, Hid.mk' (by omega)⟩
      rw [hi.out] at c1
      have hi32 : i < 32 := by have := hi.out; omega
      have hI : (i : Int) < 32 := by omega
      obtain ⟨a, ha⟩ : ∃ a, Hid (ps[i]? = some a) := ⟨ps[i]'(by omega), Hid.mk' (List.getElem?_eq_getElem (by omega))⟩
      have hao := hok a (List.mem_of_getElem? ha.out)
      have hal := hao.l32
      have b0 := hao.b0
      have b1 := hao.b1
      have n0 := hao.n0
      have n1 := hao.n1
      have hactE : Hid (act ps os m = if spd a m = true then (if m.kd = 2 then some (addB (ps.set m.fr.toNat (spent a m)) m.tw.toNat m.am, os) else if os.length < 32 then some (ps.set m.fr.toNat (spent a m), os ++ [⟨m.tw, m.am⟩]) else none) else none) := Hid.mk' (by
        have h3 : ps[m.fr.toNat]? = some a := by rw [hi.out, Int.toNat_natCast]; exact ha.out
        unfold act; rw [if_neg hk1, h3])
      go_upto_region 14 with (first
        | (refine atL 26 (.tmp 57) ?_; refine ld26 (by rfl) _ (by rfl) w.heap.size (i * 34) (by rfl) a hal (A6.stAt h2 ha.out) ?_)
        | (refine atS 26 (.tmp 12) (.tmp 58) ?_; refine st26n (by rfl) _ _ (by rfl) W6 W6.heap.size rfl (by rfl) a (by rfl) (by rfl) hal ?_))
      have C7 := Arr.new W6 26 a.arr
      have A7 := A6.alloc (.cells a.arr 26)
      have R7 := R6.alloc (.cells a.arr 26)
      have T7 := T6.alloc (.cells a.arr 26)
      have M7 := M6.alloc (.cells a.arr 26)
      have own7 := own_bel own6 (alloc_bel' W6 (.cells a.arr 26))
      have B7 := B6.alloc B6.size (.cells a.arr 26)
      have hgc := M6.lt
      generalize W6.alloc (.cells a.arr 26) = W7 at *
      generalize W6.heap.size = GC at *
      clear A6 R6 T6 M6 own6 B6 c0 c1 c3
      have hO := Hid.mk' (refOpens_any a m W7 hao hmo)
      have hspd : Hid (spd a m = (opn a m && (decide (m.am ≤ a.bal) && !decide (a.non = 18446744073709551615)))) := Hid.mk' rfl
      by_cases ho : opn a m = true
      · have hO' := hO
        rw [ho] at hO'
        replace hspd : Hid (spd a m = (decide (m.am ≤ a.bal) && !decide (a.non = 18446744073709551615))) := Hid.mk' (by rw [hspd.out, ho]; rfl)
        clear ho
        by_cases hb2 : m.am ≤ a.bal
        · have hb' : decide (a.bal < m.am) = false := decide_eq_false (by omega)
          by_cases hn2 : a.non = 18446744073709551615
          · have hwn : IntKind.u64.wrap (a.non + 1) = 0 := by rw [wrapB, hn2]; rfl
            have hact : Hid (dlt ps os L = none) := Hid.mk' (by rw [hdl.out, hactE.out, hspd.out, decide_eq_true hn2, Bool.not_true, Bool.and_false]; rfl)
            clear hn2 hb2 hO
            go_upto_region 15 with (first
              | go_skip
              | (refine atL 26 (.tmp 12) ?_; refine ld26 (by rfl) _ (by rfl) GC 0 (by rfl) a hal C7.ac ?_)
              | (refine atL 95 (.tmp 8) ?_; refine ld27M (by rfl) (.tmp 8) (by rfl) GM 95 (by rfl) m hmo M7 ?_)
              | (go_at_call 48; go_must (refine hO'.out.mono ?_; rintro r w8 ⟨rfl, hb8⟩; have C8 := C7.below hb8 C7.lt; have A8 := A7.below hb8 A7.lt; have R8 := R7.below hb8 R7.lt; have T8 := T7.below hb8 T7.lt; have M8 := M7.below hb8 M7.lt; have own8 := own_bel own7 hb8; have B8 := B7.trans (hb8.mono B7.size); have k0 := mg_c0 M8; rw [hk] at k0; have k3 := mg_c3 M8; have d0 := ac_c0 C8.ac; have d1 := ac_c1 C8.ac; have cO8 := A8.stOut h1 h2; simp only [Nat.zero_add] at d1)))
            have hszQ : (Try.prog.info? 30).map (·.size) = some (stA ps s2 n c2).size := by rw [stA_size h1 h2]; exact size30
            go_wp2_with (first
              | go_skip
              | (refine atL 30 (.tmp 7) ?_; refine ld30 (by rfl) _ (by rfl) GT 30 (by rfl) ps s2 n c2 h1 h2 T8 ?_)
              | (refine atS 30 (.tmp 4) (.tmp 87) ?_; refine wpList_store_arr (by rfl) 30 (.tmp 4) (.tmp 87) (by rfl) (w.heap.size + 1) (stA ps s2 n c2) (by rfl) (by rfl) 30 _ R8 hszQ (by rw [hzsz, stA_size h1 h2]) (stA_one ps s2 n c2) ?_))
            have R9 := (R8).setRow (stA ps s2 n c2)
            have own9 := own_row (own8) (stA ps s2 n c2) hbase
            have B9 := below_setRow (B8) (show w.heap.size ≤ w.heap.size + 1 by omega) (stA ps s2 n c2)
            exact bodyPost_ret (v := .tuple #[.agg (stA ps s2 n c2), .bool false, .int .i64 0]) (resD Try.results29 rfl rfl rfl h1 h2 R9) rfl (DLPost.stay hfin.out hact.out (own_mono own9 (by omega)) hlen B9)
          · have hwn' : IntKind.u64.wrap (a.non + 1) = a.non + 1 := wrap64_of (by omega) (by omega)
            have hwz : (a.non + 1 == 0) = false := by simp; omega
            have hspt : spd a m = true := by rw [hspd.out, decide_eq_true hb2, decide_eq_false hn2]; rfl
            have hws' : IntKind.u64.wrap (a.bal - m.am) = a.bal - m.am := wrap64_of (by omega) (by omega)
            have hsa := spent_ok hao hmo hspt
            have hset : Hid (ps.set i (spent a m) = ps.set m.fr.toNat (spent a m)) := Hid.mk' (by rw [hi.out, Int.toNat_natCast])
            have h2' : ∀ x ∈ ps.set i (spent a m), x.lk.length = 32 := fun x hx => (set_ok hok i hsa x hx).l32
            have hok' := set_ok hok i hsa
            have hl' : (ps.set i (spent a m)).length = 32 := by rw [List.length_set, h1]
            clear hn2 hb2 hO
            have hk2 : ¬ m.kd = 2 := by omega
            by_cases h32 : n < 32
            · have hN : decide ((32 : Int) ≤ (n : Int)) = false := decide_eq_false (by omega)
              have hact : Hid (dlt ps os L = some (ps.set i (spent a m), os ++ [⟨m.tw, m.am⟩])) := Hid.mk' (by rw [hdl.out, hactE.out, if_pos hspt, if_neg hk2, if_pos (by rw [← hlen.out]; exact h32), hset.out])
              go_upto_region 16 with (first
                | go_skip
                | (refine atL 26 (.tmp 12) ?_; refine ld26 (by rfl) _ (by rfl) GC 0 (by rfl) a hal C7.ac ?_)
                | (refine atL 95 (.tmp 8) ?_; refine ld27M (by rfl) (.tmp 8) (by rfl) GM 95 (by rfl) m hmo M7 ?_)
                | (go_at_call 48; go_must (refine hO'.out.mono ?_; rintro r w8 ⟨rfl, hb8⟩; have C8 := C7.below hb8 C7.lt; have A8 := A7.below hb8 A7.lt; have R8 := R7.below hb8 R7.lt; have T8 := T7.below hb8 T7.lt; have M8 := M7.below hb8 M7.lt; have own8 := own_bel own7 hb8; have B8 := B7.trans (hb8.mono B7.size); have k0 := mg_c0 M8; rw [hk] at k0; have k3 := mg_c3 M8; have d0 := ac_c0 C8.ac; have d1 := ac_c1 C8.ac; have cO8 := A8.stOut h1 h2; simp only [Nat.zero_add] at d1)))
              have hth : w8.there GT (i * 34) (Ac.arr (spent a m)).size := arr_there T8 (by rw [stA_size h1 h2, Ac.size hsa.l32]; omega)
              have hb26 := built26 (a.bal - m.am) (a.non + 1) m.nx hmo.nl
              have hs26 : (Try.prog.info? 26).map (·.size) = some (Ac.arr (spent a m)).size := s26 hsa.l32
              have k1 := mg_c1 M8
              rw [hi.out] at k1
              obtain ⟨T9, O9⟩ := arr_setCells (spent a m).cells (i * 34) w8 _ T8
              rw [stA_acc ha.out h2 hsa.l32] at T9
              have R9 := O9.arr R8 (show w.heap.size + 1 ≠ GT by omega)
              have M9 := O9.arr M8 (show GM ≠ GT by omega)
              have own9 := own_only own8 O9 hneT
              have B9 := B8.trans (O9.bel.mono (show w.heap.size ≤ GT by omega))
              go_upto_region 17 with (first
                | (refine atL 24 (.tmp 98) ?_; refine ld25 (by rfl) (.tmp 98) (by rfl) GM 37 (by rfl) m.nx hmo.nl (mg_nx M8 hmo.kl) ?_)
                | (refine atB 26 ?_; refine bdT (by rfl) 26 #[(0, .tmp 94), (1, .tmp 97), (2, .tmp 99)] (by rfl) (by rfl) hb26 ?_)
                | (refine atS 26 (.tmp 102) (.tmp 100) ?_; refine wpList_store_mid (by rfl) 26 (.tmp 102) (.tmp 100) (by rfl) GT (i * 34) (Ac.arr (spent a m)) (by rfl) (by rfl) hth hs26 (Ac.oneA _) ?_))
              have e9 : w8.setCells GT (i * 34) (Ac.arr (spent a m)).toList = w8.setCells GT (i * 34) (spent a m).cells := rfl
              try rw [e9]
              generalize w8.setCells GT (i * 34) (spent a m).cells = W9 at *
              clear e9
              have k9 := mg_c0 M9
              rw [hk] at k9
              clear C7 C8 A7 A8 R7 R8 T7 T8 M7 M8 own7 own8 B7 B8 k0 k1 k3 d0 d1 cO8 hth hb26 hs26 O9
              generalize ps.set i (spent a m) = qs at *
              have k2 := mg_c2 M9
              have k3 := mg_c3 M9
              have cT := T9.stOut hl' h2'
              have hbo := built50 m.tw m.am
              have R10 := R9.alloc (.cells (Ou.arr ⟨m.tw, m.am⟩) 66)
              have T10 := T9.alloc (.cells (Ou.arr ⟨m.tw, m.am⟩) 66)
              have own10 := own_bel own9 (alloc_bel' W9 (.cells (Ou.arr ⟨m.tw, m.am⟩) 66))
              have B10 := B9.alloc B9.size (.cells (Ou.arr ⟨m.tw, m.am⟩) 66)
              have hTl := T9.lt
              go_upto_region 20 with (first
                | (refine atB 66 ?_; refine bdT (by rfl) 66 #[(0, .tmp 121), (1, .tmp 123)] (by rfl) (by rfl) hbo ?_)
                | (refine atBS 28 ?_; refine bldO (by rfl) (.tmp 124) (by rfl) ⟨m.tw, m.am⟩ (by rfl) ?_)
                | (refine atA (.tmp 119) (.tmp 125) ?_; go_must (refine ap53N (by rfl) (.tmp 119) (.tmp 125) (by rfl) BS1 _ n os ⟨m.tw, m.am⟩ (by rfl) own10 W9.heap.size 1 (by rfl) (Arr.new W9 66 _) (by omega) (by simp; omega) ?_; intro v11 w11 own11 g11 hv11; have T11 := T10.grown g11 (fun e => hneT e.symm); have R11 := R10.grown g11 (fun e => by have := own_ge own10 _ e.symm; omega); have B11 := B10.grown g11 (by have := B10.size; omega) (fun k e => by have := own_ge own10 k e; omega); obtain ⟨s11, c11, rfl⟩ := own_sliceO own11; have cT11 := T11.stOut hl' h2'; have fT11 := T11.frozen 1088)))
              have hne11 : (Value.slice s11 (n + 1) c11).ownBlock ≠ some GT := fun e => by
                rcases hv11 with h | h
                · exact hneT (h.symm.trans e)
                · rw [h] at e; have := Option.some.inj e; simp at this; omega
              have T12 := T11.set 1088 (.slice s11 (n + 1) c11)
              rw [stA_set hl' h2'] at T12
              have R12 := R11.setOther (a := ⟨GT, 1088, none⟩) (.slice s11 (n + 1) c11) (by simp; omega)
              have own12 := own_cellN (o := 1088) (u := .slice s11 (n + 1) c11) own11 hne11
              have B12 := B11.setCell (p := ⟨GT, 1088, none⟩) (by show w.heap.size ≤ GT; omega) (.slice s11 (n + 1) c11)
              generalize w11.setCell ⟨GT, 1088, none⟩ (.slice s11 (n + 1) c11) = W12 at *
              clear cT cT11 fT11 k2 k3 k9
              have hszQ : (Try.prog.info? 30).map (·.size) = some (stA qs s11 (n + 1) c11).size := by rw [stA_size hl' h2']; exact size30
              go_wp2_with (first
                | go_skip
                | (refine atL 30 (.tmp 7) ?_; refine ld30 (by rfl) _ (by rfl) GT 30 (by rfl) qs s11 (n + 1) c11 hl' h2' T12 ?_)
                | (refine atS 30 (.tmp 4) (.tmp 128) ?_; refine wpList_store_arr (by rfl) 30 (.tmp 4) (.tmp 128) (by rfl) (w.heap.size + 1) (stA qs s11 (n + 1) c11) (by rfl) (by rfl) 30 _ R12 hszQ (by rw [hzsz, stA_size hl' h2']) (stA_one qs s11 (n + 1) c11) ?_))
              have R9 := (R12).setRow (stA qs s11 (n + 1) c11)
              have own9 := own_row (own12) (stA qs s11 (n + 1) c11) hbase
              have B9 := below_setRow (B12) (show w.heap.size ≤ w.heap.size + 1 by omega) (stA qs s11 (n + 1) c11)
              exact bodyPost_ret (v := .tuple #[.agg (stA qs s11 (n + 1) c11), .bool true, .int .i64 0]) (resD Try.results29 rfl rfl rfl hl' h2' R9) rfl (DLPost.did hfin.out hact.out (own_mono own9 (by omega)) (Hid.mk' (by rw [List.length_append, hlen.out]; rfl)) B9)
            · have hN : decide ((32 : Int) ≤ (n : Int)) = true := decide_eq_true (by omega)
              have hact : Hid (dlt ps os L = none) := Hid.mk' (by rw [hdl.out, hactE.out, if_pos hspt, if_neg hk2, if_neg (by rw [← hlen.out]; exact h32)])
              go_upto_region 15 with (first
                | go_skip
                | (refine atL 26 (.tmp 12) ?_; refine ld26 (by rfl) _ (by rfl) GC 0 (by rfl) a hal C7.ac ?_)
                | (refine atL 95 (.tmp 8) ?_; refine ld27M (by rfl) (.tmp 8) (by rfl) GM 95 (by rfl) m hmo M7 ?_)
                | (go_at_call 48; go_must (refine hO'.out.mono ?_; rintro r w8 ⟨rfl, hb8⟩; have C8 := C7.below hb8 C7.lt; have A8 := A7.below hb8 A7.lt; have R8 := R7.below hb8 R7.lt; have T8 := T7.below hb8 T7.lt; have M8 := M7.below hb8 M7.lt; have own8 := own_bel own7 hb8; have B8 := B7.trans (hb8.mono B7.size); have k0 := mg_c0 M8; rw [hk] at k0; have k3 := mg_c3 M8; have d0 := ac_c0 C8.ac; have d1 := ac_c1 C8.ac; have cO8 := A8.stOut h1 h2; simp only [Nat.zero_add] at d1)))
              have hszQ : (Try.prog.info? 30).map (·.size) = some (stA ps s2 n c2).size := by rw [stA_size h1 h2]; exact size30
              go_wp2_with (first
                | go_skip
                | (refine atL 30 (.tmp 7) ?_; refine ld30 (by rfl) _ (by rfl) GT 30 (by rfl) ps s2 n c2 h1 h2 T8 ?_)
                | (refine atS 30 (.tmp 4) (.tmp 87) ?_; refine wpList_store_arr (by rfl) 30 (.tmp 4) (.tmp 87) (by rfl) (w.heap.size + 1) (stA ps s2 n c2) (by rfl) (by rfl) 30 _ R8 hszQ (by rw [hzsz, stA_size h1 h2]) (stA_one ps s2 n c2) ?_))
              have R9 := (R8).setRow (stA ps s2 n c2)
              have own9 := own_row (own8) (stA ps s2 n c2) hbase
              have B9 := below_setRow (B8) (show w.heap.size ≤ w.heap.size + 1 by omega) (stA ps s2 n c2)
              exact bodyPost_ret (v := .tuple #[.agg (stA ps s2 n c2), .bool false, .int .i64 0]) (resD Try.results29 rfl rfl rfl h1 h2 R9) rfl (DLPost.stay hfin.out hact.out (own_mono own9 (by omega)) hlen B9)
        · have hb' : decide (a.bal < m.am) = true := decide_eq_true (by omega)
          have hact : Hid (dlt ps os L = none) := Hid.mk' (by rw [hdl.out, hactE.out, hspd.out, decide_eq_false hb2]; rfl)
          clear hb2 hO
          go_upto_region 15 with (first
            | go_skip
            | (refine atL 26 (.tmp 12) ?_; refine ld26 (by rfl) _ (by rfl) GC 0 (by rfl) a hal C7.ac ?_)
            | (refine atL 95 (.tmp 8) ?_; refine ld27M (by rfl) (.tmp 8) (by rfl) GM 95 (by rfl) m hmo M7 ?_)
            | (go_at_call 48; go_must (refine hO'.out.mono ?_; rintro r w8 ⟨rfl, hb8⟩; have C8 := C7.below hb8 C7.lt; have A8 := A7.below hb8 A7.lt; have R8 := R7.below hb8 R7.lt; have T8 := T7.below hb8 T7.lt; have M8 := M7.below hb8 M7.lt; have own8 := own_bel own7 hb8; have B8 := B7.trans (hb8.mono B7.size); have k0 := mg_c0 M8; rw [hk] at k0; have k3 := mg_c3 M8; have d0 := ac_c0 C8.ac; have d1 := ac_c1 C8.ac; have cO8 := A8.stOut h1 h2; simp only [Nat.zero_add] at d1)))
          have hszQ : (Try.prog.info? 30).map (·.size) = some (stA ps s2 n c2).size := by rw [stA_size h1 h2]; exact size30
          go_wp2_with (first
            | go_skip
            | (refine atL 30 (.tmp 7) ?_; refine ld30 (by rfl) _ (by rfl) GT 30 (by rfl) ps s2 n c2 h1 h2 T8 ?_)
            | (refine atS 30 (.tmp 4) (.tmp 87) ?_; refine wpList_store_arr (by rfl) 30 (.tmp 4) (.tmp 87) (by rfl) (w.heap.size + 1) (stA ps s2 n c2) (by rfl) (by rfl) 30 _ R8 hszQ (by rw [hzsz, stA_size h1 h2]) (stA_one ps s2 n c2) ?_))
          have R9 := (R8).setRow (stA ps s2 n c2)
          have own9 := own_row (own8) (stA ps s2 n c2) hbase
          have B9 := below_setRow (B8) (show w.heap.size ≤ w.heap.size + 1 by omega) (stA ps s2 n c2)
          exact bodyPost_ret (v := .tuple #[.agg (stA ps s2 n c2), .bool false, .int .i64 0]) (resD Try.results29 rfl rfl rfl h1 h2 R9) rfl (DLPost.stay hfin.out hact.out (own_mono own9 (by omega)) hlen B9)
      · have ho : opn a m = false := by simpa using ho
        have hO' := hO
        rw [ho] at hO'
        have hact : Hid (dlt ps os L = none) := Hid.mk' (by rw [hdl.out, hactE.out, hspd.out, ho]; rfl)
        clear ho hO
        go_upto_region 15 with (first
          | go_skip
          | (refine atL 26 (.tmp 12) ?_; refine ld26 (by rfl) _ (by rfl) GC 0 (by rfl) a hal C7.ac ?_)
          | (refine atL 95 (.tmp 8) ?_; refine ld27M (by rfl) (.tmp 8) (by rfl) GM 95 (by rfl) m hmo M7 ?_)
          | (go_at_call 48; go_must (refine hO'.out.mono ?_; rintro r w8 ⟨rfl, hb8⟩; have C8 := C7.below hb8 C7.lt; have A8 := A7.below hb8 A7.lt; have R8 := R7.below hb8 R7.lt; have T8 := T7.below hb8 T7.lt; have M8 := M7.below hb8 M7.lt; have own8 := own_bel own7 hb8; have B8 := B7.trans (hb8.mono B7.size); have k0 := mg_c0 M8; rw [hk] at k0; have k3 := mg_c3 M8; have d0 := ac_c0 C8.ac; have d1 := ac_c1 C8.ac; have cO8 := A8.stOut h1 h2; simp only [Nat.zero_add] at d1)))
        have hszQ : (Try.prog.info? 30).map (·.size) = some (stA ps s2 n c2).size := by rw [stA_size h1 h2]; exact size30
        go_wp2_with (first
          | go_skip
          | (refine atL 30 (.tmp 7) ?_; refine ld30 (by rfl) _ (by rfl) GT 30 (by rfl) ps s2 n c2 h1 h2 T8 ?_)
          | (refine atS 30 (.tmp 4) (.tmp 87) ?_; refine wpList_store_arr (by rfl) 30 (.tmp 4) (.tmp 87) (by rfl) (w.heap.size + 1) (stA ps s2 n c2) (by rfl) (by rfl) 30 _ R8 hszQ (by rw [hzsz, stA_size h1 h2]) (stA_one ps s2 n c2) ?_))
        have R9 := (R8).setRow (stA ps s2 n c2)
        have own9 := own_row (own8) (stA ps s2 n c2) hbase
        have B9 := below_setRow (B8) (show w.heap.size ≤ w.heap.size + 1 by omega) (stA ps s2 n c2)
        exact bodyPost_ret (v := .tuple #[.agg (stA ps s2 n c2), .bool false, .int .i64 0]) (resD Try.results29 rfl rfl rfl h1 h2 R9) rfl (DLPost.stay hfin.out hact.out (own_mono own9 (by omega)) hlen B9)
  · have hdl : Hid (dlt ps os L = none) := Hid.mk' (by unfold dlt; rw [if_neg he])
    have hne : (rdE L != 0) = true := by simp [he]
    generalize rdM L = m at *
    generalize rdE L = ee at *
    replace hRd := Hid.mk' hRd
    clear he hmy
    go_upto_region 6 with (first
      | (go_at_call 47; go_must (refine hRd.out.mono ?_; rintro r w6 ⟨rfl, hb6⟩))
      | (refine atS 95 (.tmp 8) (.tmp 22) ?_; refine st27n (by rfl) _ _ (by rfl) w6 w6.heap.size rfl hmz m (by rfl) (by rfl) hmo ?_))
    have hz6 := hb6.size
    have R6 := (R2.below hb6 R2.lt).alloc (.cells m.arr 95)
    have T6 := (T2.below hb6 T2.lt).alloc (.cells m.arr 95)
    have own6 := own_bel (own_bel own3 hb6) (alloc_bel' w6 (.cells m.arr 95))
    have B6 := (B2.trans (hb6.mono B2.size)).alloc (Nat.le_trans B2.size hz6) (.cells m.arr 95)
    clear A2 R2 T2 B2 own3 hb6 hRd
    have hszQ : (Try.prog.info? 30).map (·.size) = some (stA ps s2 n c2).size := by rw [stA_size h1 h2]; exact size30
    go_wp2_with (first
      | go_skip
      | (refine atL 30 (.tmp 7) ?_; refine ld30 (by rfl) _ (by rfl) GT 30 (by rfl) ps s2 n c2 h1 h2 T6 ?_)
      | (refine atS 30 (.tmp 4) (.tmp 26) ?_; refine wpList_store_arr (by rfl) 30 (.tmp 4) (.tmp 26) (by rfl) (w.heap.size + 1) (stA ps s2 n c2) (by rfl) (by rfl) 30 _ R6 hszQ (by rw [hzsz, stA_size h1 h2]) (stA_one ps s2 n c2) ?_))
    have R9 := (R6).setRow (stA ps s2 n c2)
    have own9 := own_row (own6) (stA ps s2 n c2) hbase
    have B9 := below_setRow (B6) (show w.heap.size ≤ w.heap.size + 1 by omega) (stA ps s2 n c2)
    exact bodyPost_ret (v := .tuple #[.agg (stA ps s2 n c2), .bool false, .int .i64 0]) (resD Try.results29 rfl rfl rfl h1 h2 R9) rfl (DLPost.stay hfin.out hdl.out (own_mono own9 (by omega)) hlen B9)
theorem refDelta_any (ps : List Ac) (N : Nat) (sp : Option Addr) (n cap : Nat) (os : List Ou) (sb : Option Addr) (nb cb : Nat) (L : List Int) (Nb : Nat) (w : World) (hS : SS N w ps sp n cap os) (hL : BS Nb w sb nb cb L) : Calls Try.prog 29 #[.agg (stA ps sp n cap), .slice sb nb cb] w (DLPost ps os L w) := by
  cases hm : may ps n with
  | true => exact refDelta_ok ps N sp n cap os sb nb cb L Nb w hS hL hm
  | false => exact refDelta_no ps N sp n cap os sb nb cb L w hS hm
end Go.Proofs.Ytbhhbkoikocjgaa
