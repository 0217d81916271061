/- Iu, Iu2, Iv. -/
import Derived.Test.YtoopgppahfnncaaDoorX02
import Derived.Test.YtoopgppahfnncaaDoorX03
import Derived.Test.YtoopgppahfnncaaDoorX08
import Derived.Test.YtoopgppahfnncaaDoorX04
import Derived.Test.YtoopgppahfnncaaDoorX10
import Derived.Test.YtoopgppahfnncaaDoorX09
import Derived.Test.YtoopgppahfnncaaDoorX11
import Derived.BigQuiet
import Derived.BigRegion
import Derived.ChangeKeysEq
import Derived.ChangeOld
import Derived.Deep.DeepCutAuto
import Derived.Deep.DrawnRows
import Derived.Deep.MidRow
import Derived.Deep.OwnRows
import Derived.Deep.QuietTactic
import Derived.Deep.RegionHeld3
import Derived.Deep.RegionLaw
import Derived.Deep.RegionWith
import Derived.Deep.WholeRow
import Derived.DeepKeys3
import Derived.Great.BuildSlice
import Derived.Great.FillDense
import Derived.Handy
import Derived.Laws.AppendOwn
import Derived.Laws.AppendOwnNone
import Derived.Laws.BitsLemmas
import Derived.Laws.BytesArg
import Derived.Laws.CopyOwn
import Derived.Laws.CopyRow
import Derived.Laws.DeepBits32
import Derived.Laws.MakeOwn
import Derived.Laws.OwnMore
import Derived.Laws.ResultCell
import Derived.Laws.Tables
import Derived.Lib.AppendZeros
import Derived.Lib.SlBytesConst
import Derived.LoopIn
import Derived.LoopNIn
import Derived.LoopTactic
import Derived.Maps.AppendAt
import Derived.OpenShut
import Derived.OwnWalk
import Derived.OwnWalkIn
import Derived.ProofKit
import Derived.RangeFuncBound
import Derived.RangeFuncCalls
import Derived.RangeFuncLeaves
import Derived.RangeFuncNested
import Derived.RangeFuncRecord
import Derived.Recover
import Derived.Shelf.Abstract
import Derived.Shelf.RegionOpen
import Derived.ShutString
import Derived.SizedLaws
import Derived.TacticsInMore
import Derived.WalkKit
import Derived.WalkLawsBesides
import Derived.WalkSpells
/- Layer ir: what the layers below give. -/
namespace Go.Proofs.YtoopgppahfnncaaDoor
open Go.RowKit
set_option maxRecDepth 100000
set_option linter.unusedVariables false
set_option linter.unusedSimpArgs false

set_option maxHeartbeats 4000000 in
theorem dstmt_s {N d : Nat} {sp : Option Addr} {n cap : Nat} {fs : List FuT} {da vs : Int} {fi : Nat} {fn : FuT} (hd100 : d ≤ 100) (hfi : fs[fi]? = some fn) (hvs : fn.v = vs) (hE : DsAt N sp n cap fs da vs fi d) : DsAt N sp n cap fs da vs fi (d + 1) := by
  intro w cs t kk hk hN hF hM
  obtain ⟨sa, na, ca, sb, nb, cb, sc, nc, cc, rfl, hok, hSa, hSb, hSc⟩ := hM
  have b0 : Below w.heap.size w ((w.alloc (.cells #[.slice sp n cap, .int .i64 da] 24)).alloc (.cells (stC t.nd.k t.nd.v t.nd.f t.nd.t (.slice sa na ca) (.slice sb nb cb) (.slice sc nc cc)).toArray 66)) := (ab w _).alloc (by simp) _
  have A0 := (Arr.new w 24 #[.slice sp n cap, .int .i64 da]).alloc (.cells (stC t.nd.k t.nd.v t.nd.f t.nd.t (.slice sa na ca) (.slice sb nb cb) (.slice sc nc cc)).toArray 66)
  have A1 := Arr.new (w.alloc (.cells #[.slice sp n cap, .int .i64 da] 24)) 66 (stC t.nd.k t.nd.v t.nd.f t.nd.t (.slice sa na ca) (.slice sb nb cb) (.slice sc nc cc)).toArray
  simp only [World.size_alloc] at A1
  by_cases h0 : kk = 0
  · subst h0
    have e : stN ((fs.take fi).map FuT.p) vs (d + 1) t 0 = none := by unfold stN; rw [if_pos (.inl rfl)]
    rw [e]
    have hsub : IntKind.i64.wrap (((0 : Nat) : Int) - 1) = -1 := by rw [IntKind.wrap_i64]; omega
    clear hE hSa hSb hSc hF A0 A1
    unfold stC at *
    go_enter Tryd.func51, Tryd.ntmps51
    go_upto_region 2 with fail
    go_quiet (fail)
    go_wp2_with fail
    go_ret
    exact ⟨rfl, dwN b0 _⟩
  obtain ⟨r, hr⟩ : ∃ r, r = stN ((fs.take fi).map FuT.p) vs (d + 1) t kk := ⟨_, rfl⟩
  rw [← hr]
  rw [stN_f h0] at hr
  have hsub : IntKind.i64.wrap ((kk : Int) - 1) = ((kk - 1 : Nat) : Int) := by rw [IntKind.wrap_i64]; omega
  have hneg : ¬ (((kk - 1 : Nat) : Int) < 0) := by omega
  have hd0 : (((d + 1 : Nat) : Int) == 0) = false := by simp; omega
  have hdw : IntKind.i64.wrap (((d + 1 : Nat) : Int) - 1) = (d : Int) := by rw [IntKind.wrap_i64]; omega
  have hk1 : kk - 1 ≤ 4096 := by omega
  have hna := hSa.len.out
  have harg := fun (u : World) (hu : Below ((w.alloc (.cells #[.slice sp n cap, .int .i64 da] 24)).alloc (.cells (stC t.nd.k t.nd.v t.nd.f t.nd.t (.slice sa na ca) (.slice sb nb cb) (.slice sc nc cc)).toArray 66)).heap.size ((w.alloc (.cells #[.slice sp n cap, .int .i64 da] 24)).alloc (.cells (stC t.nd.k t.nd.v t.nd.f t.nd.t (.slice sa na ca) (.slice sb nb cb) (.slice sc nc cc)).toArray 66)) u) => args_any (da := da) (vs := vs) u (hF.imp ((b0.trans (hu.mono b0.size)).mono hN) (FuM.below ((b0.trans (hu.mono b0.size)).mono hN))) (by have := (b0.trans (hu.mono b0.size)).size; omega) hfi hvs t.nd sa na ca sb nb cb sc nc cc hSb.len.out hSc.len.out
  have hth := fun (u : World) (hu : Below ((w.alloc (.cells #[.slice sp n cap, .int .i64 da] 24)).alloc (.cells (stC t.nd.k t.nd.v t.nd.f t.nd.t (.slice sa na ca) (.slice sb nb cb) (.slice sc nc cc)).toArray 66)).heap.size ((w.alloc (.cells #[.slice sp n cap, .int .i64 da] 24)).alloc (.cells (stC t.nd.k t.nd.v t.nd.f t.nd.t (.slice sa na ca) (.slice sb nb cb) (.slice sc nc cc)).toArray 66)) u) (q : Option Nat) (hq : ∀ k, q = some k → k ≤ 4096) (x y : Int) (hx : x = doR q) (hy : y = d) => dstmts hE u (hSb.imp ((b0.trans (hu.mono b0.size)).mono hN) (StM.below ((b0.trans (hu.mono b0.size)).mono hN) d)) (by have := (b0.trans (hu.mono b0.size)).size; omega) (hF.imp ((b0.trans (hu.mono b0.size)).mono hN) (FuM.below ((b0.trans (hu.mono b0.size)).mono hN))) q hq x y hx hy
  have hel := fun (u : World) (hu : Below ((w.alloc (.cells #[.slice sp n cap, .int .i64 da] 24)).alloc (.cells (stC t.nd.k t.nd.v t.nd.f t.nd.t (.slice sa na ca) (.slice sb nb cb) (.slice sc nc cc)).toArray 66)).heap.size ((w.alloc (.cells #[.slice sp n cap, .int .i64 da] 24)).alloc (.cells (stC t.nd.k t.nd.v t.nd.f t.nd.t (.slice sa na ca) (.slice sb nb cb) (.slice sc nc cc)).toArray 66)) u) (q : Option Nat) (hq : ∀ k, q = some k → k ≤ 4096) (x y : Int) (hx : x = doR q) (hy : y = d) => dstmts hE u (hSc.imp ((b0.trans (hu.mono b0.size)).mono hN) (StM.below ((b0.trans (hu.mono b0.size)).mono hN) d)) (by have := (b0.trans (hu.mono b0.size)).size; omega) (hF.imp ((b0.trans (hu.mono b0.size)).mono hN) (FuM.below ((b0.trans (hu.mono b0.size)).mono hN))) q hq x y hx hy
  have hSaU := hSa.imp (b0.mono hN) (ExM.below (b0.mono hN) 8)
  have hFU := hF.imp (b0.mono hN) (FuM.below (b0.mono hN))
  have hNU : N ≤ ((w.alloc (.cells #[.slice sp n cap, .int .i64 da] 24)).alloc (.cells (stC t.nd.k t.nd.v t.nd.f t.nd.t (.slice sa na ca) (.slice sb nb cb) (.slice sc nc cc)).toArray 66)).heap.size := by simp; omega
  have hFl := hF.len.out
  have hfl := (List.getElem?_eq_some_iff.1 hfi).1
  have hin : fi < n := by omega
  have hin' : (fi : Int) < n := by omega
  have hsa := hSa.small
  clear hE hSb hSc hF hSa hFl hfl
  replace hr := hid hr
  replace hna := hid hna
  generalize hdd : ((d + 1 : Nat) : Int) = dd at *
  generalize kk - 1 = k1 at *
  unfold DoP at hth hel
  unfold stC at *
  go_enter Tryd.func51, Tryd.ntmps51
  go_upto_region 2 with fail
  generalize hU : (w.alloc (.cells #[.slice sp n cap, .int .i64 da] 24)).alloc (.cells #[.int .u8 t.nd.k, .int .i64 t.nd.v, .int .i64 t.nd.f, .int .i64 t.nd.t, .slice sa na ca, .slice sb nb cb, .slice sc nc cc] 66) = U at *
  have hUs : w.heap.size + 1 < U.heap.size := A1.lt
  by_cases hag : agN ((fs.take fi).map FuT.p) vs t.nd = (na : Int)
  · have hr2 : Hid (r = ((fld (exN vs 8) t.nd.a k1).bind (fld (stN ((fs.take fi).map FuT.p) vs d) t.nd.th)).bind (fld (stN ((fs.take fi).map FuT.p) vs d) t.nd.el)) := hid (by rw [hr.out, if_pos (by rw [hag, hna.out])])
    rw [hag] at harg
    clear hag hr
    refine wp_region_held_drew (S := fun u => Below U.heap.size U u) (by kernel_rfl) ((Below.refl _ U).drew) (fun hHeld => ?_)
    refine wpAnyH_take (i := 0) (oi := ⟨_, _, _, _, _, _⟩) (v := ?_) rfl (by kernel_rfl) (by kernel_rfl) (by kernel_rfl) (fun _ _ _ h => h) (Or.inl ⟨by rfl, ?_⟩) (by assumption) ?_
    rotate_left
    · intro u hSw
      go_simp
      try (with_reducible rfl)
    try simp only [Act.put, List.setIfInBounds_toArray, List.set_cons_zero, List.set_cons_succ]
    refine wpAnyH_take (i := 1) (oi := ⟨_, _, _, _, _, _⟩) (v := ?_) rfl (by kernel_rfl) (by kernel_rfl) (by kernel_rfl) (fun _ _ _ h => h) (Or.inl ⟨by rfl, ?_⟩) (by assumption) ?_
    rotate_left
    · intro u hSw
      go_simp
      try (with_reducible rfl)
    try simp only [Act.put, List.setIfInBounds_toArray, List.set_cons_zero, List.set_cons_succ]
    refine wpAnyH_take (i := 2) (oi := ⟨_, _, _, _, _, _⟩) (v := ?_) rfl (by kernel_rfl) (by kernel_rfl) (by kernel_rfl) (fun _ _ _ h => h) (Or.inl ⟨by rfl, ?_⟩) (by assumption) ?_
    rotate_left
    · intro u hSw
      go_simp
      try (with_reducible rfl)
    try simp only [Act.put, List.setIfInBounds_toArray, List.set_cons_zero, List.set_cons_succ]
    refine wpAnyH_take (i := 3) (oi := ⟨_, _, _, _, _, _⟩) (v := ?_) rfl (by kernel_rfl) (by kernel_rfl) (by kernel_rfl) (fun _ _ _ h => h) (Or.inl ⟨by rfl, ?_⟩) (by assumption) ?_
    rotate_left
    · intro u hSw
      go_simp
      try (with_reducible rfl)
    try simp only [Act.put, List.setIfInBounds_toArray, List.set_cons_zero, List.set_cons_succ]
    refine wpAnyH_take (i := 4) (oi := ⟨_, _, _, _, _, _⟩) (v := ?_) rfl (by kernel_rfl) (by kernel_rfl) (by kernel_rfl) (fun _ _ _ h => h) (Or.inl ⟨by rfl, ?_⟩) (by assumption) ?_
    rotate_left
    · intro u hSw
      go_simp
      try (with_reducible rfl)
    try simp only [Act.put, List.setIfInBounds_toArray, List.set_cons_zero, List.set_cons_succ]
    refine wpAnyH_take (i := 5) (oi := ⟨_, _, _, _, _, _⟩) (v := ?_) rfl (by kernel_rfl) (by kernel_rfl) (by kernel_rfl) (fun _ _ _ h => h) (Or.inl ⟨by rfl, ?_⟩) (by assumption) ?_
    rotate_left
    · intro u hSw
      go_simp
      try (with_reducible rfl)
    try simp only [Act.put, List.setIfInBounds_toArray, List.set_cons_zero, List.set_cons_succ]
    refine wpAnyH_take (i := 6) (oi := ⟨_, _, _, _, _, _⟩) (v := ?_) rfl (by kernel_rfl) (by kernel_rfl) (by kernel_rfl) (fun _ _ _ h => h) (Or.inl ⟨by rfl, ?_⟩) (by assumption) ?_
    rotate_left
    · intro u hSw
      go_simp
      try (with_reducible rfl)
    try simp only [Act.put, List.setIfInBounds_toArray, List.set_cons_zero, List.set_cons_succ]
    refine wpAnyH_take (i := 7) (oi := ⟨_, _, _, _, _, _⟩) (v := ?_) rfl (by kernel_rfl) (by kernel_rfl) (by kernel_rfl) (fun _ _ _ h => h) (Or.inl ⟨by rfl, ?_⟩) (by assumption) ?_
    rotate_left
    · intro u hSw
      have s0 := (hSw.cell (p := ⟨w.heap.size, 0, none⟩) (by show w.heap.size < _; omega)).trans (A0.cell 0)
      have s1 := (hSw.cell (p := ⟨w.heap.size, 1, none⟩) (by show w.heap.size < _; omega)).trans (A0.cell 1)
      go_simp
      try (with_reducible rfl)
    try simp only [Act.put, List.setIfInBounds_toArray, List.set_cons_zero, List.set_cons_succ]
    refine wpAnyH_take (i := 8) (oi := ⟨_, _, _, _, _, _⟩) (v := ?_) rfl (by kernel_rfl) (by kernel_rfl) (by kernel_rfl) (fun _ _ _ h => h) (Or.inl ⟨by rfl, ?_⟩) (by assumption) ?_
    rotate_left
    · intro u hSw
      go_simp
      try (with_reducible rfl)
    try simp only [Act.put, List.setIfInBounds_toArray, List.set_cons_zero, List.set_cons_succ]
    refine wpAnyH_take (i := 9) (oi := ⟨_, _, _, _, _, _⟩) (v := ?_) rfl (by kernel_rfl) (by kernel_rfl) (by kernel_rfl) (fun _ _ _ h => h) (Or.inl ⟨by rfl, ?_⟩) (by assumption) ?_
    rotate_left
    · intro u hSw
      have s0 := (hSw.cell (p := ⟨(w.heap.size + 1), 0, none⟩) (by show (w.heap.size + 1) < _; omega)).trans (A1.cell 0)
      have s1 := (hSw.cell (p := ⟨(w.heap.size + 1), 1, none⟩) (by show (w.heap.size + 1) < _; omega)).trans (A1.cell 1)
      have s2 := (hSw.cell (p := ⟨(w.heap.size + 1), 2, none⟩) (by show (w.heap.size + 1) < _; omega)).trans (A1.cell 2)
      have s3 := (hSw.cell (p := ⟨(w.heap.size + 1), 3, none⟩) (by show (w.heap.size + 1) < _; omega)).trans (A1.cell 3)
      have s4 := (hSw.cell (p := ⟨(w.heap.size + 1), 4, none⟩) (by show (w.heap.size + 1) < _; omega)).trans (A1.cell 4)
      have s5 := (hSw.cell (p := ⟨(w.heap.size + 1), 5, none⟩) (by show (w.heap.size + 1) < _; omega)).trans (A1.cell 5)
      have s6 := (hSw.cell (p := ⟨(w.heap.size + 1), 6, none⟩) (by show (w.heap.size + 1) < _; omega)).trans (A1.cell 6)
      go_simp
      try (with_reducible rfl)
    try simp only [Act.put, List.setIfInBounds_toArray, List.set_cons_zero, List.set_cons_succ]
    refine wpAnyH_take (i := 11) (oi := ⟨_, _, _, _, _, _⟩) (v := ?_) rfl (by kernel_rfl) (by kernel_rfl) (by kernel_rfl) (fun _ _ _ h => h) (Or.inl ⟨by rfl, ?_⟩) (by assumption) ?_
    rotate_left
    · intro u hSw
      go_simp
      try (with_reducible rfl)
    try simp only [Act.put, List.setIfInBounds_toArray, List.set_cons_zero, List.set_cons_succ]
    refine wpAnyH_take (i := 12) (oi := ⟨_, _, _, _, _, _⟩) (v := ?_) rfl (by kernel_rfl) (by kernel_rfl) (by kernel_rfl) (fun _ _ _ h => h) (Or.inl ⟨by rfl, ?_⟩) (by assumption) ?_
    rotate_left
    · intro u hSw
      have s4 := (hSw.cell (p := ⟨(w.heap.size + 1), 4, none⟩) (by show (w.heap.size + 1) < _; omega)).trans (A1.cell 4)
      go_simp
      try (with_reducible rfl)
    try simp only [Act.put, List.setIfInBounds_toArray, List.set_cons_zero, List.set_cons_succ]
    refine wpAnyH_take (i := 13) (oi := ⟨_, _, _, _, _, _⟩) (v := ?_) rfl (by kernel_rfl) (by kernel_rfl) (by kernel_rfl) (fun _ _ _ h => h) (Or.inl ⟨by rfl, ?_⟩) (by assumption) ?_
    rotate_left
    · intro u hSw
      go_simp
      try (with_reducible rfl)
    try simp only [Act.put, List.setIfInBounds_toArray, List.set_cons_zero, List.set_cons_succ]
    refine wpAnyH_ready (rs := [10]) (by kernel_rfl) (by simp) ?_
    refine AllReadyH.cons (o := ⟨_, _, _, _, _, _⟩) rfl (fun K hK => ?_) AllReadyH.nil
    go_simp
    refine (harg U.drew (dw1 (Below.refl _ _))).mono ?_
    rintro e w1 ⟨rfl, hb1⟩
    have hB1 : Below U.heap.size U w1 := (dw1 (Below.refl _ U)).trans hb1
    go_wp2_with fail
    refine hK.out _ _ hB1 (fun hHeld => ?_)
    clear hK K
    try simp only [Act.put, List.setIfInBounds_toArray, List.set_cons_zero, List.set_cons_succ]
    refine wpAnyH_take (i := 14) (oi := ⟨_, _, _, _, _, _⟩) (v := ?_) rfl (by kernel_rfl) (by kernel_rfl) (by kernel_rfl) (fun _ _ _ h => h) (Or.inl ⟨by rfl, ?_⟩) (by assumption) ?_
    rotate_left
    · intro u hSw
      go_simp
      try (with_reducible rfl)
    try simp only [Act.put, List.setIfInBounds_toArray, List.set_cons_zero, List.set_cons_succ]
    refine wpAnyH_take (i := 15) (oi := ⟨_, _, _, _, _, _⟩) (v := ?_) rfl (by kernel_rfl) (by kernel_rfl) (by kernel_rfl) (fun _ _ _ h => h) (Or.inl ⟨by rfl, ?_⟩) (by assumption) ?_
    rotate_left
    · intro u hSw
      go_simp
      try (with_reducible rfl)
    try simp only [Act.put, List.setIfInBounds_toArray, List.set_cons_zero, List.set_cons_succ]
    refine wpAnyH_done (by kernel_rfl) ?_ _
    have B1 := b0.trans (hB1.mono b0.size)
    go_upto_region 5 with fail
    go_loopw [3, 11] (fun a i wr => ∃ (j : Nat), i = .int .i64 (j : Int) ∧ j ≤ na ∧ ((∃ q : Nat, q ≤ 4096 ∧ a = .int .i64 (q : Int) ∧ Hid (fld (exN vs 8) t.nd.a k1 = fld (exN vs 8) (t.nd.a.drop j) q)) ∨ (a = .int .i64 (-1) ∧ Hid (fld (exN vs 8) t.nd.a k1 = none))) ∧ Below U.heap.size U wr)
      (fun _ i _ => na - (intOf i).toNat)
    case atStart => exact ⟨0, rfl, by omega, .inl ⟨k1, hk1, rfl, hid (by rw [List.drop_zero])⟩, hB1⟩
    case round =>
      obtain ⟨j, rfl, hj, hqq, hb⟩ := hrel
      have B2 := b0.trans (hb.mono b0.size)
      have e4 := (A1.bl hb).cell 4
      have e5 := (A1.bl hb).cell 5
      have f0 := (A0.bl hb).cell 0
      have f1 := (A0.bl hb).cell 1
      have FIN : ∀ (q : Option Nat), (∀ k, q = some k → k ≤ 4096) → Hid (fld (exN vs 8) t.nd.a k1 = q) → Hid (r = (q.bind (fld (stN ((fs.take fi).map FuT.p) vs d) t.nd.th)).bind (fld (stN ((fs.take fi).map FuT.p) vs d) t.nd.el)) := fun q _ h => hid (by rw [hr2.out, h.out])
      rcases hqq with ⟨q, hq, rfl, hf⟩ | ⟨rfl, hf⟩
      · have hq0 : (0 : Int) ≤ q := by omega
        by_cases hlt : j < na
        · obtain ⟨x, ht⟩ : ∃ t', t.nd.a[j]? = some t' := ⟨t.nd.a[j]'(by rw [← hna.out]; exact hlt), List.getElem?_eq_getElem _⟩
          obtain ⟨g, off, rfl, hg, hR⟩ := hSaU.at0 (by omega)
          obtain ⟨cs, hrg, hM⟩ := hR j x ht
          have hrg2 := rb hrg hb (by omega)
          have hM2 := ExM.below (hb.mono hNU) 8 cs x hM
          obtain ⟨ek, en, ev, eo, es, em, ec, rfl⟩ := hM.cells
          have c0 := hrg2 0 _ rfl
          have c1 := hrg2 1 _ rfl
          have c2 := hrg2 2 _ rfl
          have c3 := hrg2 3 _ rfl
          have c4 := hrg2 4 _ rfl
          simp only [Nat.add_zero] at c0
          obtain ⟨gf, of, rfl, hgf, hRf⟩ := hFU.at0 (by omega)
          obtain ⟨cf, hrf, hMf⟩ := hRf fi fn hfi
          obtain ⟨qa, qb, qc, rfl, -, -⟩ := hMf
          have v1 : wr.cell? ⟨gf, of + fi * 3 + 1, none⟩ = some (.int .i64 vs) := by rw [← hvs]; exact rb hrf hb (by omega) 1 _ rfl
          have hlt' : (j : Int) < na := by omega
          have h0' : (0 : Int) ≤ j := by omega
          have hfd := fld_drop (f := exN vs 8) ht q
          have bd : Below wr.heap.size wr wr.drew := dw1 (Below.refl _ _)
          have hcc := dexpr_any (vs := vs) 8 (by omega) wr.drew _ x q hq (by have := hb.size; show N ≤ wr.heap.size; omega) (ExM.below (bd.mono (by have := hb.size; omega)) 8 _ x hM2)
          unfold DoP at hcc
          clear hSaU hR hrg hrg2 hM hM2 hna ht A0 A1 hFU hrf hRf hth hel harg hr2 FIN
          cases hx : exN vs 8 x q with
          | none =>
            rw [hx] at hcc hfd
            have hrn : Hid (fld (exN vs 8) t.nd.a k1 = none) := hid (hf.out.trans hfd)
            clear hx hfd hf
            unfold exC at *
            go_upto_region 7 with fail
            go_region_with (go_at_call 65; go_must (refine hcc.mono ?_; rintro e w3 ⟨rfl, hb3⟩))
            all_goals
              go_wp2_with fail
              go_roundw
              case rel => exact ⟨j + 1, by go_num, by omega, .inr ⟨rfl, hrn⟩, hb.trans ((bd.trans hb3).mono hb.size)⟩
              case measure => simp [intOf]; omega
          | some q' =>
            have hq' := exN_le 8 x q q' hx
            rw [hx] at hcc hfd
            have hrn : Hid (fld (exN vs 8) t.nd.a k1 = fld (exN vs 8) (t.nd.a.drop (j + 1)) q') := hid (hf.out.trans hfd)
            clear hx hfd hf
            unfold exC at *
            go_upto_region 7 with fail
            go_region_with (go_at_call 65; go_must (refine hcc.mono ?_; rintro e w3 ⟨rfl, hb3⟩))
            all_goals
              go_wp2_with fail
              go_roundw
              case rel => exact ⟨j + 1, by go_num, by omega, .inl ⟨q', by omega, rfl, hrn⟩, hb.trans ((bd.trans hb3).mono hb.size)⟩
              case measure => simp [intOf]; omega
        · obtain rfl : j = na := by omega
          have hlt' : ¬ (j : Int) < j := by omega
          have hfin := FIN (some q) (fun k h => by cases h; exact hq) (hid (by rw [hf.out, hna.out, List.drop_length]; rfl))
          have ht1 := hth wr hb (some q) (fun k h => by cases h; exact hq) _ _ rfl rfl
          have hq1 : ∀ k, (some q).bind (fld (stN ((fs.take fi).map FuT.p) vs d) t.nd.th) = some k → k ≤ 4096 := fun k h => by have := fld_le (stN_le d) _ _ _ h; omega
          have he1 := fun (u : World) (hu : Below U.heap.size U u) => hel u hu _ hq1 _ _ rfl rfl
          replace ht1 : Calls Tryd.prog 36 #[.agg #[.slice sp n cap, .int .i64 da], .int .i64 (fi : Int), .slice sb nb cb, .int .i64 (q : Int), .int .i64 (d : Int)] wr _ := ht1
          generalize (some q).bind (fld (stN ((fs.take fi).map FuT.p) vs d) t.nd.th) = q2 at *
          generalize q2.bind (fld (stN ((fs.take fi).map FuT.p) vs d) t.nd.el) = q3 at *
          clear hSaU hna hFU hth hel harg hr2 FIN hf hq1
          go_upto_region 9 with (go_at_call 36; go_must (refine ht1.mono ?_; rintro e w4 ⟨rfl, hb4⟩; have hb5 := hb.trans (hb4.mono hb.size); have p0 := (A0.bl hb5).cell 0; have p1 := (A0.bl hb5).cell 1; have p6 := (A1.bl hb5).cell 6; clear ht1; replace he1 := he1 w4 hb5))
          go_wp2_with (go_at_call 36; go_must (refine he1.mono ?_; rintro e w6 ⟨rfl, hb6⟩))
          go_ret
          rw [hfin.out]
          have B5 := b0.trans (hb5.mono b0.size)
          exact ⟨rfl, B5.trans (hb6.mono B5.size)⟩
      · have hfin := FIN none (fun k h => by cases h) hf
        have ht1 := hth wr hb none (fun k h => by cases h) _ _ rfl rfl
        have he1 := fun (u : World) (hu : Below U.heap.size U u) => hel u hu ((none : Option Nat).bind (fld (stN ((fs.take fi).map FuT.p) vs d) t.nd.th)) (fun k h => by cases h) _ _ rfl rfl
        replace ht1 : Calls Tryd.prog 36 #[.agg #[.slice sp n cap, .int .i64 da], .int .i64 (fi : Int), .slice sb nb cb, .int .i64 (-1), .int .i64 (d : Int)] wr _ := ht1
        generalize (none : Option Nat).bind (fld (stN ((fs.take fi).map FuT.p) vs d) t.nd.th) = q2 at *
        generalize q2.bind (fld (stN ((fs.take fi).map FuT.p) vs d) t.nd.el) = q3 at *
        clear hSaU hna hFU hth hel harg hr2 FIN hf
        by_cases hlt : j < na
        · have hlt' : (j : Int) < na := by omega
          go_upto_region 9 with (go_at_call 36; go_must (refine ht1.mono ?_; rintro e w4 ⟨rfl, hb4⟩; have hb5 := hb.trans (hb4.mono hb.size); have p0 := (A0.bl hb5).cell 0; have p1 := (A0.bl hb5).cell 1; have p6 := (A1.bl hb5).cell 6; clear ht1; replace he1 := he1 w4 hb5))
          go_wp2_with (go_at_call 36; go_must (refine he1.mono ?_; rintro e w6 ⟨rfl, hb6⟩))
          go_ret
          rw [hfin.out]
          have B5 := b0.trans (hb5.mono b0.size)
          exact ⟨rfl, B5.trans (hb6.mono B5.size)⟩
        · have hlt' : ¬ (j : Int) < na := by omega
          go_upto_region 9 with (go_at_call 36; go_must (refine ht1.mono ?_; rintro e w4 ⟨rfl, hb4⟩; have hb5 := hb.trans (hb4.mono hb.size); have p0 := (A0.bl hb5).cell 0; have p1 := (A0.bl hb5).cell 1; have p6 := (A1.bl hb5).cell 6; clear ht1; replace he1 := he1 w4 hb5))
          go_wp2_with (go_at_call 36; go_must (refine he1.mono ?_; rintro e w6 ⟨rfl, hb6⟩))
          go_ret
          rw [hfin.out]
          have B5 := b0.trans (hb5.mono b0.size)
          exact ⟨rfl, B5.trans (hb6.mono B5.size)⟩
  · have hz : Hid (r = none) := hid (by rw [hr.out, if_neg (by rw [← hna.out]; exact hag)])
    have hagb : (agN ((fs.take fi).map FuT.p) vs t.nd != (na : Int)) = true := by simpa using hag
    generalize agN ((fs.take fi).map FuT.p) vs t.nd = ag at *
    clear hag hr hth hel hSaU hFU
    refine wp_region_held_drew (S := fun u => Below U.heap.size U u) (by kernel_rfl) ((Below.refl _ U).drew) (fun hHeld => ?_)
    refine wpAnyH_take (i := 0) (oi := ⟨_, _, _, _, _, _⟩) (v := ?_) rfl (by kernel_rfl) (by kernel_rfl) (by kernel_rfl) (fun _ _ _ h => h) (Or.inl ⟨by rfl, ?_⟩) (by assumption) ?_
    rotate_left
    · intro u hSw
      go_simp
      try (with_reducible rfl)
    try simp only [Act.put, List.setIfInBounds_toArray, List.set_cons_zero, List.set_cons_succ]
    refine wpAnyH_take (i := 1) (oi := ⟨_, _, _, _, _, _⟩) (v := ?_) rfl (by kernel_rfl) (by kernel_rfl) (by kernel_rfl) (fun _ _ _ h => h) (Or.inl ⟨by rfl, ?_⟩) (by assumption) ?_
    rotate_left
    · intro u hSw
      go_simp
      try (with_reducible rfl)
    try simp only [Act.put, List.setIfInBounds_toArray, List.set_cons_zero, List.set_cons_succ]
    refine wpAnyH_take (i := 2) (oi := ⟨_, _, _, _, _, _⟩) (v := ?_) rfl (by kernel_rfl) (by kernel_rfl) (by kernel_rfl) (fun _ _ _ h => h) (Or.inl ⟨by rfl, ?_⟩) (by assumption) ?_
    rotate_left
    · intro u hSw
      go_simp
      try (with_reducible rfl)
    try simp only [Act.put, List.setIfInBounds_toArray, List.set_cons_zero, List.set_cons_succ]
    refine wpAnyH_take (i := 3) (oi := ⟨_, _, _, _, _, _⟩) (v := ?_) rfl (by kernel_rfl) (by kernel_rfl) (by kernel_rfl) (fun _ _ _ h => h) (Or.inl ⟨by rfl, ?_⟩) (by assumption) ?_
    rotate_left
    · intro u hSw
      go_simp
      try (with_reducible rfl)
    try simp only [Act.put, List.setIfInBounds_toArray, List.set_cons_zero, List.set_cons_succ]
    refine wpAnyH_take (i := 4) (oi := ⟨_, _, _, _, _, _⟩) (v := ?_) rfl (by kernel_rfl) (by kernel_rfl) (by kernel_rfl) (fun _ _ _ h => h) (Or.inl ⟨by rfl, ?_⟩) (by assumption) ?_
    rotate_left
    · intro u hSw
      go_simp
      try (with_reducible rfl)
    try simp only [Act.put, List.setIfInBounds_toArray, List.set_cons_zero, List.set_cons_succ]
    refine wpAnyH_take (i := 5) (oi := ⟨_, _, _, _, _, _⟩) (v := ?_) rfl (by kernel_rfl) (by kernel_rfl) (by kernel_rfl) (fun _ _ _ h => h) (Or.inl ⟨by rfl, ?_⟩) (by assumption) ?_
    rotate_left
    · intro u hSw
      go_simp
      try (with_reducible rfl)
    try simp only [Act.put, List.setIfInBounds_toArray, List.set_cons_zero, List.set_cons_succ]
    refine wpAnyH_take (i := 6) (oi := ⟨_, _, _, _, _, _⟩) (v := ?_) rfl (by kernel_rfl) (by kernel_rfl) (by kernel_rfl) (fun _ _ _ h => h) (Or.inl ⟨by rfl, ?_⟩) (by assumption) ?_
    rotate_left
    · intro u hSw
      go_simp
      try (with_reducible rfl)
    try simp only [Act.put, List.setIfInBounds_toArray, List.set_cons_zero, List.set_cons_succ]
    refine wpAnyH_take (i := 7) (oi := ⟨_, _, _, _, _, _⟩) (v := ?_) rfl (by kernel_rfl) (by kernel_rfl) (by kernel_rfl) (fun _ _ _ h => h) (Or.inl ⟨by rfl, ?_⟩) (by assumption) ?_
    rotate_left
    · intro u hSw
      have s0 := (hSw.cell (p := ⟨w.heap.size, 0, none⟩) (by show w.heap.size < _; omega)).trans (A0.cell 0)
      have s1 := (hSw.cell (p := ⟨w.heap.size, 1, none⟩) (by show w.heap.size < _; omega)).trans (A0.cell 1)
      go_simp
      try (with_reducible rfl)
    try simp only [Act.put, List.setIfInBounds_toArray, List.set_cons_zero, List.set_cons_succ]
    refine wpAnyH_take (i := 8) (oi := ⟨_, _, _, _, _, _⟩) (v := ?_) rfl (by kernel_rfl) (by kernel_rfl) (by kernel_rfl) (fun _ _ _ h => h) (Or.inl ⟨by rfl, ?_⟩) (by assumption) ?_
    rotate_left
    · intro u hSw
      go_simp
      try (with_reducible rfl)
    try simp only [Act.put, List.setIfInBounds_toArray, List.set_cons_zero, List.set_cons_succ]
    refine wpAnyH_take (i := 9) (oi := ⟨_, _, _, _, _, _⟩) (v := ?_) rfl (by kernel_rfl) (by kernel_rfl) (by kernel_rfl) (fun _ _ _ h => h) (Or.inl ⟨by rfl, ?_⟩) (by assumption) ?_
    rotate_left
    · intro u hSw
      have s0 := (hSw.cell (p := ⟨(w.heap.size + 1), 0, none⟩) (by show (w.heap.size + 1) < _; omega)).trans (A1.cell 0)
      have s1 := (hSw.cell (p := ⟨(w.heap.size + 1), 1, none⟩) (by show (w.heap.size + 1) < _; omega)).trans (A1.cell 1)
      have s2 := (hSw.cell (p := ⟨(w.heap.size + 1), 2, none⟩) (by show (w.heap.size + 1) < _; omega)).trans (A1.cell 2)
      have s3 := (hSw.cell (p := ⟨(w.heap.size + 1), 3, none⟩) (by show (w.heap.size + 1) < _; omega)).trans (A1.cell 3)
      have s4 := (hSw.cell (p := ⟨(w.heap.size + 1), 4, none⟩) (by show (w.heap.size + 1) < _; omega)).trans (A1.cell 4)
      have s5 := (hSw.cell (p := ⟨(w.heap.size + 1), 5, none⟩) (by show (w.heap.size + 1) < _; omega)).trans (A1.cell 5)
      have s6 := (hSw.cell (p := ⟨(w.heap.size + 1), 6, none⟩) (by show (w.heap.size + 1) < _; omega)).trans (A1.cell 6)
      go_simp
      try (with_reducible rfl)
    try simp only [Act.put, List.setIfInBounds_toArray, List.set_cons_zero, List.set_cons_succ]
    refine wpAnyH_take (i := 11) (oi := ⟨_, _, _, _, _, _⟩) (v := ?_) rfl (by kernel_rfl) (by kernel_rfl) (by kernel_rfl) (fun _ _ _ h => h) (Or.inl ⟨by rfl, ?_⟩) (by assumption) ?_
    rotate_left
    · intro u hSw
      go_simp
      try (with_reducible rfl)
    try simp only [Act.put, List.setIfInBounds_toArray, List.set_cons_zero, List.set_cons_succ]
    refine wpAnyH_take (i := 12) (oi := ⟨_, _, _, _, _, _⟩) (v := ?_) rfl (by kernel_rfl) (by kernel_rfl) (by kernel_rfl) (fun _ _ _ h => h) (Or.inl ⟨by rfl, ?_⟩) (by assumption) ?_
    rotate_left
    · intro u hSw
      have s4 := (hSw.cell (p := ⟨(w.heap.size + 1), 4, none⟩) (by show (w.heap.size + 1) < _; omega)).trans (A1.cell 4)
      go_simp
      try (with_reducible rfl)
    try simp only [Act.put, List.setIfInBounds_toArray, List.set_cons_zero, List.set_cons_succ]
    refine wpAnyH_take (i := 13) (oi := ⟨_, _, _, _, _, _⟩) (v := ?_) rfl (by kernel_rfl) (by kernel_rfl) (by kernel_rfl) (fun _ _ _ h => h) (Or.inl ⟨by rfl, ?_⟩) (by assumption) ?_
    rotate_left
    · intro u hSw
      go_simp
      try (with_reducible rfl)
    try simp only [Act.put, List.setIfInBounds_toArray, List.set_cons_zero, List.set_cons_succ]
    refine wpAnyH_ready (rs := [10]) (by kernel_rfl) (by simp) ?_
    refine AllReadyH.cons (o := ⟨_, _, _, _, _, _⟩) rfl (fun K hK => ?_) AllReadyH.nil
    go_simp
    refine (harg U.drew (dw1 (Below.refl _ _))).mono ?_
    rintro e w1 ⟨rfl, hb1⟩
    have hB1 : Below U.heap.size U w1 := (dw1 (Below.refl _ U)).trans hb1
    go_wp2_with fail
    refine hK.out _ _ hB1 (fun hHeld => ?_)
    clear hK K
    try simp only [Act.put, List.setIfInBounds_toArray, List.set_cons_zero, List.set_cons_succ]
    refine wpAnyH_take (i := 14) (oi := ⟨_, _, _, _, _, _⟩) (v := ?_) rfl (by kernel_rfl) (by kernel_rfl) (by kernel_rfl) (fun _ _ _ h => h) (Or.inl ⟨by rfl, ?_⟩) (by assumption) ?_
    rotate_left
    · intro u hSw
      go_simp
      try (with_reducible rfl)
    try simp only [Act.put, List.setIfInBounds_toArray, List.set_cons_zero, List.set_cons_succ]
    refine wpAnyH_take (i := 15) (oi := ⟨_, _, _, _, _, _⟩) (v := ?_) rfl (by kernel_rfl) (by kernel_rfl) (by kernel_rfl) (fun _ _ _ h => h) (Or.inl ⟨by rfl, ?_⟩) (by assumption) ?_
    rotate_left
    · intro u hSw
      go_simp
      try (with_reducible rfl)
    try simp only [Act.put, List.setIfInBounds_toArray, List.set_cons_zero, List.set_cons_succ]
    refine wpAnyH_done (by kernel_rfl) ?_ _
    go_wp2_with fail
    go_ret
    rw [hz.out]
    exact ⟨rfl, b0.trans (hB1.mono b0.size)⟩
end Go.Proofs.YtoopgppahfnncaaDoor
/- Layer ir: what the layers below give. -/
namespace Go.Proofs.YtoopgppahfnncaaDoor
open Go.RowKit
set_option maxRecDepth 100000
set_option linter.unusedVariables false
set_option linter.unusedSimpArgs false

set_option maxHeartbeats 1000000 in
theorem dstmt_0 {N : Nat} {sp : Option Addr} {n cap : Nat} {fs : List FuT} {da vs : Int} {fi : Nat} : DsAt N sp n cap fs da vs fi 0 := by
  intro w cs t k hk hN hF hM
  obtain ⟨xk, xv, xf, xt, xa, ya, za, xb, yb, zb, xc, yc, zc, rfl⟩ := hM.cells
  have b0 : Below w.heap.size w ((w.alloc (.cells #[.slice sp n cap, .int .i64 da] 24)).alloc (.cells (stC xk xv xf xt (.slice xa ya za) (.slice xb yb zb) (.slice xc yc zc)).toArray 66)) := (ab w _).alloc (by simp) _
  rw [show stN ((fs.take fi).map FuT.p) vs 0 t k = none from rfl]
  clear hM hF
  have hsub : IntKind.i64.wrap ((k : Int) - 1) = (k : Int) - 1 := by rw [IntKind.wrap_i64]; omega
  unfold stC at *
  by_cases h0 : (k : Int) - 1 < 0
  · go_enter Tryd.func51, Tryd.ntmps51
    go_upto_region 2 with fail
    go_quiet (fail)
    go_wp2_with fail
    go_ret
    exact ⟨rfl, dwN b0 _⟩
  · go_enter Tryd.func51, Tryd.ntmps51
    go_upto_region 2 with fail
    go_quiet (fail)
    go_wp2_with fail
    go_ret
    exact ⟨rfl, dwN b0 _⟩
theorem dstmt_any {N : Nat} {sp : Option Addr} {n cap : Nat} {fs : List FuT} {da vs : Int} {fi : Nat} {fn : FuT} (hfi : fs[fi]? = some fn) (hvs : fn.v = vs) : ∀ d : Nat, d ≤ 100 → DsAt N sp n cap fs da vs fi d
  | 0, _ => dstmt_0
  | d + 1, h => dstmt_s (by omega) hfi hvs (dstmt_any hfi hvs d (by omega))
end Go.Proofs.YtoopgppahfnncaaDoor
/- Layer ir: what the layers below give. -/
namespace Go.Proofs.YtoopgppahfnncaaDoor
open Go.RowKit
set_option maxRecDepth 100000
set_option linter.unusedVariables false
set_option linter.unusedSimpArgs false

theorem begB_f {p : PgT} : begB p = true ↔ ¬ ((p.fs.length : Int) < 1) ∧ ¬ (32 < (p.fs.length : Int)) ∧ ¬ (p.da < 0) ∧ ¬ (1024 < p.da) ∧ p.fs.getLast?.map FuT.p = some 0 := by
  unfold begB
  rw [decide_eq_true_eq]
  constructor
  · rintro ⟨h1, h2, h3, h4, h5⟩
    exact ⟨by omega, by omega, by omega, by omega, h3⟩
  · rintro ⟨h1, h2, h3, h4, h5⟩
    exact ⟨by omega, by omega, h5, by omega, by omega⟩
set_option maxHeartbeats 4000000 in
theorem used_any {N : Nat} {cs : List Value} (p : PgT) (w : World) (hM : PgM N w cs p) (hN : N ≤ w.heap.size) :
    Calls Tryd.prog 25 #[.agg cs.toArray] w (DoP ((pgN p).map (4096 - ·)) w) := by
  obtain ⟨sp, n, cap, rfl, hda, hS⟩ := hM
  have b0 := ab w (.cells #[.slice sp n cap, .int .i64 p.da] 24)
  have A := Arr.new w 24 #[.slice sp n cap, .int .i64 p.da]
  have hlen := hS.len
  have hsm := hS.small
  have hbf := begB_f (p := p)
  rw [← hlen.out] at hbf
  have hSU := hS.imp (b0.mono hN) (FuM.below (b0.mono hN))
  have hNU : N ≤ (w.alloc (.cells #[.slice sp n cap, .int .i64 p.da] 24)).heap.size := by simp; omega
  have no : begB p ≠ true → pgN p = none := fun h => by unfold pgN; rw [if_neg h]
  by_cases c0 : (n : Int) < 1
  · rw [no (fun h => (hbf.1 h).1 c0)]
    clear hS hSU hbf no hlen
    go_enter Tryd.func25, Tryd.ntmps25
    go_wp2_with fail
    go_ret
    exact ⟨rfl, b0⟩
  by_cases c1 : 32 < (n : Int)
  · rw [no (fun h => (hbf.1 h).2.1 c1)]
    clear hS hSU hbf no hlen
    go_enter Tryd.func25, Tryd.ntmps25
    go_wp2_with fail
    go_ret
    exact ⟨rfl, b0⟩
  by_cases c2 : p.da < 0
  · rw [no (fun h => (hbf.1 h).2.2.1 c2)]
    clear hS hSU hbf no hlen
    go_enter Tryd.func25, Tryd.ntmps25
    go_wp2_with fail
    go_ret
    exact ⟨rfl, b0⟩
  by_cases c3 : 1024 < p.da
  · rw [no (fun h => (hbf.1 h).2.2.2.1 c3)]
    clear hS hSU hbf no hlen
    go_enter Tryd.func25, Tryd.ntmps25
    go_wp2_with fail
    go_ret
    exact ⟨rfl, b0⟩
  obtain ⟨f, ht⟩ : ∃ t, p.fs[n - 1]? = some t := ⟨p.fs[n - 1]'(by have := hlen.out; omega), List.getElem?_eq_getElem _⟩
  have hlast : p.fs.getLast?.map FuT.p = some f.p := by rw [List.getLast?_eq_getElem?, ← hlen.out, ht]; rfl
  obtain ⟨g, off, rfl, hg, hR⟩ := hSU.at0 (by omega)
  obtain ⟨cf, hrg, hMf⟩ := hR (n - 1) f ht
  obtain ⟨qa, qb, qc, rfl, -, -⟩ := hMf
  have l0 := hrg 0 _ rfl
  simp only [Nat.add_zero] at l0
  have hkw : IntKind.i64.wrap ((n : Int) - 1) = ((n - 1 : Nat) : Int) := by rw [IntKind.wrap_i64]; omega
  have hk1 : ((n - 1 : Nat) : Int) < n := by omega
  have hk2 : n - 1 < n := by omega
  by_cases c4 : f.p = 0
  rotate_left
  · rw [no (fun h => c4 (by have := (hbf.1 h).2.2.2.2; rw [hlast] at this; exact Option.some.inj this))]
    have c4' : (f.p != 0) = true := by simpa using c4
    clear hS hSU hbf no hlen hR hrg ht hlast c4
    generalize n - 1 = kk at *
    go_enter Tryd.func25, Tryd.ntmps25
    go_wp2_with fail
    go_ret
    exact ⟨rfl, b0⟩
  have hbeg : begB p = true := hbf.2 ⟨c0, c1, c2, c3, by rw [hlast, c4]⟩
  have e : pgN p = fnN p.fs [] 4096 := by unfold pgN; rw [hbeg, if_pos rfl]
  rw [e]
  obtain ⟨r, hr⟩ : ∃ r, r = fnN p.fs [] 4096 := ⟨_, rfl⟩
  rw [← hr]
  replace hr := hid hr
  have c4' : (f.p != 0) = false := by simpa using c4
  clear hS hbf no hlast hrg ht c4 hbeg e
  generalize hkk : n - 1 = kk at *
  clear hkk
  go_enter Tryd.func25, Tryd.ntmps25
  go_upto_region 5 with fail
  generalize hU : w.alloc (.cells #[.slice (some ⟨g, off, none⟩) n cap, .int .i64 p.da] 24) = U at *
  go_loopw [3, 4] (fun a i wr => ∃ (j : Nat), i = .int .i64 (j : Int) ∧ j ≤ n ∧ ((∃ q : Nat, q ≤ 4096 ∧ a = .int .i64 (q : Int) ∧ Hid (r = fnN (p.fs.drop j) ((p.fs.take j).map FuT.p) q)) ∨ (a = .int .i64 (-1) ∧ Hid (r = none))) ∧ Below U.heap.size U wr)
    (fun _ i _ => n - (intOf i).toNat)
  case atStart => exact ⟨0, rfl, by omega, .inl ⟨4096, by omega, rfl, hr⟩, Below.refl _ _⟩
  case round =>
    obtain ⟨j, rfl, hj, hqq, hb⟩ := hrel
    have B2 := b0.trans (hb.mono b0.size)
    have a0 := (A.bl hb).cell 0
    have a1 := (A.bl hb).cell 1
    rcases hqq with ⟨q, hq, rfl, hf⟩ | ⟨rfl, hf⟩
    · have hq0 : (0 : Int) ≤ q := by omega
      by_cases hlt : j < n
      · obtain ⟨f, ht⟩ : ∃ t, p.fs[j]? = some t := ⟨p.fs[j]'(by rw [← hlen.out]; exact hlt), List.getElem?_eq_getElem _⟩
        have hfd := fnN_drop ht q
        obtain ⟨cs, hrg, hM⟩ := hR j f ht
        obtain ⟨sq, m, cq, rfl, ⟨hfp, hfv⟩, hSb⟩ := hM
        have hrg2 := rb hrg hb (by omega)
        have c0 := hrg2 0 _ rfl
        have c1 := hrg2 1 _ rfl
        have c2 := hrg2 2 _ rfl
        simp only [Nat.add_zero] at c0
        have hlt' : (j : Int) < n := by omega
        have h0 : (0 : Int) ≤ j := by omega
        by_cases hcond : 0 ≤ f.v ∧ f.v ≤ 64 ∧ 0 ≤ f.p ∧ f.p ≤ f.v
        · rw [if_pos hcond] at hfd
          obtain ⟨d1, d2, d3, d4⟩ := hcond
          have n1 : ¬ f.v < 0 := by omega
          have n2 : ¬ 64 < f.v := by omega
          have n3 : ¬ f.p < 0 := by omega
          have n4 : ¬ f.v < f.p := by omega
          have b3 := ab wr (.cells (fuC f.p f.v (.slice sq m cq)).toArray 40)
          have hb3 := hb.trans (b3.mono hb.size)
          have hst := dstmts (dstmt_any (N := N) (sp := some ⟨g, off, none⟩) (n := n) (cap := cap) (fs := p.fs) (da := p.da) ht rfl 8 (by omega)) (wr.alloc (.cells (fuC f.p f.v (.slice sq m cq)).toArray 40)) (hSb.imp (hb3.mono hNU) (StM.below (hb3.mono hNU) 8)) (by have := hb3.size; omega) (hSU.imp (hb3.mono hNU) (FuM.below (hb3.mono hNU))) (some q) (fun k h => by cases h; exact hq) _ _ rfl rfl
          replace hst : Calls Tryd.prog 36 #[.agg #[.slice (some ⟨g, off, none⟩) n cap, .int .i64 p.da], .int .i64 (j : Int), .slice sq m cq, .int .i64 (q : Int), .int .i64 8] (wr.alloc (.cells (fuC f.p f.v (.slice sq m cq)).toArray 40)) (DoP (fld (stN ((p.fs.take j).map FuT.p) f.v 8) f.b q) (wr.alloc (.cells (fuC f.p f.v (.slice sq m cq)).toArray 40))) := hst
          unfold DoP at hst
          have e0 := (A.bl hb3).cell 0
          have e1 := (A.bl hb3).cell 1
          clear hSU hR hrg hrg2 hSb ht hr
          cases hx : fld (stN ((p.fs.take j).map FuT.p) f.v 8) f.b q with
          | none =>
            rw [hx] at hst hfd
            have hrn : Hid (r = none) := hid (hf.out.trans hfd)
            clear hx hfd hf
            unfold fuC at *
            go_wp2_with (go_at_call 36; go_must (refine hst.mono ?_; rintro e w5 ⟨rfl, hb5⟩))
            go_roundw
            case rel => exact ⟨j + 1, by go_num, by omega, .inr ⟨rfl, hrn⟩, hb3.trans (hb5.mono hb3.size)⟩
            case measure => simp [intOf]; omega
          | some q' =>
            have hq' : q' ≤ q := fld_le (stN_le 8) _ _ _ hx
            rw [hx] at hst hfd
            have hrn : Hid (r = fnN (p.fs.drop (j + 1)) ((p.fs.take (j + 1)).map FuT.p) q') := hid (hf.out.trans hfd)
            clear hx hfd hf
            unfold fuC at *
            go_wp2_with (go_at_call 36; go_must (refine hst.mono ?_; rintro e w5 ⟨rfl, hb5⟩))
            go_roundw
            case rel => exact ⟨j + 1, by go_num, by omega, .inl ⟨q', by omega, rfl, hrn⟩, hb3.trans (hb5.mono hb3.size)⟩
            case measure => simp [intOf]; omega
        · rw [if_neg hcond] at hfd
          have hrn : Hid (r = none) := hid (hf.out.trans hfd)
          have hc2 : Hid (¬ (0 ≤ f.v ∧ f.v ≤ 64 ∧ 0 ≤ f.p ∧ f.p ≤ f.v)) := hid hcond
          clear hSU hR hrg hrg2 hSb ht hr hfd hf hcond hlen
          unfold fuC at *
          go_upto_region 8 with fail
          by_cases d1 : f.v < 0
          · go_wp2_with fail
            go_ret
            rw [hrn.out]
            exact ⟨rfl, B2.alloc B2.size _⟩
          by_cases d2 : 64 < f.v
          · go_wp2_with fail
            go_ret
            rw [hrn.out]
            exact ⟨rfl, B2.alloc B2.size _⟩
          by_cases d3 : f.p < 0
          · go_wp2_with fail
            go_ret
            rw [hrn.out]
            exact ⟨rfl, B2.alloc B2.size _⟩
          have d4 : f.v < f.p := by have := hc2.out; omega
          go_wp2_with fail
          go_ret
          rw [hrn.out]
          exact ⟨rfl, B2.alloc B2.size _⟩
      · obtain rfl : j = n := by omega
        have hrn : Hid (r = some q) := hid (by rw [hf.out, hlen.out, List.drop_length]; rfl)
        have hlt' : ¬ (j : Int) < j := by omega
        have hnn : ¬ (q : Int) < 0 := by omega
        have hsub : IntKind.i64.wrap (4096 - (q : Int)) = ((4096 - q : Nat) : Int) := by rw [IntKind.wrap_i64]; omega
        clear hSU hf hlen hR hr
        go_wp2_with fail
        go_ret
        rw [hrn.out]
        exact ⟨rfl, B2⟩
    · clear hSU hlen hR hr
      by_cases hlt : j < n
      · have hlt' : (j : Int) < n := by omega
        go_wp2_with fail
        go_ret
        rw [hf.out]
        exact ⟨rfl, B2⟩
      · have hlt' : ¬ (j : Int) < n := by omega
        go_wp2_with fail
        go_ret
        rw [hf.out]
        exact ⟨rfl, B2⟩
theorem refMay_any {N : Nat} {cs : List Value} (p : PgT) (w : World) (hM : PgM N w cs p) (hN : N ≤ w.heap.size) :
    Calls Tryd.prog 11 #[.agg cs.toArray] w (BoP (pgN p).isSome w) := by
  obtain ⟨sp, n, cap, rfl, hda, hS⟩ := id hM
  have b0 := ab w (.cells #[.slice sp n cap, .int .i64 p.da] 24)
  have hn := used_any p (w.alloc (.cells #[.slice sp n cap, .int .i64 p.da] 24)) (PgM.below (b0.mono hN) _ p hM) (by simp; omega)
  unfold DoP at hn
  clear hM hS
  cases h : pgN p with
  | none =>
    rw [h] at hn
    go_enter Tryd.func11, Tryd.ntmps11
    go_wp2_with (go_at_call 25; go_must (refine hn.mono ?_; rintro e w1 ⟨rfl, hb1⟩))
    go_ret
    exact ⟨rfl, b0.trans (hb1.mono b0.size)⟩
  | some k =>
    rw [h] at hn
    have hk : (0 : Int) ≤ ((4096 - k : Nat) : Int) := by omega
    replace hn : Calls Tryd.prog 25 #[.agg #[.slice sp n cap, .int .i64 p.da]] (w.alloc (.cells #[.slice sp n cap, .int .i64 p.da] 24)) fun e w' => e = .returned (.int .i64 ((4096 - k : Nat) : Int)) ∧ Below (w.alloc (.cells #[.slice sp n cap, .int .i64 p.da] 24)).heap.size (w.alloc (.cells #[.slice sp n cap, .int .i64 p.da] 24)) w' := hn
    generalize ((4096 - k : Nat) : Int) = z at *
    go_enter Tryd.func11, Tryd.ntmps11
    go_wp2_with (go_at_call 25; go_must (refine hn.mono ?_; rintro e w1 ⟨rfl, hb1⟩))
    go_ret
    exact ⟨rfl, b0.trans (hb1.mono b0.size)⟩
end Go.Proofs.YtoopgppahfnncaaDoor
