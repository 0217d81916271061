/- Iu, Iu2, Iv, Kz2, Kz3, S14. -/
import Derived.Test.YtimmiidkjpbffaaX01
import Derived.Test.YtimmiidkjpbffaaX02
import Derived.Test.YtimmiidkjpbffaaX16
import Derived.Test.YtimmiidkjpbffaaX03
import Derived.Test.YtimmiidkjpbffaaX20
import Derived.Test.YtimmiidkjpbffaaX08
import Derived.Test.YtimmiidkjpbffaaX37
import Derived.Test.YtimmiidkjpbffaaX41
import Derived.Test.YtimmiidkjpbffaaX51
import Derived.Test.YtimmiidkjpbffaaX52
import Derived.BigQuiet
import Derived.BigRegion
import Derived.ChangeKeysEq
import Derived.Deep.DeepCutAuto
import Derived.Deep.DrawnRows
import Derived.Deep.MidRow
import Derived.Deep.QuietTactic
import Derived.Deep.RegionHeld3
import Derived.Deep.RegionLaw
import Derived.Deep.RegionWith
import Derived.Deep.WholeRow
import Derived.DeepKeys3
import Derived.Great.BuildSlice
import Derived.Handy
import Derived.Laws.AppendOwnNone
import Derived.Laws.BitsLemmas
import Derived.Laws.BytesArg
import Derived.Laws.CopyOwn
import Derived.Laws.ResultCell
import Derived.Laws.Tables
import Derived.Lib.SlBytesConst
import Derived.LoopIn
import Derived.LoopNIn
import Derived.LoopTactic
import Derived.Maps.AppendAt
import Derived.OwnWalkIn
import Derived.RangeFuncBound
import Derived.RangeFuncCalls
import Derived.RangeFuncLeaves
import Derived.RangeFuncNested
import Derived.RangeFuncRecord
import Derived.Shelf.Abstract
import Derived.Shelf.RegionOpen
import Derived.SizedLaws
import Derived.TacticsInMore
import Derived.WalkKit
import Derived.WalkLawsBesides
import Derived.WalkSpells
import Derived.Test.YtimmiidkjpbffaaX09
import Derived.Test.YtimmiidkjpbffaaX25
import Derived.Test.YtimmiidkjpbffaaX22
/- Layer compile: what the layers below give. -/
namespace Go.Proofs.Ytimmiidkjpbffaa
open Go.RowKit
set_option maxRecDepth 100000
set_option linter.unusedVariables false
set_option linter.unusedSimpArgs false

set_option maxHeartbeats 4000000 in
theorem dstmt_s {N d : Nat} {sp : Option Addr} {n cap : Nat} {fs : List FuT} {da vs : Int} {fi : Nat} {fn : FuT} (hd100 : d ≤ 100) (hfi : fs[fi]? = some fn) (hvs : fn.v = vs) (hE : DsAt N sp n cap fs da vs fi d) : DsAt N sp n cap fs da vs fi (d + 1) := by
  intro w cs t kk hk hN hF hM
  obtain ⟨sa, na, ca, sb, nb, cb, sc, nc, cc, rfl, hok, hSa, hSb, hSc⟩ := hM
  have b0 : Below w.heap.size w ((w.alloc (.cells #[.slice sp n cap, .int .i64 da] 47)).alloc (.cells (stC t.nd.k t.nd.v t.nd.f t.nd.t (.slice sa na ca) (.slice sb nb cb) (.slice sc nc cc)).toArray 94)) := (ab w _).alloc (by simp) _
  have A0 := (Arr.new w 47 #[.slice sp n cap, .int .i64 da]).alloc (.cells (stC t.nd.k t.nd.v t.nd.f t.nd.t (.slice sa na ca) (.slice sb nb cb) (.slice sc nc cc)).toArray 94)
  have A1 := Arr.new (w.alloc (.cells #[.slice sp n cap, .int .i64 da] 47)) 94 (stC t.nd.k t.nd.v t.nd.f t.nd.t (.slice sa na ca) (.slice sb nb cb) (.slice sc nc cc)).toArray
  simp only [World.size_alloc] at A1
  by_cases h0 : kk = 0
  · subst h0
    have e : stN ((fs.take fi).map FuT.p) vs (d + 1) t 0 = none := by unfold stN; rw [if_pos (.inl rfl)]
    rw [e]
    have hsub : IntKind.i64.wrap (((0 : Nat) : Int) - 1) = -1 := by rw [IntKind.wrap_i64]; omega
    clear hE hSa hSb hSc hF A0 A1
    unfold stC at *
    go_enter Try.func67, Try.ntmps67
    go_upto_region 2 with fail
    go_quiet (fail)
    go_wp2_with fail
    go_ret
    exact ⟨rfl, dwN b0 _⟩
  obtain ⟨r, hr⟩ : ∃ r, r = stN ((fs.take fi).map FuT.p) vs (d + 1) t kk := ⟨_, rfl⟩
  rw [← hr]
  rw [stN_f h0] at hr
  have hsub : IntKind.i64.wrap ((kk : Int) - 1) = ((kk - 1 : Nat) : Int) := by rw [IntKind.wrap_i64]; omega
  have hneg : ¬ (((kk - 1 : Nat) : Int) < 0) := by omega
  have hd0 : (((d + 1 : Nat) : Int) == 0) = false := by simp; omega
  have hdw : IntKind.i64.wrap (((d + 1 : Nat) : Int) - 1) = (d : Int) := by rw [IntKind.wrap_i64]; omega
  have hk1 : kk - 1 ≤ 4096 := by omega
  have hna := hSa.len.out
  have harg := fun (u : World) (hu : Below ((w.alloc (.cells #[.slice sp n cap, .int .i64 da] 47)).alloc (.cells (stC t.nd.k t.nd.v t.nd.f t.nd.t (.slice sa na ca) (.slice sb nb cb) (.slice sc nc cc)).toArray 94)).heap.size ((w.alloc (.cells #[.slice sp n cap, .int .i64 da] 47)).alloc (.cells (stC t.nd.k t.nd.v t.nd.f t.nd.t (.slice sa na ca) (.slice sb nb cb) (.slice sc nc cc)).toArray 94)) u) => args_any (da := da) (vs := vs) u (hF.imp ((b0.trans (hu.mono b0.size)).mono hN) (FuM.below ((b0.trans (hu.mono b0.size)).mono hN))) (by have := (b0.trans (hu.mono b0.size)).size; omega) hfi hvs t.nd sa na ca sb nb cb sc nc cc hSb.len.out hSc.len.out
  have hth := fun (u : World) (hu : Below ((w.alloc (.cells #[.slice sp n cap, .int .i64 da] 47)).alloc (.cells (stC t.nd.k t.nd.v t.nd.f t.nd.t (.slice sa na ca) (.slice sb nb cb) (.slice sc nc cc)).toArray 94)).heap.size ((w.alloc (.cells #[.slice sp n cap, .int .i64 da] 47)).alloc (.cells (stC t.nd.k t.nd.v t.nd.f t.nd.t (.slice sa na ca) (.slice sb nb cb) (.slice sc nc cc)).toArray 94)) u) (q : Option Nat) (hq : ∀ k, q = some k → k ≤ 4096) (x y : Int) (hx : x = doR q) (hy : y = d) => dstmts hE u (hSb.imp ((b0.trans (hu.mono b0.size)).mono hN) (StM.below ((b0.trans (hu.mono b0.size)).mono hN) d)) (by have := (b0.trans (hu.mono b0.size)).size; omega) (hF.imp ((b0.trans (hu.mono b0.size)).mono hN) (FuM.below ((b0.trans (hu.mono b0.size)).mono hN))) q hq x y hx hy
  have hel := fun (u : World) (hu : Below ((w.alloc (.cells #[.slice sp n cap, .int .i64 da] 47)).alloc (.cells (stC t.nd.k t.nd.v t.nd.f t.nd.t (.slice sa na ca) (.slice sb nb cb) (.slice sc nc cc)).toArray 94)).heap.size ((w.alloc (.cells #[.slice sp n cap, .int .i64 da] 47)).alloc (.cells (stC t.nd.k t.nd.v t.nd.f t.nd.t (.slice sa na ca) (.slice sb nb cb) (.slice sc nc cc)).toArray 94)) u) (q : Option Nat) (hq : ∀ k, q = some k → k ≤ 4096) (x y : Int) (hx : x = doR q) (hy : y = d) => dstmts hE u (hSc.imp ((b0.trans (hu.mono b0.size)).mono hN) (StM.below ((b0.trans (hu.mono b0.size)).mono hN) d)) (by have := (b0.trans (hu.mono b0.size)).size; omega) (hF.imp ((b0.trans (hu.mono b0.size)).mono hN) (FuM.below ((b0.trans (hu.mono b0.size)).mono hN))) q hq x y hx hy
  have hSaU := hSa.imp (b0.mono hN) (ExM.below (b0.mono hN) 8)
  have hFU := hF.imp (b0.mono hN) (FuM.below (b0.mono hN))
  have hNU : N ≤ ((w.alloc (.cells #[.slice sp n cap, .int .i64 da] 47)).alloc (.cells (stC t.nd.k t.nd.v t.nd.f t.nd.t (.slice sa na ca) (.slice sb nb cb) (.slice sc nc cc)).toArray 94)).heap.size := by simp; omega
  have hFl := hF.len.out
  have hfl := (List.getElem?_eq_some_iff.1 hfi).1
  have hin : fi < n := by omega
  have hin' : (fi : Int) < n := by omega
  have hsa := hSa.small
  clear hE hSb hSc hF hSa hFl hfl
  replace hr := hid hr
  replace hna := hid hna
  generalize hdd : ((d + 1 : Nat) : Int) = dd at *
  generalize kk - 1 = k1 at *
  unfold DoP at hth hel
  unfold stC at *
  go_enter Try.func67, Try.ntmps67
  go_upto_region 2 with fail
  generalize hU : (w.alloc (.cells #[.slice sp n cap, .int .i64 da] 47)).alloc (.cells #[.int .u8 t.nd.k, .int .i64 t.nd.v, .int .i64 t.nd.f, .int .i64 t.nd.t, .slice sa na ca, .slice sb nb cb, .slice sc nc cc] 94) = U at *
  have hUs : w.heap.size + 1 < U.heap.size := A1.lt
  by_cases hag : agN ((fs.take fi).map FuT.p) vs t.nd = (na : Int)
  · have hr2 : Hid (r = ((fld (exN vs 8) t.nd.a k1).bind (fld (stN ((fs.take fi).map FuT.p) vs d) t.nd.th)).bind (fld (stN ((fs.take fi).map FuT.p) vs d) t.nd.el)) := hid (by rw [hr.out, if_pos (by rw [hag, hna.out])])
    rw [hag] at harg
    clear hag hr
    refine wp_region_held_drew (S := fun u => Below U.heap.size U u) (by kernel_rfl) ((Below.refl _ U).drew) (fun hHeld => ?_)
    refine wpAnyH_take (i := 0) (oi := ⟨_, _, _, _, _, _⟩) (v := ?_) rfl (by kernel_rfl) (by kernel_rfl) (by kernel_rfl) (fun _ _ _ h => h) (Or.inl ⟨by rfl, ?_⟩) (by assumption) ?_
    rotate_left
    · intro u hSw
      go_simp
      try (with_reducible rfl)
    try simp only [Act.put, List.setIfInBounds_toArray, List.set_cons_zero, List.set_cons_succ]
    refine wpAnyH_take (i := 1) (oi := ⟨_, _, _, _, _, _⟩) (v := ?_) rfl (by kernel_rfl) (by kernel_rfl) (by kernel_rfl) (fun _ _ _ h => h) (Or.inl ⟨by rfl, ?_⟩) (by assumption) ?_
    rotate_left
    · intro u hSw
      go_simp
      try (with_reducible rfl)
    try simp only [Act.put, List.setIfInBounds_toArray, List.set_cons_zero, List.set_cons_succ]
    refine wpAnyH_take (i := 2) (oi := ⟨_, _, _, _, _, _⟩) (v := ?_) rfl (by kernel_rfl) (by kernel_rfl) (by kernel_rfl) (fun _ _ _ h => h) (Or.inl ⟨by rfl, ?_⟩) (by assumption) ?_
    rotate_left
    · intro u hSw
      go_simp
      try (with_reducible rfl)
    try simp only [Act.put, List.setIfInBounds_toArray, List.set_cons_zero, List.set_cons_succ]
    refine wpAnyH_take (i := 3) (oi := ⟨_, _, _, _, _, _⟩) (v := ?_) rfl (by kernel_rfl) (by kernel_rfl) (by kernel_rfl) (fun _ _ _ h => h) (Or.inl ⟨by rfl, ?_⟩) (by assumption) ?_
    rotate_left
    · intro u hSw
      go_simp
      try (with_reducible rfl)
    try simp only [Act.put, List.setIfInBounds_toArray, List.set_cons_zero, List.set_cons_succ]
    refine wpAnyH_take (i := 4) (oi := ⟨_, _, _, _, _, _⟩) (v := ?_) rfl (by kernel_rfl) (by kernel_rfl) (by kernel_rfl) (fun _ _ _ h => h) (Or.inl ⟨by rfl, ?_⟩) (by assumption) ?_
    rotate_left
    · intro u hSw
      go_simp
      try (with_reducible rfl)
    try simp only [Act.put, List.setIfInBounds_toArray, List.set_cons_zero, List.set_cons_succ]
    refine wpAnyH_take (i := 5) (oi := ⟨_, _, _, _, _, _⟩) (v := ?_) rfl (by kernel_rfl) (by kernel_rfl) (by kernel_rfl) (fun _ _ _ h => h) (Or.inl ⟨by rfl, ?_⟩) (by assumption) ?_
    rotate_left
    · intro u hSw
      go_simp
      try (with_reducible rfl)
    try simp only [Act.put, List.setIfInBounds_toArray, List.set_cons_zero, List.set_cons_succ]
    refine wpAnyH_take (i := 6) (oi := ⟨_, _, _, _, _, _⟩) (v := ?_) rfl (by kernel_rfl) (by kernel_rfl) (by kernel_rfl) (fun _ _ _ h => h) (Or.inl ⟨by rfl, ?_⟩) (by assumption) ?_
    rotate_left
    · intro u hSw
      go_simp
      try (with_reducible rfl)
    try simp only [Act.put, List.setIfInBounds_toArray, List.set_cons_zero, List.set_cons_succ]
    refine wpAnyH_take (i := 7) (oi := ⟨_, _, _, _, _, _⟩) (v := ?_) rfl (by kernel_rfl) (by kernel_rfl) (by kernel_rfl) (fun _ _ _ h => h) (Or.inl ⟨by rfl, ?_⟩) (by assumption) ?_
    rotate_left
    · intro u hSw
      have s0 := (hSw.cell (p := ⟨w.heap.size, 0, none⟩) (by show w.heap.size < _; omega)).trans (A0.cell 0)
      have s1 := (hSw.cell (p := ⟨w.heap.size, 1, none⟩) (by show w.heap.size < _; omega)).trans (A0.cell 1)
      go_simp
      try (with_reducible rfl)
    try simp only [Act.put, List.setIfInBounds_toArray, List.set_cons_zero, List.set_cons_succ]
    refine wpAnyH_take (i := 8) (oi := ⟨_, _, _, _, _, _⟩) (v := ?_) rfl (by kernel_rfl) (by kernel_rfl) (by kernel_rfl) (fun _ _ _ h => h) (Or.inl ⟨by rfl, ?_⟩) (by assumption) ?_
    rotate_left
    · intro u hSw
      go_simp
      try (with_reducible rfl)
    try simp only [Act.put, List.setIfInBounds_toArray, List.set_cons_zero, List.set_cons_succ]
    refine wpAnyH_take (i := 9) (oi := ⟨_, _, _, _, _, _⟩) (v := ?_) rfl (by kernel_rfl) (by kernel_rfl) (by kernel_rfl) (fun _ _ _ h => h) (Or.inl ⟨by rfl, ?_⟩) (by assumption) ?_
    rotate_left
    · intro u hSw
      have s0 := (hSw.cell (p := ⟨(w.heap.size + 1), 0, none⟩) (by show (w.heap.size + 1) < _; omega)).trans (A1.cell 0)
      have s1 := (hSw.cell (p := ⟨(w.heap.size + 1), 1, none⟩) (by show (w.heap.size + 1) < _; omega)).trans (A1.cell 1)
      have s2 := (hSw.cell (p := ⟨(w.heap.size + 1), 2, none⟩) (by show (w.heap.size + 1) < _; omega)).trans (A1.cell 2)
      have s3 := (hSw.cell (p := ⟨(w.heap.size + 1), 3, none⟩) (by show (w.heap.size + 1) < _; omega)).trans (A1.cell 3)
      have s4 := (hSw.cell (p := ⟨(w.heap.size + 1), 4, none⟩) (by show (w.heap.size + 1) < _; omega)).trans (A1.cell 4)
      have s5 := (hSw.cell (p := ⟨(w.heap.size + 1), 5, none⟩) (by show (w.heap.size + 1) < _; omega)).trans (A1.cell 5)
      have s6 := (hSw.cell (p := ⟨(w.heap.size + 1), 6, none⟩) (by show (w.heap.size + 1) < _; omega)).trans (A1.cell 6)
      go_simp
      try (with_reducible rfl)
    try simp only [Act.put, List.setIfInBounds_toArray, List.set_cons_zero, List.set_cons_succ]
    refine wpAnyH_take (i := 11) (oi := ⟨_, _, _, _, _, _⟩) (v := ?_) rfl (by kernel_rfl) (by kernel_rfl) (by kernel_rfl) (fun _ _ _ h => h) (Or.inl ⟨by rfl, ?_⟩) (by assumption) ?_
    rotate_left
    · intro u hSw
      go_simp
      try (with_reducible rfl)
    try simp only [Act.put, List.setIfInBounds_toArray, List.set_cons_zero, List.set_cons_succ]
    refine wpAnyH_take (i := 12) (oi := ⟨_, _, _, _, _, _⟩) (v := ?_) rfl (by kernel_rfl) (by kernel_rfl) (by kernel_rfl) (fun _ _ _ h => h) (Or.inl ⟨by rfl, ?_⟩) (by assumption) ?_
    rotate_left
    · intro u hSw
      have s4 := (hSw.cell (p := ⟨(w.heap.size + 1), 4, none⟩) (by show (w.heap.size + 1) < _; omega)).trans (A1.cell 4)
      go_simp
      try (with_reducible rfl)
    try simp only [Act.put, List.setIfInBounds_toArray, List.set_cons_zero, List.set_cons_succ]
    refine wpAnyH_take (i := 13) (oi := ⟨_, _, _, _, _, _⟩) (v := ?_) rfl (by kernel_rfl) (by kernel_rfl) (by kernel_rfl) (fun _ _ _ h => h) (Or.inl ⟨by rfl, ?_⟩) (by assumption) ?_
    rotate_left
    · intro u hSw
      go_simp
      try (with_reducible rfl)
    try simp only [Act.put, List.setIfInBounds_toArray, List.set_cons_zero, List.set_cons_succ]
    refine wpAnyH_ready (rs := [10]) (by kernel_rfl) (by simp) ?_
    refine AllReadyH.cons (o := ⟨_, _, _, _, _, _⟩) rfl (fun K hK => ?_) AllReadyH.nil
    go_simp
    refine (harg U.drew (dw1 (Below.refl _ _))).mono ?_
    rintro e w1 ⟨rfl, hb1⟩
    have hB1 : Below U.heap.size U w1 := (dw1 (Below.refl _ U)).trans hb1
    go_wp2_with fail
    refine hK.out _ _ hB1 (fun hHeld => ?_)
    clear hK K
    try simp only [Act.put, List.setIfInBounds_toArray, List.set_cons_zero, List.set_cons_succ]
    refine wpAnyH_take (i := 14) (oi := ⟨_, _, _, _, _, _⟩) (v := ?_) rfl (by kernel_rfl) (by kernel_rfl) (by kernel_rfl) (fun _ _ _ h => h) (Or.inl ⟨by rfl, ?_⟩) (by assumption) ?_
    rotate_left
    · intro u hSw
      go_simp
      try (with_reducible rfl)
    try simp only [Act.put, List.setIfInBounds_toArray, List.set_cons_zero, List.set_cons_succ]
    refine wpAnyH_take (i := 15) (oi := ⟨_, _, _, _, _, _⟩) (v := ?_) rfl (by kernel_rfl) (by kernel_rfl) (by kernel_rfl) (fun _ _ _ h => h) (Or.inl ⟨by rfl, ?_⟩) (by assumption) ?_
    rotate_left
    · intro u hSw
      go_simp
      try (with_reducible rfl)
    try simp only [Act.put, List.setIfInBounds_toArray, List.set_cons_zero, List.set_cons_succ]
    refine wpAnyH_done (by kernel_rfl) ?_ _
    have B1 := b0.trans (hB1.mono b0.size)
    go_upto_region 5 with fail
    go_loopw [3, 11] (fun a i wr => ∃ (j : Nat), i = .int .i64 (j : Int) ∧ j ≤ na ∧ ((∃ q : Nat, q ≤ 4096 ∧ a = .int .i64 (q : Int) ∧ Hid (fld (exN vs 8) t.nd.a k1 = fld (exN vs 8) (t.nd.a.drop j) q)) ∨ (a = .int .i64 (-1) ∧ Hid (fld (exN vs 8) t.nd.a k1 = none))) ∧ Below U.heap.size U wr)
      (fun _ i _ => na - (intOf i).toNat)
    case atStart => exact ⟨0, rfl, by omega, .inl ⟨k1, hk1, rfl, hid (by rw [List.drop_zero])⟩, hB1⟩
    case round =>
      obtain ⟨j, rfl, hj, hqq, hb⟩ := hrel
      have B2 := b0.trans (hb.mono b0.size)
      have e4 := (A1.bl hb).cell 4
      have e5 := (A1.bl hb).cell 5
      have f0 := (A0.bl hb).cell 0
      have f1 := (A0.bl hb).cell 1
      have FIN : ∀ (q : Option Nat), (∀ k, q = some k → k ≤ 4096) → Hid (fld (exN vs 8) t.nd.a k1 = q) → Hid (r = (q.bind (fld (stN ((fs.take fi).map FuT.p) vs d) t.nd.th)).bind (fld (stN ((fs.take fi).map FuT.p) vs d) t.nd.el)) := fun q _ h => hid (by rw [hr2.out, h.out])
      rcases hqq with ⟨q, hq, rfl, hf⟩ | ⟨rfl, hf⟩
      · have hq0 : (0 : Int) ≤ q := by omega
        by_cases hlt : j < na
        · obtain ⟨x, ht⟩ : ∃ t', t.nd.a[j]? = some t' := ⟨t.nd.a[j]'(by rw [← hna.out]; exact hlt), List.getElem?_eq_getElem _⟩
          obtain ⟨g, off, rfl, hg, hR⟩ := hSaU.at0 (by omega)
          obtain ⟨cs, hrg, hM⟩ := hR j x ht
          have hrg2 := rb hrg hb (by omega)
          have hM2 := ExM.below (hb.mono hNU) 8 cs x hM
          obtain ⟨ek, en, ev, eo, es, em, ec, rfl⟩ := hM.cells
          have c0 := hrg2 0 _ rfl
          have c1 := hrg2 1 _ rfl
          have c2 := hrg2 2 _ rfl
          have c3 := hrg2 3 _ rfl
          have c4 := hrg2 4 _ rfl
          simp only [Nat.add_zero] at c0
          obtain ⟨gf, of, rfl, hgf, hRf⟩ := hFU.at0 (by omega)
          obtain ⟨cf, hrf, hMf⟩ := hRf fi fn hfi
          obtain ⟨qa, qb, qc, rfl, -, -⟩ := hMf
          have v1 : wr.cell? ⟨gf, of + fi * 3 + 1, none⟩ = some (.int .i64 vs) := by rw [← hvs]; exact rb hrf hb (by omega) 1 _ rfl
          have hlt' : (j : Int) < na := by omega
          have h0' : (0 : Int) ≤ j := by omega
          have hfd := fld_drop (f := exN vs 8) ht q
          have bd : Below wr.heap.size wr wr.drew := dw1 (Below.refl _ _)
          have hcc := dexpr_any (vs := vs) 8 (by omega) wr.drew _ x q hq (by have := hb.size; show N ≤ wr.heap.size; omega) (ExM.below (bd.mono (by have := hb.size; omega)) 8 _ x hM2)
          unfold DoP at hcc
          clear hSaU hR hrg hrg2 hM hM2 hna ht A0 A1 hFU hrf hRf hth hel harg hr2 FIN
          cases hx : exN vs 8 x q with
          | none =>
            rw [hx] at hcc hfd
            have hrn : Hid (fld (exN vs 8) t.nd.a k1 = none) := hid (hf.out.trans hfd)
            clear hx hfd hf
            unfold exC at *
            go_upto_region 7 with fail
            go_region_with (go_at_call 91; go_must (refine hcc.mono ?_; rintro e w3 ⟨rfl, hb3⟩))
            all_goals
              go_wp2_with fail
              go_roundw
              case rel => exact ⟨j + 1, by go_num, by omega, .inr ⟨rfl, hrn⟩, hb.trans ((bd.trans hb3).mono hb.size)⟩
              case measure => simp [intOf]; omega
          | some q' =>
            have hq' := exN_le 8 x q q' hx
            rw [hx] at hcc hfd
            have hrn : Hid (fld (exN vs 8) t.nd.a k1 = fld (exN vs 8) (t.nd.a.drop (j + 1)) q') := hid (hf.out.trans hfd)
            clear hx hfd hf
            unfold exC at *
            go_upto_region 7 with fail
            go_region_with (go_at_call 91; go_must (refine hcc.mono ?_; rintro e w3 ⟨rfl, hb3⟩))
            all_goals
              go_wp2_with fail
              go_roundw
              case rel => exact ⟨j + 1, by go_num, by omega, .inl ⟨q', by omega, rfl, hrn⟩, hb.trans ((bd.trans hb3).mono hb.size)⟩
              case measure => simp [intOf]; omega
        · obtain rfl : j = na := by omega
          have hlt' : ¬ (j : Int) < j := by omega
          have hfin := FIN (some q) (fun k h => by cases h; exact hq) (hid (by rw [hf.out, hna.out, List.drop_length]; rfl))
          have ht1 := hth wr hb (some q) (fun k h => by cases h; exact hq) _ _ rfl rfl
          have hq1 : ∀ k, (some q).bind (fld (stN ((fs.take fi).map FuT.p) vs d) t.nd.th) = some k → k ≤ 4096 := fun k h => by have := fld_le (stN_le d) _ _ _ h; omega
          have he1 := fun (u : World) (hu : Below U.heap.size U u) => hel u hu _ hq1 _ _ rfl rfl
          replace ht1 : Calls Try.prog 45 #[.agg #[.slice sp n cap, .int .i64 da], .int .i64 (fi : Int), .slice sb nb cb, .int .i64 (q : Int), .int .i64 (d : Int)] wr _ := ht1
          generalize (some q).bind (fld (stN ((fs.take fi).map FuT.p) vs d) t.nd.th) = q2 at *
          generalize q2.bind (fld (stN ((fs.take fi).map FuT.p) vs d) t.nd.el) = q3 at *
          clear hSaU hna hFU hth hel harg hr2 FIN hf hq1
          go_upto_region 9 with (go_at_call 45; go_must (refine ht1.mono ?_; rintro e w4 ⟨rfl, hb4⟩; have hb5 := hb.trans (hb4.mono hb.size); have p0 := (A0.bl hb5).cell 0; have p1 := (A0.bl hb5).cell 1; have p6 := (A1.bl hb5).cell 6; clear ht1; replace he1 := he1 w4 hb5))
          go_wp2_with (go_at_call 45; go_must (refine he1.mono ?_; rintro e w6 ⟨rfl, hb6⟩))
          go_ret
          rw [hfin.out]
          have B5 := b0.trans (hb5.mono b0.size)
          exact ⟨rfl, B5.trans (hb6.mono B5.size)⟩
      · have hfin := FIN none (fun k h => by cases h) hf
        have ht1 := hth wr hb none (fun k h => by cases h) _ _ rfl rfl
        have he1 := fun (u : World) (hu : Below U.heap.size U u) => hel u hu ((none : Option Nat).bind (fld (stN ((fs.take fi).map FuT.p) vs d) t.nd.th)) (fun k h => by cases h) _ _ rfl rfl
        replace ht1 : Calls Try.prog 45 #[.agg #[.slice sp n cap, .int .i64 da], .int .i64 (fi : Int), .slice sb nb cb, .int .i64 (-1), .int .i64 (d : Int)] wr _ := ht1
        generalize (none : Option Nat).bind (fld (stN ((fs.take fi).map FuT.p) vs d) t.nd.th) = q2 at *
        generalize q2.bind (fld (stN ((fs.take fi).map FuT.p) vs d) t.nd.el) = q3 at *
        clear hSaU hna hFU hth hel harg hr2 FIN hf
        by_cases hlt : j < na
        · have hlt' : (j : Int) < na := by omega
          go_upto_region 9 with (go_at_call 45; go_must (refine ht1.mono ?_; rintro e w4 ⟨rfl, hb4⟩; have hb5 := hb.trans (hb4.mono hb.size); have p0 := (A0.bl hb5).cell 0; have p1 := (A0.bl hb5).cell 1; have p6 := (A1.bl hb5).cell 6; clear ht1; replace he1 := he1 w4 hb5))
          go_wp2_with (go_at_call 45; go_must (refine he1.mono ?_; rintro e w6 ⟨rfl, hb6⟩))
          go_ret
          rw [hfin.out]
          have B5 := b0.trans (hb5.mono b0.size)
          exact ⟨rfl, B5.trans (hb6.mono B5.size)⟩
        · have hlt' : ¬ (j : Int) < na := by omega
          go_upto_region 9 with (go_at_call 45; go_must (refine ht1.mono ?_; rintro e w4 ⟨rfl, hb4⟩; have hb5 := hb.trans (hb4.mono hb.size); have p0 := (A0.bl hb5).cell 0; have p1 := (A0.bl hb5).cell 1; have p6 := (A1.bl hb5).cell 6; clear ht1; replace he1 := he1 w4 hb5))
          go_wp2_with (go_at_call 45; go_must (refine he1.mono ?_; rintro e w6 ⟨rfl, hb6⟩))
          go_ret
          rw [hfin.out]
          have B5 := b0.trans (hb5.mono b0.size)
          exact ⟨rfl, B5.trans (hb6.mono B5.size)⟩
  · have hz : Hid (r = none) := hid (by rw [hr.out, if_neg (by rw [← hna.out]; exact hag)])
    have hagb : (agN ((fs.take fi).map FuT.p) vs t.nd != (na : Int)) = true := by simpa using hag
    generalize agN ((fs.take fi).map FuT.p) vs t.nd = ag at *
    clear hag hr hth hel hSaU hFU
    refine wp_region_held_drew (S := fun u => Below U.heap.size U u) (by kernel_rfl) ((Below.refl _ U).drew) (fun hHeld => ?_)
    refine wpAnyH_take (i := 0) (oi := ⟨_, _, _, _, _, _⟩) (v := ?_) rfl (by kernel_rfl) (by kernel_rfl) (by kernel_rfl) (fun _ _ _ h => h) (Or.inl ⟨by rfl, ?_⟩) (by assumption) ?_
    rotate_left
    · intro u hSw
      go_simp
      try (with_reducible rfl)
    try simp only [Act.put, List.setIfInBounds_toArray, List.set_cons_zero, List.set_cons_succ]
    refine wpAnyH_take (i := 1) (oi := ⟨_, _, _, _, _, _⟩) (v := ?_) rfl (by kernel_rfl) (by kernel_rfl) (by kernel_rfl) (fun _ _ _ h => h) (Or.inl ⟨by rfl, ?_⟩) (by assumption) ?_
    rotate_left
    · intro u hSw
      go_simp
      try (with_reducible rfl)
    try simp only [Act.put, List.setIfInBounds_toArray, List.set_cons_zero, List.set_cons_succ]
    refine wpAnyH_take (i := 2) (oi := ⟨_, _, _, _, _, _⟩) (v := ?_) rfl (by kernel_rfl) (by kernel_rfl) (by kernel_rfl) (fun _ _ _ h => h) (Or.inl ⟨by rfl, ?_⟩) (by assumption) ?_
    rotate_left
    · intro u hSw
      go_simp
      try (with_reducible rfl)
    try simp only [Act.put, List.setIfInBounds_toArray, List.set_cons_zero, List.set_cons_succ]
    refine wpAnyH_take (i := 3) (oi := ⟨_, _, _, _, _, _⟩) (v := ?_) rfl (by kernel_rfl) (by kernel_rfl) (by kernel_rfl) (fun _ _ _ h => h) (Or.inl ⟨by rfl, ?_⟩) (by assumption) ?_
    rotate_left
    · intro u hSw
      go_simp
      try (with_reducible rfl)
    try simp only [Act.put, List.setIfInBounds_toArray, List.set_cons_zero, List.set_cons_succ]
    refine wpAnyH_take (i := 4) (oi := ⟨_, _, _, _, _, _⟩) (v := ?_) rfl (by kernel_rfl) (by kernel_rfl) (by kernel_rfl) (fun _ _ _ h => h) (Or.inl ⟨by rfl, ?_⟩) (by assumption) ?_
    rotate_left
    · intro u hSw
      go_simp
      try (with_reducible rfl)
    try simp only [Act.put, List.setIfInBounds_toArray, List.set_cons_zero, List.set_cons_succ]
    refine wpAnyH_take (i := 5) (oi := ⟨_, _, _, _, _, _⟩) (v := ?_) rfl (by kernel_rfl) (by kernel_rfl) (by kernel_rfl) (fun _ _ _ h => h) (Or.inl ⟨by rfl, ?_⟩) (by assumption) ?_
    rotate_left
    · intro u hSw
      go_simp
      try (with_reducible rfl)
    try simp only [Act.put, List.setIfInBounds_toArray, List.set_cons_zero, List.set_cons_succ]
    refine wpAnyH_take (i := 6) (oi := ⟨_, _, _, _, _, _⟩) (v := ?_) rfl (by kernel_rfl) (by kernel_rfl) (by kernel_rfl) (fun _ _ _ h => h) (Or.inl ⟨by rfl, ?_⟩) (by assumption) ?_
    rotate_left
    · intro u hSw
      go_simp
      try (with_reducible rfl)
    try simp only [Act.put, List.setIfInBounds_toArray, List.set_cons_zero, List.set_cons_succ]
    refine wpAnyH_take (i := 7) (oi := ⟨_, _, _, _, _, _⟩) (v := ?_) rfl (by kernel_rfl) (by kernel_rfl) (by kernel_rfl) (fun _ _ _ h => h) (Or.inl ⟨by rfl, ?_⟩) (by assumption) ?_
    rotate_left
    · intro u hSw
      have s0 := (hSw.cell (p := ⟨w.heap.size, 0, none⟩) (by show w.heap.size < _; omega)).trans (A0.cell 0)
      have s1 := (hSw.cell (p := ⟨w.heap.size, 1, none⟩) (by show w.heap.size < _; omega)).trans (A0.cell 1)
      go_simp
      try (with_reducible rfl)
    try simp only [Act.put, List.setIfInBounds_toArray, List.set_cons_zero, List.set_cons_succ]
    refine wpAnyH_take (i := 8) (oi := ⟨_, _, _, _, _, _⟩) (v := ?_) rfl (by kernel_rfl) (by kernel_rfl) (by kernel_rfl) (fun _ _ _ h => h) (Or.inl ⟨by rfl, ?_⟩) (by assumption) ?_
    rotate_left
    · intro u hSw
      go_simp
      try (with_reducible rfl)
    try simp only [Act.put, List.setIfInBounds_toArray, List.set_cons_zero, List.set_cons_succ]
    refine wpAnyH_take (i := 9) (oi := ⟨_, _, _, _, _, _⟩) (v := ?_) rfl (by kernel_rfl) (by kernel_rfl) (by kernel_rfl) (fun _ _ _ h => h) (Or.inl ⟨by rfl, ?_⟩) (by assumption) ?_
    rotate_left
    · intro u hSw
      have s0 := (hSw.cell (p := ⟨(w.heap.size + 1), 0, none⟩) (by show (w.heap.size + 1) < _; omega)).trans (A1.cell 0)
      have s1 := (hSw.cell (p := ⟨(w.heap.size + 1), 1, none⟩) (by show (w.heap.size + 1) < _; omega)).trans (A1.cell 1)
      have s2 := (hSw.cell (p := ⟨(w.heap.size + 1), 2, none⟩) (by show (w.heap.size + 1) < _; omega)).trans (A1.cell 2)
      have s3 := (hSw.cell (p := ⟨(w.heap.size + 1), 3, none⟩) (by show (w.heap.size + 1) < _; omega)).trans (A1.cell 3)
      have s4 := (hSw.cell (p := ⟨(w.heap.size + 1), 4, none⟩) (by show (w.heap.size + 1) < _; omega)).trans (A1.cell 4)
      have s5 := (hSw.cell (p := ⟨(w.heap.size + 1), 5, none⟩) (by show (w.heap.size + 1) < _; omega)).trans (A1.cell 5)
      have s6 := (hSw.cell (p := ⟨(w.heap.size + 1), 6, none⟩) (by show (w.heap.size + 1) < _; omega)).trans (A1.cell 6)
      go_simp
      try (with_reducible rfl)
    try simp only [Act.put, List.setIfInBounds_toArray, List.set_cons_zero, List.set_cons_succ]
    refine wpAnyH_take (i := 11) (oi := ⟨_, _, _, _, _, _⟩) (v := ?_) rfl (by kernel_rfl) (by kernel_rfl) (by kernel_rfl) (fun _ _ _ h => h) (Or.inl ⟨by rfl, ?_⟩) (by assumption) ?_
    rotate_left
    · intro u hSw
      go_simp
      try (with_reducible rfl)
    try simp only [Act.put, List.setIfInBounds_toArray, List.set_cons_zero, List.set_cons_succ]
    refine wpAnyH_take (i := 12) (oi := ⟨_, _, _, _, _, _⟩) (v := ?_) rfl (by kernel_rfl) (by kernel_rfl) (by kernel_rfl) (fun _ _ _ h => h) (Or.inl ⟨by rfl, ?_⟩) (by assumption) ?_
    rotate_left
    · intro u hSw
      have s4 := (hSw.cell (p := ⟨(w.heap.size + 1), 4, none⟩) (by show (w.heap.size + 1) < _; omega)).trans (A1.cell 4)
      go_simp
      try (with_reducible rfl)
    try simp only [Act.put, List.setIfInBounds_toArray, List.set_cons_zero, List.set_cons_succ]
    refine wpAnyH_take (i := 13) (oi := ⟨_, _, _, _, _, _⟩) (v := ?_) rfl (by kernel_rfl) (by kernel_rfl) (by kernel_rfl) (fun _ _ _ h => h) (Or.inl ⟨by rfl, ?_⟩) (by assumption) ?_
    rotate_left
    · intro u hSw
      go_simp
      try (with_reducible rfl)
    try simp only [Act.put, List.setIfInBounds_toArray, List.set_cons_zero, List.set_cons_succ]
    refine wpAnyH_ready (rs := [10]) (by kernel_rfl) (by simp) ?_
    refine AllReadyH.cons (o := ⟨_, _, _, _, _, _⟩) rfl (fun K hK => ?_) AllReadyH.nil
    go_simp
    refine (harg U.drew (dw1 (Below.refl _ _))).mono ?_
    rintro e w1 ⟨rfl, hb1⟩
    have hB1 : Below U.heap.size U w1 := (dw1 (Below.refl _ U)).trans hb1
    go_wp2_with fail
    refine hK.out _ _ hB1 (fun hHeld => ?_)
    clear hK K
    try simp only [Act.put, List.setIfInBounds_toArray, List.set_cons_zero, List.set_cons_succ]
    refine wpAnyH_take (i := 14) (oi := ⟨_, _, _, _, _, _⟩) (v := ?_) rfl (by kernel_rfl) (by kernel_rfl) (by kernel_rfl) (fun _ _ _ h => h) (Or.inl ⟨by rfl, ?_⟩) (by assumption) ?_
    rotate_left
    · intro u hSw
      go_simp
      try (with_reducible rfl)
    try simp only [Act.put, List.setIfInBounds_toArray, List.set_cons_zero, List.set_cons_succ]
    refine wpAnyH_take (i := 15) (oi := ⟨_, _, _, _, _, _⟩) (v := ?_) rfl (by kernel_rfl) (by kernel_rfl) (by kernel_rfl) (fun _ _ _ h => h) (Or.inl ⟨by rfl, ?_⟩) (by assumption) ?_
    rotate_left
    · intro u hSw
      go_simp
      try (with_reducible rfl)
    try simp only [Act.put, List.setIfInBounds_toArray, List.set_cons_zero, List.set_cons_succ]
    refine wpAnyH_done (by kernel_rfl) ?_ _
    go_wp2_with fail
    go_ret
    rw [hz.out]
    exact ⟨rfl, b0.trans (hB1.mono b0.size)⟩
end Go.Proofs.Ytimmiidkjpbffaa
/- Layer compile: what the layers below give. -/
namespace Go.Proofs.Ytimmiidkjpbffaa
open Go.RowKit
set_option maxRecDepth 100000
set_option linter.unusedVariables false
set_option linter.unusedSimpArgs false

set_option maxHeartbeats 1000000 in
theorem dstmt_0 {N : Nat} {sp : Option Addr} {n cap : Nat} {fs : List FuT} {da vs : Int} {fi : Nat} : DsAt N sp n cap fs da vs fi 0 := by
  intro w cs t k hk hN hF hM
  obtain ⟨xk, xv, xf, xt, xa, ya, za, xb, yb, zb, xc, yc, zc, rfl⟩ := hM.cells
  have b0 : Below w.heap.size w ((w.alloc (.cells #[.slice sp n cap, .int .i64 da] 47)).alloc (.cells (stC xk xv xf xt (.slice xa ya za) (.slice xb yb zb) (.slice xc yc zc)).toArray 94)) := (ab w _).alloc (by simp) _
  rw [show stN ((fs.take fi).map FuT.p) vs 0 t k = none from rfl]
  clear hM hF
  have hsub : IntKind.i64.wrap ((k : Int) - 1) = (k : Int) - 1 := by rw [IntKind.wrap_i64]; omega
  unfold stC at *
  by_cases h0 : (k : Int) - 1 < 0
  · go_enter Try.func67, Try.ntmps67
    go_upto_region 2 with fail
    go_quiet (fail)
    go_wp2_with fail
    go_ret
    exact ⟨rfl, dwN b0 _⟩
  · go_enter Try.func67, Try.ntmps67
    go_upto_region 2 with fail
    go_quiet (fail)
    go_wp2_with fail
    go_ret
    exact ⟨rfl, dwN b0 _⟩
theorem dstmt_any {N : Nat} {sp : Option Addr} {n cap : Nat} {fs : List FuT} {da vs : Int} {fi : Nat} {fn : FuT} (hfi : fs[fi]? = some fn) (hvs : fn.v = vs) : ∀ d : Nat, d ≤ 100 → DsAt N sp n cap fs da vs fi d
  | 0, _ => dstmt_0
  | d + 1, h => dstmt_s (by omega) hfi hvs (dstmt_any hfi hvs d (by omega))
end Go.Proofs.Ytimmiidkjpbffaa
/- Layer compile: what the layers below give. -/
namespace Go.Proofs.Ytimmiidkjpbffaa
open Go.RowKit
set_option maxRecDepth 100000
set_option linter.unusedVariables false
set_option linter.unusedSimpArgs false

theorem begB_f {p : PgT} : begB p = true ↔ ¬ ((p.fs.length : Int) < 1) ∧ ¬ (32 < (p.fs.length : Int)) ∧ ¬ (p.da < 0) ∧ ¬ (1024 < p.da) ∧ p.fs.getLast?.map FuT.p = some 0 := by
  unfold begB
  rw [decide_eq_true_eq]
  constructor
  · rintro ⟨h1, h2, h3, h4, h5⟩
    exact ⟨by omega, by omega, by omega, by omega, h3⟩
  · rintro ⟨h1, h2, h3, h4, h5⟩
    exact ⟨by omega, by omega, h5, by omega, by omega⟩
set_option maxHeartbeats 4000000 in
theorem used_any {N : Nat} {cs : List Value} (p : PgT) (w : World) (hM : PgM N w cs p) (hN : N ≤ w.heap.size) :
    Calls Try.prog 34 #[.agg cs.toArray] w (DoP ((pgN p).map (4096 - ·)) w) := by
  obtain ⟨sp, n, cap, rfl, hda, hS⟩ := hM
  have b0 := ab w (.cells #[.slice sp n cap, .int .i64 p.da] 47)
  have A := Arr.new w 47 #[.slice sp n cap, .int .i64 p.da]
  have hlen := hS.len
  have hsm := hS.small
  have hbf := begB_f (p := p)
  rw [← hlen.out] at hbf
  have hSU := hS.imp (b0.mono hN) (FuM.below (b0.mono hN))
  have hNU : N ≤ (w.alloc (.cells #[.slice sp n cap, .int .i64 p.da] 47)).heap.size := by simp; omega
  have no : begB p ≠ true → pgN p = none := fun h => by unfold pgN; rw [if_neg h]
  by_cases c0 : (n : Int) < 1
  · rw [no (fun h => (hbf.1 h).1 c0)]
    clear hS hSU hbf no hlen
    go_enter Try.func34, Try.ntmps34
    go_wp2_with fail
    go_ret
    exact ⟨rfl, b0⟩
  by_cases c1 : 32 < (n : Int)
  · rw [no (fun h => (hbf.1 h).2.1 c1)]
    clear hS hSU hbf no hlen
    go_enter Try.func34, Try.ntmps34
    go_wp2_with fail
    go_ret
    exact ⟨rfl, b0⟩
  by_cases c2 : p.da < 0
  · rw [no (fun h => (hbf.1 h).2.2.1 c2)]
    clear hS hSU hbf no hlen
    go_enter Try.func34, Try.ntmps34
    go_wp2_with fail
    go_ret
    exact ⟨rfl, b0⟩
  by_cases c3 : 1024 < p.da
  · rw [no (fun h => (hbf.1 h).2.2.2.1 c3)]
    clear hS hSU hbf no hlen
    go_enter Try.func34, Try.ntmps34
    go_wp2_with fail
    go_ret
    exact ⟨rfl, b0⟩
  obtain ⟨f, ht⟩ : ∃ t, p.fs[n - 1]? = some t := ⟨p.fs[n - 1]'(by have := hlen.out; omega), List.getElem?_eq_getElem _⟩
  have hlast : p.fs.getLast?.map FuT.p = some f.p := by rw [List.getLast?_eq_getElem?, ← hlen.out, ht]; rfl
  obtain ⟨g, off, rfl, hg, hR⟩ := hSU.at0 (by omega)
  obtain ⟨cf, hrg, hMf⟩ := hR (n - 1) f ht
  obtain ⟨qa, qb, qc, rfl, -, -⟩ := hMf
  have l0 := hrg 0 _ rfl
  simp only [Nat.add_zero] at l0
  have hkw : IntKind.i64.wrap ((n : Int) - 1) = ((n - 1 : Nat) : Int) := by rw [IntKind.wrap_i64]; omega
  have hk1 : ((n - 1 : Nat) : Int) < n := by omega
  have hk2 : n - 1 < n := by omega
  by_cases c4 : f.p = 0
  rotate_left
  · rw [no (fun h => c4 (by have := (hbf.1 h).2.2.2.2; rw [hlast] at this; exact Option.some.inj this))]
    have c4' : (f.p != 0) = true := by simpa using c4
    clear hS hSU hbf no hlen hR hrg ht hlast c4
    generalize n - 1 = kk at *
    go_enter Try.func34, Try.ntmps34
    go_wp2_with fail
    go_ret
    exact ⟨rfl, b0⟩
  have hbeg : begB p = true := hbf.2 ⟨c0, c1, c2, c3, by rw [hlast, c4]⟩
  have e : pgN p = fnN p.fs [] 4096 := by unfold pgN; rw [hbeg, if_pos rfl]
  rw [e]
  obtain ⟨r, hr⟩ : ∃ r, r = fnN p.fs [] 4096 := ⟨_, rfl⟩
  rw [← hr]
  replace hr := hid hr
  have c4' : (f.p != 0) = false := by simpa using c4
  clear hS hbf no hlast hrg ht c4 hbeg e
  generalize hkk : n - 1 = kk at *
  clear hkk
  go_enter Try.func34, Try.ntmps34
  go_upto_region 5 with fail
  generalize hU : w.alloc (.cells #[.slice (some ⟨g, off, none⟩) n cap, .int .i64 p.da] 47) = U at *
  go_loopw [3, 4] (fun a i wr => ∃ (j : Nat), i = .int .i64 (j : Int) ∧ j ≤ n ∧ ((∃ q : Nat, q ≤ 4096 ∧ a = .int .i64 (q : Int) ∧ Hid (r = fnN (p.fs.drop j) ((p.fs.take j).map FuT.p) q)) ∨ (a = .int .i64 (-1) ∧ Hid (r = none))) ∧ Below U.heap.size U wr)
    (fun _ i _ => n - (intOf i).toNat)
  case atStart => exact ⟨0, rfl, by omega, .inl ⟨4096, by omega, rfl, hr⟩, Below.refl _ _⟩
  case round =>
    obtain ⟨j, rfl, hj, hqq, hb⟩ := hrel
    have B2 := b0.trans (hb.mono b0.size)
    have a0 := (A.bl hb).cell 0
    have a1 := (A.bl hb).cell 1
    rcases hqq with ⟨q, hq, rfl, hf⟩ | ⟨rfl, hf⟩
    · have hq0 : (0 : Int) ≤ q := by omega
      by_cases hlt : j < n
      · obtain ⟨f, ht⟩ : ∃ t, p.fs[j]? = some t := ⟨p.fs[j]'(by rw [← hlen.out]; exact hlt), List.getElem?_eq_getElem _⟩
        have hfd := fnN_drop ht q
        obtain ⟨cs, hrg, hM⟩ := hR j f ht
        obtain ⟨sq, m, cq, rfl, ⟨hfp, hfv⟩, hSb⟩ := hM
        have hrg2 := rb hrg hb (by omega)
        have c0 := hrg2 0 _ rfl
        have c1 := hrg2 1 _ rfl
        have c2 := hrg2 2 _ rfl
        simp only [Nat.add_zero] at c0
        have hlt' : (j : Int) < n := by omega
        have h0 : (0 : Int) ≤ j := by omega
        by_cases hcond : 0 ≤ f.v ∧ f.v ≤ 64 ∧ 0 ≤ f.p ∧ f.p ≤ f.v
        · rw [if_pos hcond] at hfd
          obtain ⟨d1, d2, d3, d4⟩ := hcond
          have n1 : ¬ f.v < 0 := by omega
          have n2 : ¬ 64 < f.v := by omega
          have n3 : ¬ f.p < 0 := by omega
          have n4 : ¬ f.v < f.p := by omega
          have b3 := ab wr (.cells (fuC f.p f.v (.slice sq m cq)).toArray 85)
          have hb3 := hb.trans (b3.mono hb.size)
          have hst := dstmts (dstmt_any (N := N) (sp := some ⟨g, off, none⟩) (n := n) (cap := cap) (fs := p.fs) (da := p.da) ht rfl 8 (by omega)) (wr.alloc (.cells (fuC f.p f.v (.slice sq m cq)).toArray 85)) (hSb.imp (hb3.mono hNU) (StM.below (hb3.mono hNU) 8)) (by have := hb3.size; omega) (hSU.imp (hb3.mono hNU) (FuM.below (hb3.mono hNU))) (some q) (fun k h => by cases h; exact hq) _ _ rfl rfl
          replace hst : Calls Try.prog 45 #[.agg #[.slice (some ⟨g, off, none⟩) n cap, .int .i64 p.da], .int .i64 (j : Int), .slice sq m cq, .int .i64 (q : Int), .int .i64 8] (wr.alloc (.cells (fuC f.p f.v (.slice sq m cq)).toArray 85)) (DoP (fld (stN ((p.fs.take j).map FuT.p) f.v 8) f.b q) (wr.alloc (.cells (fuC f.p f.v (.slice sq m cq)).toArray 85))) := hst
          unfold DoP at hst
          have e0 := (A.bl hb3).cell 0
          have e1 := (A.bl hb3).cell 1
          clear hSU hR hrg hrg2 hSb ht hr
          cases hx : fld (stN ((p.fs.take j).map FuT.p) f.v 8) f.b q with
          | none =>
            rw [hx] at hst hfd
            have hrn : Hid (r = none) := hid (hf.out.trans hfd)
            clear hx hfd hf
            unfold fuC at *
            go_wp2_with (go_at_call 45; go_must (refine hst.mono ?_; rintro e w5 ⟨rfl, hb5⟩))
            go_roundw
            case rel => exact ⟨j + 1, by go_num, by omega, .inr ⟨rfl, hrn⟩, hb3.trans (hb5.mono hb3.size)⟩
            case measure => simp [intOf]; omega
          | some q' =>
            have hq' : q' ≤ q := fld_le (stN_le 8) _ _ _ hx
            rw [hx] at hst hfd
            have hrn : Hid (r = fnN (p.fs.drop (j + 1)) ((p.fs.take (j + 1)).map FuT.p) q') := hid (hf.out.trans hfd)
            clear hx hfd hf
            unfold fuC at *
            go_wp2_with (go_at_call 45; go_must (refine hst.mono ?_; rintro e w5 ⟨rfl, hb5⟩))
            go_roundw
            case rel => exact ⟨j + 1, by go_num, by omega, .inl ⟨q', by omega, rfl, hrn⟩, hb3.trans (hb5.mono hb3.size)⟩
            case measure => simp [intOf]; omega
        · rw [if_neg hcond] at hfd
          have hrn : Hid (r = none) := hid (hf.out.trans hfd)
          have hc2 : Hid (¬ (0 ≤ f.v ∧ f.v ≤ 64 ∧ 0 ≤ f.p ∧ f.p ≤ f.v)) := hid hcond
          clear hSU hR hrg hrg2 hSb ht hr hfd hf hcond hlen
          unfold fuC at *
          go_upto_region 8 with fail
          by_cases d1 : f.v < 0
          · go_wp2_with fail
            go_ret
            rw [hrn.out]
            exact ⟨rfl, B2.alloc B2.size _⟩
          by_cases d2 : 64 < f.v
          · go_wp2_with fail
            go_ret
            rw [hrn.out]
            exact ⟨rfl, B2.alloc B2.size _⟩
          by_cases d3 : f.p < 0
          · go_wp2_with fail
            go_ret
            rw [hrn.out]
            exact ⟨rfl, B2.alloc B2.size _⟩
          have d4 : f.v < f.p := by have := hc2.out; omega
          go_wp2_with fail
          go_ret
          rw [hrn.out]
          exact ⟨rfl, B2.alloc B2.size _⟩
      · obtain rfl : j = n := by omega
        have hrn : Hid (r = some q) := hid (by rw [hf.out, hlen.out, List.drop_length]; rfl)
        have hlt' : ¬ (j : Int) < j := by omega
        have hnn : ¬ (q : Int) < 0 := by omega
        have hsub : IntKind.i64.wrap (4096 - (q : Int)) = ((4096 - q : Nat) : Int) := by rw [IntKind.wrap_i64]; omega
        clear hSU hf hlen hR hr
        go_wp2_with fail
        go_ret
        rw [hrn.out]
        exact ⟨rfl, B2⟩
    · clear hSU hlen hR hr
      by_cases hlt : j < n
      · have hlt' : (j : Int) < n := by omega
        go_wp2_with fail
        go_ret
        rw [hf.out]
        exact ⟨rfl, B2⟩
      · have hlt' : ¬ (j : Int) < n := by omega
        go_wp2_with fail
        go_ret
        rw [hf.out]
        exact ⟨rfl, B2⟩
theorem refMay_any {N : Nat} {cs : List Value} (p : PgT) (w : World) (hM : PgM N w cs p) (hN : N ≤ w.heap.size) :
    Calls Try.prog 16 #[.agg cs.toArray] w (BoP (pgN p).isSome w) := by
  obtain ⟨sp, n, cap, rfl, hda, hS⟩ := id hM
  have b0 := ab w (.cells #[.slice sp n cap, .int .i64 p.da] 47)
  have hn := used_any p (w.alloc (.cells #[.slice sp n cap, .int .i64 p.da] 47)) (PgM.below (b0.mono hN) _ p hM) (by simp; omega)
  unfold DoP at hn
  clear hM hS
  cases h : pgN p with
  | none =>
    rw [h] at hn
    go_enter Try.func16, Try.ntmps16
    go_wp2_with (go_at_call 34; go_must (refine hn.mono ?_; rintro e w1 ⟨rfl, hb1⟩))
    go_ret
    exact ⟨rfl, b0.trans (hb1.mono b0.size)⟩
  | some k =>
    rw [h] at hn
    have hk : (0 : Int) ≤ ((4096 - k : Nat) : Int) := by omega
    replace hn : Calls Try.prog 34 #[.agg #[.slice sp n cap, .int .i64 p.da]] (w.alloc (.cells #[.slice sp n cap, .int .i64 p.da] 47)) fun e w' => e = .returned (.int .i64 ((4096 - k : Nat) : Int)) ∧ Below (w.alloc (.cells #[.slice sp n cap, .int .i64 p.da] 47)).heap.size (w.alloc (.cells #[.slice sp n cap, .int .i64 p.da] 47)) w' := hn
    generalize ((4096 - k : Nat) : Int) = z at *
    go_enter Try.func16, Try.ntmps16
    go_wp2_with (go_at_call 34; go_must (refine hn.mono ?_; rintro e w1 ⟨rfl, hb1⟩))
    go_ret
    exact ⟨rfl, b0.trans (hb1.mono b0.size)⟩
end Go.Proofs.Ytimmiidkjpbffaa
/- Layer compile: bounds. -/
namespace Go.Proofs.Ytimmiidkjpbffaa
open Go.RowKit
set_option maxRecDepth 100000
set_option linter.unusedVariables false
set_option linter.unusedSimpArgs false


/-- How many nodes a program that may be has. -/
def nN (p : PgT) : Option Nat := (pgN p).map (4096 - ·)
theorem nN_le {p : PgT} {n : Nat} (h : nN p = some n) : n ≤ 4096 := by
  unfold nN at h
  obtain ⟨m, -, rfl⟩ := Option.map_eq_some_iff.1 h
  omega
def nE (p : PgT) : Int := if (nN p).isSome then 0 else 2
set_option maxHeartbeats 1000000 in
theorem nodes25_any {N : Nat} {sp : Option Addr} {k cap : Nat} {da : Int} (p : PgT) (w : World) (hM : PgM N w [.slice sp k cap, .int .i64 da] p) (hN : N ≤ w.heap.size) :
    Calls Try.prog 25 #[.agg #[.slice sp k cap, .int .i64 da]] w fun e w' => e = .returned (.tuple #[.int .i64 (((nN p).getD 0 : Nat) : Int), .int .i64 (nE p)]) ∧ Below w.heap.size w w' := by
  have b0 := ab w (.cells #[.slice sp k cap, .int .i64 da] 47)
  have A := Arr.new w 47 #[.slice sp k cap, .int .i64 da]
  have hn := hid (nodes_any p _ (PgM.below (b0.mono hN) _ p hM) (by have := b0.size; omega))
  have hf : Hid ((pgN p).map (4096 - ·) = nN p) := hid rfl
  rw [hf.out] at hn
  have hz : Hid (nE p = if (nN p).isSome then 0 else 2) := hid rfl
  generalize nE p = z at *
  clear hM hf
  unfold CtP at hn
  cases hnn : nN p with
  | none =>
    rw [hnn] at hn hz
    have hz : z = 2 := hz.out
    subst hz
    clear hnn
    go_enter Try.func25, Try.ntmps25
    go_wp2_with (first
      | (go_at_call 39; go_must (refine hn.out.mono ?_; rintro e w1 ⟨rfl, hb1⟩; simp only [Option.isSome_none, Option.getD_none])))
    go_ret2
    exact ⟨rfl, b0.trans (hb1.mono b0.size)⟩
  | some n =>
    rw [hnn] at hn hz
    have hz : z = 0 := hz.out
    subst hz
    clear hnn
    go_enter Try.func25, Try.ntmps25
    go_wp2_with (first
      | (go_at_call 39; go_must (refine hn.out.mono ?_; rintro e w1 ⟨rfl, hb1⟩; simp only [Option.isSome_some, Option.getD_some])))
    go_ret2
    exact ⟨rfl, b0.trans (hb1.mono b0.size)⟩

set_option maxHeartbeats 1000000 in
theorem nodes26_any {N : Nat} {sp : Option Addr} {k cap : Nat} {da : Int} (p : PgT) (w : World) (hM : PgM N w [.slice sp k cap, .int .i64 da] p) (hN : N ≤ w.heap.size) :
    Calls Try.prog 26 #[.agg #[.slice sp k cap, .int .i64 da]] w fun e w' => e = .returned (.tuple #[.int .i64 (((nN p).getD 0 : Nat) : Int), .int .i64 (nE p)]) ∧ Below w.heap.size w w' := by
  have b0 := ab w (.cells #[.slice sp k cap, .int .i64 da] 47)
  have A := Arr.new w 47 #[.slice sp k cap, .int .i64 da]
  have hn := hid (used_any p _ (PgM.below (b0.mono hN) _ p hM) (by have := b0.size; omega))
  have hf : Hid ((pgN p).map (4096 - ·) = nN p) := hid rfl
  rw [hf.out] at hn
  have hz : Hid (nE p = if (nN p).isSome then 0 else 2) := hid rfl
  generalize nE p = z at *
  clear hM hf
  unfold DoP at hn
  cases hnn : nN p with
  | none =>
    rw [hnn] at hn hz
    have hz : z = 2 := hz.out
    subst hz
    have hd : doR (none : Option Nat) = -1 := rfl
    rw [hd] at hn
    clear hnn
    go_enter Try.func26, Try.ntmps26
    go_wp2_with (first
      | (go_at_call 34; go_must (refine hn.out.mono ?_; rintro e w1 ⟨rfl, hb1⟩)))
    go_ret2
    exact ⟨rfl, b0.trans (hb1.mono b0.size)⟩
  | some n =>
    rw [hnn] at hn hz
    have hz : z = 0 := hz.out
    subst hz
    have hd : doR (some n) = (n : Int) := rfl
    rw [hd] at hn
    have h0 : (0 : Int) ≤ n := by omega
    clear hnn
    go_enter Try.func26, Try.ntmps26
    go_wp2_with (first
      | (go_at_call 34; go_must (refine hn.out.mono ?_; rintro e w1 ⟨rfl, hb1⟩)))
    go_ret2
    exact ⟨rfl, b0.trans (hb1.mono b0.size)⟩
/-- The bound on steps, or the error. -/
def bdR (p : PgT) (s : Int) : Int × Int := match nN p with
  | none => (0, 2)
  | some n => if s < 0 then (0, 2) else if 4194304 < 32 * ((n : Int) + 1) * (s + 1) then (0, 4) else (32 * ((n : Int) + 1) * (s + 1), 0)
theorem quo_le {k s : Int} (hk : 0 < k) (hs : 0 ≤ s) : (4194304 / k ≤ s) ↔ 4194304 < k * (s + 1) := by
  constructor
  · intro h
    have h1 : 4194304 < k * (4194304 / k + 1) := by
      have := Int.lt_mul_ediv_self_add (x := 4194304) hk
      rw [Int.mul_add, Int.mul_one]; exact this
    exact Int.lt_of_lt_of_le h1 (Int.mul_le_mul_of_nonneg_left (by omega) (by omega))
  · intro h
    have : 4194304 / k < s + 1 := Int.ediv_lt_of_lt_mul hk (by rw [Int.mul_comm]; exact h)
    omega
set_option maxHeartbeats 2000000 in
theorem bound13_any {N : Nat} {sp : Option Addr} {k cap : Nat} {da : Int} (p : PgT) (s : Int) (w : World) (hM : PgM N w [.slice sp k cap, .int .i64 da] p) (hN : N ≤ w.heap.size) (hs : -9223372036854775808 ≤ s ∧ s ≤ 9223372036854775807) :
    Calls Try.prog 13 #[.agg #[.slice sp k cap, .int .i64 da], .int .i64 s] w fun e w' => e = .returned (.tuple #[.int .i64 (bdR p s).1, .int .i64 (bdR p s).2]) ∧ Below w.heap.size w w' := by
  have b0 := ab w (.cells #[.slice sp k cap, .int .i64 da] 47)
  have A := Arr.new w 47 #[.slice sp k cap, .int .i64 da]
  have hn := hid (nodes25_any p _ (PgM.below (b0.mono hN) _ p hM) (by have := b0.size; omega))
  clear hM
  unfold bdR
  cases hnn : nN p with
  | none =>
    have he : nE p = 2 := by unfold nE; rw [hnn]; rfl
    rw [he, hnn] at hn
    clear hnn he
    go_enter Try.func13, Try.ntmps13
    go_wp2_with (go_at_call 25; go_must (refine hn.out.mono ?_; rintro e w1 ⟨rfl, hb1⟩; simp only [Option.getD_none]))
    go_ret2
    exact ⟨rfl, b0.trans (hb1.mono b0.size)⟩
  | some n =>
    have he : nE p = 0 := by unfold nE; rw [hnn]; rfl
    have hle := nN_le hnn
    rw [he, hnn] at hn
    clear hnn he
    simp only
    by_cases h0 : s < 0
    · rw [if_pos h0]
      go_enter Try.func13, Try.ntmps13
      go_wp2_with (go_at_call 25; go_must (refine hn.out.mono ?_; rintro e w1 ⟨rfl, hb1⟩; simp only [Option.getD_some]))
      go_ret2
      exact ⟨rfl, b0.trans (hb1.mono b0.size)⟩
    · rw [if_neg h0]
      have hk0 : 0 < 32 * ((n : Int) + 1) := by omega
      have hq := quo_le hk0 (show 0 ≤ s by omega)
      have htd : Int.tdiv 4194304 (32 * ((n : Int) + 1)) = 4194304 / (32 * ((n : Int) + 1)) := Int.tdiv_eq_ediv_of_nonneg (by omega)
      generalize hd : 4194304 / (32 * ((n : Int) + 1)) = d at *
      by_cases h1 : 4194304 < 32 * ((n : Int) + 1) * (s + 1)
      · rw [if_pos h1]
        have h2 : d ≤ s := hq.2 h1
        clear hq h1
        have hd0 : 0 ≤ d := by rw [← hd]; exact Int.ediv_nonneg (by omega) (by omega)
        have hd1 : d ≤ 4194304 := by rw [← hd]; exact Int.ediv_le_self _ (by omega)
        clear hd
        go_enter Try.func13, Try.ntmps13
        go_wp2_with (go_at_call 25; go_must (refine hn.out.mono ?_; rintro e w1 ⟨rfl, hb1⟩; simp only [Option.getD_some]))
        go_ret2
        exact ⟨rfl, b0.trans (hb1.mono b0.size)⟩
      · rw [if_neg h1]
        have h2 : ¬ d ≤ s := fun q => h1 (hq.1 q)
        clear hq
        have hd0 : 0 ≤ d := by rw [← hd]; exact Int.ediv_nonneg (by omega) (by omega)
        have hd1 : d ≤ 4194304 := by rw [← hd]; exact Int.ediv_le_self _ (by omega)
        have hm0 : 0 ≤ 32 * ((n : Int) + 1) * (s + 1) := Int.mul_nonneg (by omega) (by omega)
        clear hd
        go_enter Try.func13, Try.ntmps13
        go_wp2_with (go_at_call 25; go_must (refine hn.out.mono ?_; rintro e w1 ⟨rfl, hb1⟩; simp only [Option.getD_some]))
        go_ret2
        refine ⟨?_, b0.trans (hb1.mono b0.size)⟩
        congr 2
set_option maxHeartbeats 2000000 in
theorem bound14_any {N : Nat} {sp : Option Addr} {k cap : Nat} {da : Int} (p : PgT) (s : Int) (w : World) (hM : PgM N w [.slice sp k cap, .int .i64 da] p) (hN : N ≤ w.heap.size) (hs : -9223372036854775808 ≤ s ∧ s ≤ 9223372036854775807) :
    Calls Try.prog 14 #[.agg #[.slice sp k cap, .int .i64 da], .int .i64 s] w fun e w' => e = .returned (.tuple #[.int .i64 (bdR p s).1, .int .i64 (bdR p s).2]) ∧ Below w.heap.size w w' := by
  have b0 := ab w (.cells #[.slice sp k cap, .int .i64 da] 47)
  have A := Arr.new w 47 #[.slice sp k cap, .int .i64 da]
  have hn := hid (nodes26_any p _ (PgM.below (b0.mono hN) _ p hM) (by have := b0.size; omega))
  clear hM
  unfold bdR
  cases hnn : nN p with
  | none =>
    have he : nE p = 2 := by unfold nE; rw [hnn]; rfl
    rw [he, hnn] at hn
    clear hnn he
    go_enter Try.func14, Try.ntmps14
    go_wp2_with (go_at_call 26; go_must (refine hn.out.mono ?_; rintro e w1 ⟨rfl, hb1⟩; simp only [Option.getD_none]))
    go_ret2
    exact ⟨rfl, b0.trans (hb1.mono b0.size)⟩
  | some n =>
    have he : nE p = 0 := by unfold nE; rw [hnn]; rfl
    have hle := nN_le hnn
    rw [he, hnn] at hn
    clear hnn he
    simp only
    by_cases h0 : s < 0
    · rw [if_pos h0]
      go_enter Try.func14, Try.ntmps14
      go_wp2_with (go_at_call 26; go_must (refine hn.out.mono ?_; rintro e w1 ⟨rfl, hb1⟩; simp only [Option.getD_some]))
      go_ret2
      exact ⟨rfl, b0.trans (hb1.mono b0.size)⟩
    · rw [if_neg h0]
      by_cases h2 : 4194304 < s
      · have h1 : 4194304 < 32 * ((n : Int) + 1) * (s + 1) := by
          have : 1 * (s + 1) ≤ 32 * ((n : Int) + 1) * (s + 1) := Int.mul_le_mul_of_nonneg_right (by omega) (by omega)
          omega
        rw [if_pos h1]
        clear h1
        go_enter Try.func14, Try.ntmps14
        go_wp2_with (go_at_call 26; go_must (refine hn.out.mono ?_; rintro e w1 ⟨rfl, hb1⟩; simp only [Option.getD_some]))
        go_ret2
        exact ⟨rfl, b0.trans (hb1.mono b0.size)⟩
      · have hm0 : 0 ≤ 32 * ((n : Int) + 1) * (s + 1) := Int.mul_nonneg (by omega) (by omega)
        have hm1 : 32 * ((n : Int) + 1) * (s + 1) ≤ 131104 * 4194305 := Int.mul_le_mul (by omega) (by omega) (by omega) (by omega)
        by_cases h1 : 4194304 < 32 * ((n : Int) + 1) * (s + 1)
        · rw [if_pos h1]
          go_enter Try.func14, Try.ntmps14
          go_wp2_with (go_at_call 26; go_must (refine hn.out.mono ?_; rintro e w1 ⟨rfl, hb1⟩; simp only [Option.getD_some]))
          go_ret2
          exact ⟨rfl, b0.trans (hb1.mono b0.size)⟩
        · rw [if_neg h1]
          go_enter Try.func14, Try.ntmps14
          go_wp2_with (go_at_call 26; go_must (refine hn.out.mono ?_; rintro e w1 ⟨rfl, hb1⟩; simp only [Option.getD_some]))
          go_ret2
          exact ⟨rfl, b0.trans (hb1.mono b0.size)⟩
end Go.Proofs.Ytimmiidkjpbffaa
/- Layer compile: small programs fit (pure). -/
namespace Go.Proofs.Ytimmiidkjpbffaa
open Go.RowKit
set_option maxRecDepth 100000
set_option linter.unusedVariables false
set_option linter.unusedSimpArgs false


/-- What the functions ahead of the last one cost beside their nodes. -/
def kCst : List FuT → Int
  | [] => 0
  | [_] => 0
  | g :: h :: r => (g.v - g.p) + 4 + kCst (h :: r)
def kVars : List FuT → Int
  | [] => 0
  | g :: r => g.v + kVars r
section
variable {E : KE}
theorem kCalled_cst {f : Int} {ps : List Int} {g : FuT} {s : KS} {n m : Nat} (hv : g.p ≤ g.v) (h : fld (stN ps g.v 8) g.b n = some m) : ((kCalled E f g s).code.length : Int) + 8 * m ≤ s.code.length + 8 * n + (g.v - g.p) + 4 := by
  have c1 := kZero_cost (E := E) (g := f) (g.v - g.p).toNat g.p (kSlot 18 15 (E.fr.getD f.toNat 0) (s.here f))
  have c2 := kBody_cost (E := E) (f := f) (s := kZero E f (g.v - g.p).toNat g.p (kSlot 18 15 (E.fr.getD f.toNat 0) (s.here f))) h
  simp only [kSlot, KS.to, KS.here, List.length_append, List.length_cons, List.length_nil] at c1 c2
  simp only [kCalled, kSlot, KS.to, KS.put, KS.here, List.length_append, List.length_cons, List.length_nil]
  omega
theorem kFns_cst : ∀ (l : List FuT) (j : Int) (s : KS) (ps : List Int) (n m : Nat) (g : FuT), fnN l ps n = some m → l.getLast? = some g →
    ∃ ps' a, fld (stN ps' g.v 8) g.b a = some m ∧ ((kFns E l j s).code.length : Int) + 8 * a ≤ s.code.length + 8 * n + kCst l
  | [], j, s, ps, n, m, g, h, hl => by cases hl
  | [x], j, s, ps, n, m, g, h, hl => by
    have hx : x = g := by simpa using hl
    subst hx
    unfold fnN at h
    split at h
    · cases hb : fld (stN ps x.v 8) x.b n with
      | none => rw [hb] at h; cases h
      | some n1 =>
        rw [hb] at h
        have hm : n1 = m := Option.some.inj h
        subst hm
        exact ⟨ps, n, hb, by show (s.code.length : Int) + _ ≤ _ + 0; omega⟩
    · cases h
  | x :: y :: r, j, s, ps, n, m, g, h, hl => by
    unfold fnN at h
    split at h
    next hc =>
      cases hb : fld (stN ps x.v 8) x.b n with
      | none => rw [hb] at h; cases h
      | some n1 =>
        rw [hb] at h
        replace h : fnN (y :: r) (ps ++ [x.p]) n1 = some m := h
        have c1 := kCalled_cst (E := E) (f := j) (s := s) hc.2.2.2 hb
        obtain ⟨ps', a, e1, c2⟩ := kFns_cst (y :: r) (j + 1) (kCalled E j x s) _ _ _ g h (by simpa using hl)
        refine ⟨ps', a, e1, ?_⟩
        rw [kFns, kCst]
        omega
    · cases h
end
theorem kCst_le : ∀ (l : List FuT), (∀ g ∈ l, 0 ≤ g.p ∧ 0 ≤ g.v) → kCst l ≤ kVars l + 4 * l.length ∧ 0 ≤ kVars l
  | [], _ => by simp [kCst, kVars]
  | [g], h => by have := h g (by simp); simp only [kCst, kVars, List.length_cons, List.length_nil]; omega
  | g :: y :: r, h => by
    have h1 := h g (by simp)
    have h2 := kCst_le (y :: r) fun g hg => h g (by simp only [List.mem_cons] at hg ⊢; exact Or.inr hg)
    simp only [kCst, kVars, List.length_cons] at h2 ⊢
    omega
theorem kSlots_is : ∀ (l : List FuT), kSlots l = kVars l + l.length
  | [] => rfl
  | g :: r => by
    have h := kSlots_is r
    simp only [kSlots, kVars, List.length_cons]
    omega
theorem szF_le (n : Int) : ∀ (k i j : Nat), i ≤ j → n ≤ ((2 ^ j : Nat) : Int) → szF n k (2 ^ i) ≤ 2 ^ j
  | 0, i, j, h, _ => Nat.pow_le_pow_right (by omega) h
  | k + 1, i, j, h, hn => by
    unfold szF
    split
    · next hc =>
      have hij : i ≠ j := by rintro rfl; omega
      have := szF_le n k (i + 1) j (by omega) hn
      rw [Nat.pow_succ] at this
      exact this
    · exact Nat.pow_le_pow_right (by omega) h
/-- So few nodes, data and variables fit. -/
theorem kSize_small {p : PgT} {w : World} {cs : List Value} {m : Nat} {N : Nat} (hM : PgM N w cs p) (h : pgN p = some m) (hn : 4096 - m ≤ 200) (hd : p.da ≤ 512) (hv : kVars p.fs ≤ 512) : kSize p ≤ 4096 := by
  obtain ⟨hpo, hfn⟩ := pgOk_of hM h
  obtain ⟨ft, hlast⟩ : ∃ ft, p.fs.getLast? = some ft := by
    cases h : p.fs.getLast? with
    | none => rw [List.getLast?_eq_none_iff] at h; have := hpo.n.1; rw [h] at this; simp at this
    | some f => exact ⟨f, rfl⟩
  obtain ⟨ps', a, e1, c2⟩ := kFns_cst (E := kEnv p) p.fs 0 (kBegin (kEnv p) ((p.fs.length : Int) - 1) ft.b k0) [] 4096 m ft hfn hlast
  have c1 := kBody_cost (E := kEnv p) (f := (p.fs.length : Int) - 1) (s := k0.to 33 ⟨2, 14, 0, 0, 0⟩) e1
  simp only [kBegin, KS.put, List.length_append, List.length_cons, List.length_nil] at c2
  simp only [KS.to, show k0.code.length = 0 from rfl, show k0.nx = 34 from rfl, show k0.code = [] from rfl, List.nil_append, List.length_cons, List.length_nil] at c1 c2
  simp only [show k0.gaps = [] from rfl, show k0.code.length = 0 from rfl, show k0.code = [] from rfl, List.nil_append, List.length_nil] at c1 c2
  have hc := kCst_le p.fs fun g hg => by
    obtain ⟨i, hi⟩ := List.getElem?_of_mem hg
    have := (hpo.o i g hi).1
    exact ⟨this.2.2.1, this.1⟩
  have hs := kSlots_is p.fs
  have hp := hpo.n.2
  have ht : kTotal p ≤ ((2 ^ 12 : Nat) : Int) := by
    unfold kTotal
    rw [kProg_is hlast]
    have : ((2 ^ 12 : Nat) : Int) = 4096 := by decide
    simp only [kBegin, KS.put, KS.to, show k0.code.length = 0 from rfl, show k0.nx = 34 from rfl, show k0.gaps = [] from rfl, show k0.code = [] from rfl, List.nil_append, List.length_nil] at c2 ⊢
    omega
  have := szF_le (kTotal p) 30 0 12 (by omega) ht
  exact this
end Go.Proofs.Ytimmiidkjpbffaa
/- Layer compile: what is too big is not small. -/
namespace Go.Proofs.Ytimmiidkjpbffaa
open Go.RowKit
set_option maxRecDepth 100000
set_option linter.unusedVariables false
set_option linter.unusedSimpArgs false


theorem kVars_take : ∀ (l : List FuT) (j : Nat) (f : FuT), l[j]? = some f → kVars (l.take (j + 1)) = kVars (l.take j) + f.v
  | [], j, f, h => by simp at h
  | g :: r, 0, f, h => by
    have : g = f := by simpa using h
    subst this
    simp only [List.take_succ_cons, List.take_zero, kVars]
    omega
  | g :: r, j + 1, f, h => by
    have := kVars_take r j f (by simpa using h)
    simp only [List.take_succ_cons, kVars]
    omega
theorem kVars_rng : ∀ (l : List FuT), (∀ g ∈ l, 0 ≤ g.v ∧ g.v ≤ 64) → 0 ≤ kVars l ∧ kVars l ≤ 64 * l.length
  | [], _ => by simp [kVars]
  | g :: r, h => by
    have h1 := h g (by simp)
    have h2 := kVars_rng r fun x hx => h x (by simp [hx])
    simp only [kVars, List.length_cons]
    omega
set_option maxHeartbeats 2000000 in
/-- A program that is too big is not so small that it must be compiled. -/
theorem small17_no {N m : Nat} {sp : Option Addr} {k cap : Nat} {p : PgT} (w : World) (hN : N ≤ w.heap.size) (hM : PgM N w [.slice sp k cap, .int .i64 p.da] p) (hp : pgN p = some m) (hbig : ¬ kSize p ≤ 4096) :
    Calls Try.prog 17 #[.agg #[.slice sp k cap, .int .i64 p.da]] w (BoP false w) := by
  obtain ⟨hpo, hfn⟩ := pgOk_of hM hp
  have hno : ¬ (4096 - m ≤ 200 ∧ p.da ≤ 512 ∧ kVars p.fs ≤ 512) := fun h => hbig (kSize_small hM hp h.1 h.2.1 h.2.2)
  have hvr := hpo.v
  have hdr := hpo.d
  have hnr := hpo.n
  obtain ⟨sp', k', cap', hcs, hdi, hS⟩ := id hM
  cases hcs
  have hn26 := fun (U : World) (hU : Below w.heap.size w U) => nodes26_any p U (PgM.below (hU.mono hN) _ p hM) (Nat.le_trans hN hU.size)
  have hnn : nN p = some (4096 - m) := by unfold nN; rw [hp]; rfl
  have hne : nE p = 0 := by unfold nE; rw [hnn]; rfl
  rw [hnn, hne] at hn26
  simp only [Option.getD_some] at hn26
  have hkl := hS.len.out
  have hvl := kVars_rng p.fs hvr
  have A0 := Arr.new w 47 #[.slice sp k cap, .int .i64 p.da]
  have b0 := ab w (.cells #[.slice sp k cap, .int .i64 p.da] 47)
  have hS0 := hid (hS.imp (b0.mono hN) (R' := FuM N (w.alloc (.cells #[.slice sp k cap, .int .i64 p.da] 47))) (FuM.below (b0.mono hN)))
  obtain ⟨da, hda⟩ : ∃ da, p.da = da := ⟨_, rfl⟩
  obtain ⟨fs, hfs⟩ : ∃ fs, p.fs = fs := ⟨_, rfl⟩
  obtain ⟨nn, hnnE⟩ : ∃ nn, 4096 - m = nn := ⟨_, rfl⟩
  rw [hda, hfs, hnnE] at hno
  rw [hfs] at hvl hkl hvr hnr hS0
  rw [hda] at hn26 A0 b0 hS0 hdr ⊢
  rw [hnnE] at hn26
  have hn4 : nn ≤ 4096 := by omega
  have hk32 : k ≤ 32 := by omega
  replace hkl := hid hkl
  replace hvr := hid hvr
  replace hno := hid hno
  have a0 := A0.cell 0
  have a1 := A0.cell 1
  clear hbig hM hpo hfn hp hnn hne hda hfs hnnE hS hdi
  go_enter Try.func17, Try.ntmps17
  go_upto_region 2 with (go_at_call 26; go_must (refine (hn26 _ b0).mono ?_; rintro e w1 ⟨rfl, hb1⟩))
  have B1 := b0.trans (hb1.mono b0.size)
  have A1 := A0.bl hb1
  have hS1 := hid ((hS0.out).imp (hb1.mono (Nat.le_trans hN b0.size)) (R' := FuM N w1) (FuM.below (hb1.mono (Nat.le_trans hN b0.size))))
  clear hn26 hb1 A0 a0 a1 hS0 b0
  have a0 := A1.cell 0
  have a1 := A1.cell 1
  go_wp2_with fail
  go_loopw [5, 6] (fun v u wr => ∃ (j : Nat), u = .int .i64 (j : Int) ∧ j ≤ k ∧ v = .int .i64 (kVars (fs.take j)) ∧ wr = w1)
    (fun _ u _ => k - (intOf u).toNat)
  case atStart => exact ⟨0, rfl, by omega, by simp [kVars], rfl⟩
  case round =>
    obtain ⟨j, rfl, hj, rfl, rfl⟩ := hrel
    by_cases hlt : j < k
    · have hI : (j : Int) < k := by omega
      obtain ⟨g, off, hsp, hgN, hB⟩ := hS1.out.at0 (by omega)
      subst hsp
      obtain ⟨f, hf⟩ : ∃ f, fs[j]? = some f := ⟨fs[j]'(by rw [← hkl.out]; exact hlt), List.getElem?_eq_getElem _⟩
      obtain ⟨cs, hR, sp2, m2, cap2, rfl, -, -⟩ := hB j f hf
      have cv : wr.cell? ⟨g, off + j * 3 + 1, none⟩ = some (.int .i64 f.v) := hR 1 _ rfl
      have ht := kVars_take fs j f hf
      have hv1 := hvr.out f (List.mem_of_getElem? hf)
      have hv2 := kVars_rng (fs.take j) (fun x hx => hvr.out x (List.mem_of_mem_take hx))
      have hl2 : (fs.take j).length ≤ 32 := by rw [List.length_take]; have := hkl.out; omega
      obtain ⟨s, hs⟩ : ∃ s, kVars (fs.take j) = s := ⟨_, rfl⟩
      rw [hs] at ht hv2 ⊢
      obtain ⟨fv, hfv⟩ : ∃ fv, f.v = fv := ⟨_, rfl⟩
      rw [hfv] at cv ht hv1
      have hsb : 0 ≤ s ∧ s ≤ 2048 := by omega
      replace ht := hid ht
      clear hB hR hv2 hfv hs hl2
      go_wp2_with fail
      go_roundw
      case rel => exact ⟨j + 1, by go_num, by omega, by rw [ht.out], by trivial⟩
      case measure => simp [intOf]; omega
    · obtain rfl : j = k := by omega
      have hI : ¬ (j : Int) < j := by omega
      have hta : fs.take j = fs := by rw [hkl.out]; exact List.take_length
      rw [hta]
      obtain ⟨s, hs⟩ : ∃ s, kVars fs = s := ⟨_, rfl⟩
      rw [hs] at hvl hno ⊢
      clear hs hta
      by_cases c1 : nn ≤ 200
      · have c1' : (nn : Int) ≤ 200 := by omega
        by_cases c2 : da ≤ 512
        · have c3 : ¬ s ≤ 512 := fun h => hno.out ⟨c1, c2, h⟩
          go_wp2_with fail
          go_ret
          exact ⟨rfl, B1⟩
        · go_wp2_with fail
          go_ret
          exact ⟨rfl, B1⟩
      · have c1' : ¬ (nn : Int) ≤ 200 := by omega
        go_wp2_with fail
        go_ret
        exact ⟨rfl, B1⟩
end Go.Proofs.Ytimmiidkjpbffaa
