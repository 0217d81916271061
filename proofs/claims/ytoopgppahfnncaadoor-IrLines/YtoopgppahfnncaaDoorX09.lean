/- Ie, If, Ig, Is0, It0. -/
import Derived.Test.YtoopgppahfnncaaDoorX02
import Derived.Test.YtoopgppahfnncaaDoorX08
import Derived.BigQuiet
import Derived.BigRegion
import Derived.ChangeKeysEq
import Derived.ChangeOld
import Derived.Deep.DeepCutAuto
import Derived.Deep.DrawnRows
import Derived.Deep.MidRow
import Derived.Deep.OwnRows
import Derived.Deep.QuietTactic
import Derived.Deep.RegionHeld3
import Derived.Deep.RegionLaw
import Derived.Deep.RegionWith
import Derived.Deep.WholeRow
import Derived.DeepKeys3
import Derived.Great.BuildSlice
import Derived.Great.FillDense
import Derived.Handy
import Derived.Laws.AppendOwnNone
import Derived.Laws.BitsLemmas
import Derived.Laws.BytesArg
import Derived.Laws.CopyOwn
import Derived.Laws.OwnMore
import Derived.Laws.ResultCell
import Derived.Laws.Tables
import Derived.Lib.SlBytesConst
import Derived.LoopIn
import Derived.LoopNIn
import Derived.LoopTactic
import Derived.Maps.AppendAt
import Derived.OpenShut
import Derived.OwnWalkIn
import Derived.ProofKit
import Derived.RangeFuncBound
import Derived.RangeFuncCalls
import Derived.RangeFuncLeaves
import Derived.RangeFuncNested
import Derived.RangeFuncRecord
import Derived.Recover
import Derived.Shelf.Abstract
import Derived.Shelf.RegionOpen
import Derived.ShutString
import Derived.SizedLaws
import Derived.TacticsInMore
import Derived.WalkKit
import Derived.WalkLawsBesides
import Derived.WalkSpells
import Derived.Test.YtoopgppahfnncaaDoorX03
import Derived.Test.YtoopgppahfnncaaDoorX04
import Derived.Laws.AppendOwn
import Derived.Laws.CopyRow
import Derived.Laws.DeepBits32
import Derived.Laws.MakeOwn
import Derived.Lib.AppendZeros
import Derived.OwnWalk
/- Layer ir: what the layers below give. -/
namespace Go.Proofs.YtoopgppahfnncaaDoor
open Go.RowKit
set_option maxRecDepth 100000
set_option linter.unusedVariables false
set_option linter.unusedSimpArgs false

theorem mayS_o {α : Type} {N : Nat} {sp : Option Addr} {n cap : Nat} {fs : List FuT} {vs : Int} (w : World) (hS : RS N w 3 (FuM N w) sp n cap fs) (hN : N ≤ w.heap.size) (k v f t : Int) (sa : Option Addr) (na ca : Nat) (sb : Option Addr) (nb cb : Nat) (sc : Option Addr) (nc cc : Nat) (h1 : (k == 1) = false) (h2 : (k == 2) = false) (h3 : (k == 3) = false) (h4 : (k == 4) = false) (h5 : (k == 5) = false) (h6 : (k == 6) = false) (h7 : (k == 7) = false) (h8 : (k == 8) = false) (h9 : (k == 9) = false) :
    Calls Tryd.prog 62 #[.agg #[.slice sp n cap, .int .i64 vs], .agg (stC k v f t (.slice sa na ca) (.slice sb nb cb) (.slice sc nc cc)).toArray] w (BoP false w) := by
  clear hS
  unfold stC at *
  go_enter Tryd.func62, Tryd.ntmps62
  go_wp2_with fail
  all_goals
    go_ret
    exact ⟨rfl, (ab w _).alloc (by simp) _⟩
theorem mayS_any {α : Type} {N : Nat} {sp : Option Addr} {n cap : Nat} {fs : List FuT} {vs : Int} (w : World) (hS : RS N w 3 (FuM N w) sp n cap fs) (hN : N ≤ w.heap.size) (s : StN α) (sa : Option Addr) (na ca : Nat) (sb : Option Addr) (nb cb : Nat) (sc : Option Addr) (nc cc : Nat) (ha : na = s.a.length) (hth : nb = s.th.length) (hel : nc = s.el.length) :
    Calls Tryd.prog 62 #[.agg #[.slice sp n cap, .int .i64 vs], .agg (stC s.k s.v s.f s.t (.slice sa na ca) (.slice sb nb cb) (.slice sc nc cc)).toArray] w (BoP (mayS (fs.map FuT.p) vs s) w) := by
  obtain ⟨k, v, f, t, a, th, el⟩ := s
  by_cases h1 : k = 1
  · subst h1; exact mayS_1 w hS hN v f t a th el sa na ca sb nb cb sc nc cc ha hth hel
  by_cases h2 : k = 2
  · subst h2; exact mayS_2 w hS hN v f t a th el sa na ca sb nb cb sc nc cc ha hth hel
  by_cases h3 : k = 3
  · subst h3; exact mayS_3 w hS hN v f t a th el sa na ca sb nb cb sc nc cc ha hth hel
  by_cases h4 : k = 4
  · subst h4; exact mayS_4 w hS hN v f t a th el sa na ca sb nb cb sc nc cc ha hth hel
  by_cases h5 : k = 5
  · subst h5; exact mayS_5 w hS hN v f t a th el sa na ca sb nb cb sc nc cc ha hth hel
  by_cases h6 : k = 6
  · subst h6; exact mayS_6 w hS hN v f t a th el sa na ca sb nb cb sc nc cc ha hth hel
  by_cases h7 : k = 7
  · subst h7; exact mayS_7 w hS hN v f t a th el sa na ca sb nb cb sc nc cc ha hth hel
  by_cases h8 : k = 8
  · subst h8; exact mayS_8 w hS hN v f t a th el sa na ca sb nb cb sc nc cc ha hth hel
  by_cases h9 : k = 9
  · subst h9; exact mayS_9 w hS hN v f t a th el sa na ca sb nb cb sc nc cc ha hth hel
  have e : mayS (fs.map FuT.p) vs ⟨k, v, f, t, a, th, el⟩ = false := by simp [mayS, h1, h2, h3, h4, h5, h6, h7, h8, h9]
  rw [e]
  exact mayS_o (α := α) w hS hN k v f t sa na ca sb nb cb sc nc cc (by simpa using h1) (by simpa using h2) (by simpa using h3) (by simpa using h4) (by simpa using h5) (by simpa using h6) (by simpa using h7) (by simpa using h8) (by simpa using h9)
end Go.Proofs.YtoopgppahfnncaaDoor
/- Layer ir: what the layers below give. -/
namespace Go.Proofs.YtoopgppahfnncaaDoor
open Go.RowKit
set_option maxRecDepth 100000
set_option linter.unusedVariables false
set_option linter.unusedSimpArgs false

set_option maxHeartbeats 2000000 in
theorem stmt_s {N d : Nat} {es : Option Addr} {en ec : Nat} {fs : List FuT} {vs : Int} (hd100 : d ≤ 100) (hE : StAt N es en ec fs vs d) : StAt N es en ec fs vs (d + 1) := by
  intro u cs t k hk hN hF hM
  obtain ⟨sa, na, ca, sb, nb, cb, sc, nc, cc, rfl, hok, hSa, hSb, hSc⟩ := hM
  have b0 : Below u.heap.size u ((u.alloc (.cells #[.slice es en ec, .int .i64 vs] 73)).alloc (.cells (stC t.nd.k t.nd.v t.nd.f t.nd.t (.slice sa na ca) (.slice sb nb cb) (.slice sc nc cc)).toArray 66)) := (ab u _).alloc (by simp) _
  have hmy := mayS_any (vs := vs) ((u.alloc (.cells #[.slice es en ec, .int .i64 vs] 73)).alloc (.cells (stC t.nd.k t.nd.v t.nd.f t.nd.t (.slice sa na ca) (.slice sb nb cb) (.slice sc nc cc)).toArray 66)) (hF.imp (b0.mono hN) (FuM.below (b0.mono hN))) (by simp; omega) t.nd sa na ca sb nb cb sc nc cc hSa.len.out hSb.len.out hSc.len.out
  have A := (Arr.new u 73 #[.slice es en ec, .int .i64 vs]).alloc (.cells (stC t.nd.k t.nd.v t.nd.f t.nd.t (.slice sa na ca) (.slice sb nb cb) (.slice sc nc cc)).toArray 66)
  have A2 := Arr.new (u.alloc (.cells #[.slice es en ec, .int .i64 vs] 73)) 66 (stC t.nd.k t.nd.v t.nd.f t.nd.t (.slice sa na ca) (.slice sb nb cb) (.slice sc nc cc)).toArray
  simp only [World.size_alloc] at A2
  unfold BoP at hmy
  by_cases h0 : k = 0
  · subst h0
    have e : stN (fs.map FuT.p) vs (d + 1) t 0 = none := by unfold stN; rw [if_pos (.inl rfl)]
    rw [e]
    have hd0 : ¬ ((d : Int) + 1 = 0) := by omega
    clear hE hSa hSb hSc hF hmy A A2
    unfold stC at *
    go_enter Tryd.func50, Tryd.ntmps50
    go_wp2_with fail
    go_ret2
    exact ⟨rfl, b0⟩
  have hk0 : ((k : Int) == 0) = false := by simpa using h0
  have hd0 : (((d + 1 : Nat) : Int) == 0) = false := by simp; omega
  have hsub : IntKind.i64.wrap (((d + 1 : Nat) : Int) - 1) = (d : Int) := by rw [IntKind.wrap_i64]; omega
  have hkk : IntKind.i64.wrap ((k : Int) - 1) = ((k - 1 : Nat) : Int) := by rw [IntKind.wrap_i64]; omega
  cases hb : mayS (fs.map FuT.p) vs t.nd with
  | false =>
    have e : stN (fs.map FuT.p) vs (d + 1) t k = none := by unfold stN; rw [if_pos (.inr hb)]
    rw [e]
    rw [hb] at hmy
    clear hE hSa hSb hSc hF A A2 hsub h0
    generalize ((d + 1 : Nat) : Int) = dd at *
    unfold stC at *
    go_enter Tryd.func50, Tryd.ntmps50
    go_wp2_with (go_at_call 62; go_must (refine hmy.mono ?_; rintro e w1 ⟨rfl, hb1⟩))
    go_ret2
    exact ⟨rfl, b0.trans (hb1.mono b0.size)⟩
  | true =>
    have e : stN (fs.map FuT.p) vs (d + 1) t k = (fld (exN vs 8) t.nd.a (k - 1)).bind fun n1 => (fld (stN (fs.map FuT.p) vs d) t.nd.th n1).bind (fld (stN (fs.map FuT.p) vs d) t.nd.el) := by
      unfold stN
      rw [if_neg (by rintro (h | h); exact h0 h; exact (by rw [show mayS (fs.map FuT.p) vs (α := StT d) t = mayS (fs.map FuT.p) vs t.nd from rfl, hb] at h; cases h))]
      rfl
    rw [e]
    rw [hb] at hmy
    have hx : ∀ (w1 : World), Below ((u.alloc (.cells #[.slice es en ec, .int .i64 vs] 73)).alloc (.cells (stC t.nd.k t.nd.v t.nd.f t.nd.t (.slice sa na ca) (.slice sb nb cb) (.slice sc nc cc)).toArray 66)).heap.size ((u.alloc (.cells #[.slice es en ec, .int .i64 vs] 73)).alloc (.cells (stC t.nd.k t.nd.v t.nd.f t.nd.t (.slice sa na ca) (.slice sb nb cb) (.slice sc nc cc)).toArray 66)) w1 → ∀ x y : Int, x = (8 : Nat) → y = (k - 1 : Nat) → Calls Tryd.prog 63 #[.agg #[.slice es en ec, .int .i64 vs], .slice sa na ca, .int .i64 x, .int .i64 y] w1 (CtP (fld (exN vs 8) t.nd.a (k - 1)) w1) := fun w1 hb1 x y hx hy => by
      have hbb := (b0.trans (hb1.mono b0.size)).mono hN
      exact exprs58 (expr_any 8 (by omega)) w1 (hSa.imp hbb (ExM.below hbb 8)) (by have := hbb.size; omega) x y (k - 1) hx hy (by omega)
    have hy : ∀ (n1 : Nat) (w1 : World), n1 ≤ 4096 → Below ((u.alloc (.cells #[.slice es en ec, .int .i64 vs] 73)).alloc (.cells (stC t.nd.k t.nd.v t.nd.f t.nd.t (.slice sa na ca) (.slice sb nb cb) (.slice sc nc cc)).toArray 66)).heap.size ((u.alloc (.cells #[.slice es en ec, .int .i64 vs] 73)).alloc (.cells (stC t.nd.k t.nd.v t.nd.f t.nd.t (.slice sa na ca) (.slice sb nb cb) (.slice sc nc cc)).toArray 66)) w1 → ∀ x y : Int, x = d → y = n1 → Calls Tryd.prog 35 #[.agg #[.slice es en ec, .int .i64 vs], .slice sb nb cb, .int .i64 x, .int .i64 y] w1 (CtP (fld (stN (fs.map FuT.p) vs d) t.nd.th n1) w1) := fun n1 w1 hn1 hb1 x y hx hy => by
      have hbb := (b0.trans (hb1.mono b0.size)).mono hN
      exact stmts34 hE w1 (hSb.imp hbb (StM.below hbb d)) (by have := hbb.size; omega) (hF.imp hbb (FuM.below hbb)) x y n1 hx hy hn1
    have hz : ∀ (n1 : Nat) (w1 : World), n1 ≤ 4096 → Below ((u.alloc (.cells #[.slice es en ec, .int .i64 vs] 73)).alloc (.cells (stC t.nd.k t.nd.v t.nd.f t.nd.t (.slice sa na ca) (.slice sb nb cb) (.slice sc nc cc)).toArray 66)).heap.size ((u.alloc (.cells #[.slice es en ec, .int .i64 vs] 73)).alloc (.cells (stC t.nd.k t.nd.v t.nd.f t.nd.t (.slice sa na ca) (.slice sb nb cb) (.slice sc nc cc)).toArray 66)) w1 → ∀ x y : Int, x = d → y = n1 → Calls Tryd.prog 35 #[.agg #[.slice es en ec, .int .i64 vs], .slice sc nc cc, .int .i64 x, .int .i64 y] w1 (CtP (fld (stN (fs.map FuT.p) vs d) t.nd.el n1) w1) := fun n1 w1 hn1 hb1 x y hx hy => by
      have hbb := (b0.trans (hb1.mono b0.size)).mono hN
      exact stmts34 hE w1 (hSc.imp hbb (StM.below hbb d)) (by have := hbb.size; omega) (hF.imp hbb (FuM.below hbb)) x y n1 hx hy hn1
    unfold CtP at hx hy hz
    have hle := fun m => fld_le (exN_le (vs := vs) 8) t.nd.a (k - 1) m
    have hle2 := fun n m => fld_le (stN_le (ps := fs.map FuT.p) (vs := vs) d) t.nd.th n m
    clear hE hSa hSb hSc hF
    generalize hdd : ((d + 1 : Nat) : Int) = dd at *
    cases h1 : fld (exN vs 8) t.nd.a (k - 1) with
    | none =>
      rw [h1] at hx
      clear hy hz h0
      unfold stC at *
      go_enter Tryd.func50, Tryd.ntmps50
      go_wp2_with (first
        | (go_at_call 62; go_must (refine hmy.mono ?_; rintro e w1 ⟨rfl, hb1⟩; have s0 := (A.bl hb1).cell 0; have s1 := (A.bl hb1).cell 1; have s4 := (A2.bl hb1).cell 4; replace hx := hx w1 hb1))
        | (go_at_call 63; go_must (refine (hx _ _ rfl rfl).mono ?_; rintro e w2 ⟨rfl, hb2⟩)))
      go_ret2
      have hB := b0.trans (hb1.mono b0.size)
      exact ⟨rfl, hB.trans (hb2.mono hB.size)⟩
    | some n1 =>
      have hn1 : n1 ≤ 4096 := by have := hle n1 h1; omega
      rw [h1] at hx
      replace hy := hy n1
      replace hle2 := hle2 n1
      show Calls _ _ _ _ (CtP ((fld (stN (fs.map FuT.p) vs d) t.nd.th n1).bind (fld (stN (fs.map FuT.p) vs d) t.nd.el)) u)
      cases h2 : fld (stN (fs.map FuT.p) vs d) t.nd.th n1 with
      | none =>
        rw [h2] at hy
        clear hz h0 hle2 hle
        unfold stC at *
        go_enter Tryd.func50, Tryd.ntmps50
        go_wp2_with (first
          | (go_at_call 62; go_must (refine hmy.mono ?_; rintro e w1 ⟨rfl, hb1⟩; have s0 := (A.bl hb1).cell 0; have s1 := (A.bl hb1).cell 1; have s4 := (A2.bl hb1).cell 4; replace hx := hx w1 hb1))
          | (go_at_call 63; go_must (refine (hx _ _ rfl rfl).mono ?_; rintro e w2 ⟨rfl, hb2⟩; have hb12 := hb1.trans (hb2.mono hb1.size); have r0 := (A.bl hb12).cell 0; have r1 := (A.bl hb12).cell 1; have r5 := (A2.bl hb12).cell 5; replace hy := hy w2 hn1 hb12))
          | (go_at_call 35; go_must (refine (hy _ _ rfl rfl).mono ?_; rintro e w3 ⟨rfl, hb3⟩)))
        go_ret2
        have hB := b0.trans (hb12.mono b0.size)
        exact ⟨rfl, hB.trans (hb3.mono hB.size)⟩
      | some n2 =>
        have hn2 : n2 ≤ 4096 := by have := hle2 n2 h2; omega
        rw [h2] at hy
        replace hz := hz n2
        show Calls _ _ _ _ (CtP (fld (stN (fs.map FuT.p) vs d) t.nd.el n2) u)
        generalize fld (stN (fs.map FuT.p) vs d) t.nd.el n2 = r at *
        clear h0 hle2 hle
        unfold stC at *
        go_enter Tryd.func50, Tryd.ntmps50
        go_upto_region 6 with (first
          | (go_at_call 62; go_must (refine hmy.mono ?_; rintro e w1 ⟨rfl, hb1⟩; have s0 := (A.bl hb1).cell 0; have s1 := (A.bl hb1).cell 1; have s4 := (A2.bl hb1).cell 4; replace hx := hx w1 hb1))
          | (go_at_call 63; go_must (refine (hx _ _ rfl rfl).mono ?_; rintro e w2 ⟨rfl, hb2⟩; have hb12 := hb1.trans (hb2.mono hb1.size); have r0 := (A.bl hb12).cell 0; have r1 := (A.bl hb12).cell 1; have r5 := (A2.bl hb12).cell 5; replace hy := hy w2 hn1 hb12)))
        go_upto_region 7 with (go_at_call 35; go_must (refine (hy _ _ rfl rfl).mono ?_; rintro e w3 ⟨rfl, hb3⟩; have hb13 := hb12.trans (hb3.mono hb12.size); have q0 := (A.bl hb13).cell 0; have q1 := (A.bl hb13).cell 1; have q6 := (A2.bl hb13).cell 6; replace hz := hz w3 hn2 hb13; clear hy))
        go_wp2_with (go_at_call 35; go_must (refine (hz _ _ rfl rfl).mono ?_; rintro e w4 ⟨rfl, hb4⟩))
        go_ret2
        have hB := b0.trans (hb13.mono b0.size)
        exact ⟨rfl, hB.trans (hb4.mono hB.size)⟩
theorem stmt_any {N : Nat} {es : Option Addr} {en ec : Nat} {fs : List FuT} {vs : Int} : ∀ d : Nat, d ≤ 100 → StAt N es en ec fs vs d
  | 0, _ => by
    intro u cs t k hk hN hF hM
    obtain ⟨xk, xv, xf, xt, xa, ya, za, xb, yb, zb, xc, yc, zc, rfl⟩ := hM.cells
    have b0 : Below u.heap.size u ((u.alloc (.cells #[.slice es en ec, .int .i64 vs] 73)).alloc (.cells (stC xk xv xf xt (.slice xa ya za) (.slice xb yb zb) (.slice xc yc zc)).toArray 66)) := (ab u _).alloc (by simp) _
    rw [show stN (fs.map FuT.p) vs 0 t k = none from rfl]
    clear hM hF
    unfold stC at *
    go_enter Tryd.func50, Tryd.ntmps50
    go_wp2_with fail
    go_ret2
    exact ⟨rfl, b0⟩
  | d + 1, h => stmt_s (by omega) (stmt_any d (by omega))
end Go.Proofs.YtoopgppahfnncaaDoor
/- Layer ir: what the layers below give. -/
namespace Go.Proofs.YtoopgppahfnncaaDoor
open Go.RowKit
set_option maxRecDepth 100000
set_option linter.unusedVariables false
set_option linter.unusedSimpArgs false

theorem fnN_drop {l : List FuT} {j : Nat} {f : FuT} (h : l[j]? = some f) (k : Nat) : fnN (l.drop j) ((l.take j).map FuT.p) k = if 0 ≤ f.v ∧ f.v ≤ 64 ∧ 0 ≤ f.p ∧ f.p ≤ f.v then (fld (stN ((l.take j).map FuT.p) f.v 8) f.b k).bind (fnN (l.drop (j + 1)) ((l.take (j + 1)).map FuT.p)) else none := by
  obtain ⟨hj, rfl⟩ := List.getElem?_eq_some_iff.1 h
  rw [List.drop_eq_getElem_cons hj, fnN]
  rw [show (l.take (j + 1)).map FuT.p = (l.take j).map FuT.p ++ [l[j].p] by rw [List.take_succ_eq_append_getElem hj, List.map_append]; rfl]
set_option maxHeartbeats 2000000 in
theorem nodes_any {N : Nat} {cs : List Value} (p : PgT) (w : World) (hM : PgM N w cs p) (hN : N ≤ w.heap.size) :
    Calls Tryd.prog 24 #[.agg cs.toArray] w (CtP ((pgN p).map (4096 - ·)) w) := by
  obtain ⟨sp, n, cap, rfl, hda, hS⟩ := hM
  have b0 := ab w (.cells #[.slice sp n cap, .int .i64 p.da] 24)
  have A := Arr.new w 24 #[.slice sp n cap, .int .i64 p.da]
  have hbg := beg_any p (w.alloc (.cells #[.slice sp n cap, .int .i64 p.da] 24)) (hS.imp (b0.mono hN) (FuM.below (b0.mono hN))) (by simp; omega)
  unfold BoP at hbg
  cases hb : begB p with
  | false =>
    have e : pgN p = none := by unfold pgN; rw [hb, if_neg (by decide)]
    rw [e]
    rw [hb] at hbg
    clear hS hda
    go_enter Tryd.func24, Tryd.ntmps24
    go_wp2_with (go_at_call 34; go_must (refine hbg.mono ?_; rintro e w1 ⟨rfl, hb1⟩))
    go_ret2
    exact ⟨rfl, b0.trans (hb1.mono b0.size)⟩
  | true =>
    have e : pgN p = fnN p.fs [] 4096 := by unfold pgN; rw [hb, if_pos rfl]
    rw [e]
    rw [hb] at hbg
    have hlen := hS.len
    have hsm := hS.small
    obtain ⟨r, hr⟩ : ∃ r, r = fnN p.fs [] 4096 := ⟨_, rfl⟩
    rw [← hr]
    replace hr := hid hr
    go_enter Tryd.func24, Tryd.ntmps24
    go_upto_region 5 with (go_at_call 34; go_must (refine hbg.mono ?_; rintro e w1 ⟨rfl, hb1⟩; have A1 := A.bl hb1; have k0 := A1.cell 0))
    have B1 := b0.trans (hb1.mono b0.size)
    have hw1 : w.heap.size < w1.heap.size := A1.lt
    clear hbg hb
    go_loopw [4, 16] (fun a i wr => ∃ (j k : Nat), a = .int .i64 (k : Int) ∧ i = .int .i64 (j : Int) ∧ j ≤ n ∧ k ≤ 4096 ∧ Hid (r = fnN (p.fs.drop j) ((p.fs.take j).map FuT.p) k) ∧ Below w1.heap.size w1 wr)
      (fun _ i _ => n - (intOf i).toNat)
    case atStart => exact ⟨0, 4096, rfl, rfl, by omega, by omega, hr, Below.refl _ _⟩
    case round =>
      obtain ⟨j, k, rfl, rfl, hj, hk, hf, hbw⟩ := hrel
      have A2 := A1.bl hbw
      have B2 := B1.trans (hbw.mono B1.size)
      by_cases hlt : j < n
      · obtain ⟨f, ht⟩ : ∃ t, p.fs[j]? = some t := ⟨p.fs[j]'(by rw [← hlen.out]; exact hlt), List.getElem?_eq_getElem _⟩
        have hfd := fnN_drop ht k
        have hS2 := hS.imp (B2.mono hN) (FuM.below (B2.mono hN))
        obtain ⟨g, off, rfl, hg, hR⟩ := hS2.at0 (by omega)
        obtain ⟨cs, hrg, hM⟩ := hR j f ht
        obtain ⟨sq, m, cq, rfl, ⟨hfp, hfv⟩, hSb⟩ := hM
        have c0 := hrg 0 _ rfl
        have c1 := hrg 1 _ rfl
        have c2 := hrg 2 _ rfl
        simp only [Nat.add_zero] at c0
        have hlt' : (j : Int) < n := by omega
        have h0 : (0 : Int) ≤ j := by omega
        by_cases hcond : 0 ≤ f.v ∧ f.v ≤ 64 ∧ 0 ≤ f.p ∧ f.p ≤ f.v
        · rw [if_pos hcond] at hfd
          obtain ⟨d1, d2, d3, d4⟩ := hcond
          have n1 : ¬ f.v < 0 := by omega
          have n2 : ¬ 64 < f.v := by omega
          have n3 : ¬ f.p < 0 := by omega
          have n4 : ¬ f.v < f.p := by omega
          have hcj : j ≤ cap := by have := hS.le; omega
          have hcj' : (j : Int) ≤ cap := by omega
          have A3 := A2.alloc (.cells (fuC f.p f.v (.slice sq m cq)).toArray 40)
          have F3 := Arr.new wr 40 (fuC f.p f.v (.slice sq m cq)).toArray
          have p0 := A3.cell 0
          have p1 := F3.cell 1
          have p2 := fun o => (A3.alloc o).cell 0
          have p3 := fun o => (F3.alloc o).cell 1
          have hB3 : Below w1.heap.size w1 (wr.alloc (.cells (fuC f.p f.v (.slice sq m cq)).toArray 40)) := hbw.alloc hbw.size _
          clear hR hrg
          unfold fuC at *
          go_upto_region 9 with fail
          go_region
          have hNw : N ≤ wr.heap.size := by have := B2.size; omega
          have hW4 : Below wr.heap.size wr ((wr.alloc (.cells #[.int .i64 f.p, .int .i64 f.v, .slice sq m cq] 40)).alloc (.cells #[.slice (some ⟨g, off, none⟩) j cap, .int .i64 f.v] 73)).drew := dw1 ((ab wr _).alloc (by simp) _)
          have S4 : Arr ((wr.alloc (.cells #[.int .i64 f.p, .int .i64 f.v, .slice sq m cq] 40)).alloc (.cells #[.slice (some ⟨g, off, none⟩) j cap, .int .i64 f.v] 73)).drew (wr.heap.size + 1) 73 #[.slice (some ⟨g, off, none⟩) j cap, .int .i64 f.v] := by
            have h := (Arr.new (wr.alloc (.cells #[.int .i64 f.p, .int .i64 f.v, .slice sq m cq] 40)) 73 #[.slice (some ⟨g, off, none⟩) j cap, .int .i64 f.v]).drew
            simp only [World.size_alloc] at h
            exact h
          have F4 := (F3.alloc (.cells #[.slice (some ⟨g, off, none⟩) j cap, .int .i64 f.v] 73)).drew
          have hB4 : Below w1.heap.size w1 ((wr.alloc (.cells #[.int .i64 f.p, .int .i64 f.v, .slice sq m cq] 40)).alloc (.cells #[.slice (some ⟨g, off, none⟩) j cap, .int .i64 f.v] 73)).drew := hbw.trans (hW4.mono hbw.size)
          have hst := stmts34 (stmt_any (N := N) (es := some ⟨g, off, none⟩) (en := j) (ec := cap) (fs := p.fs.take j) (vs := f.v) 8 (by omega)) _ (hSb.imp (hW4.mono hNw) (StM.below (hW4.mono hNw) 8)) (by have := hW4.size; omega) ((hS2.take (by omega)).imp (hW4.mono hNw) (FuM.below (hW4.mono hNw))) _ _ k rfl rfl hk
          generalize ((wr.alloc (.cells #[.int .i64 f.p, .int .i64 f.v, .slice sq m cq] 40)).alloc (.cells #[.slice (some ⟨g, off, none⟩) j cap, .int .i64 f.v] 73)).drew = W4 at *
          have q0 := S4.cell 0
          have q1 := S4.cell 1
          have q2 := F4.cell 2
          unfold CtP at hst
          clear p0 p1 p2 p3 A3 F3 hS hS2 hSb hB3 S4 F4 hW4 c0 c1 c2 ht
          cases hx : fld (stN ((p.fs.take j).map FuT.p) f.v 8) f.b k with
          | none =>
            rw [hx] at hst hfd
            have hrn : Hid (r = none) := hid (hf.out.trans hfd)
            clear hx hfd hf
            go_wp2_with (go_at_call 35; go_must (refine hst.mono ?_; rintro e w5 ⟨rfl, hb5⟩))
            go_ret2
            rw [hrn.out]
            have B4 := B1.trans (hB4.mono B1.size)
            exact ⟨rfl, B4.trans (hb5.mono B4.size)⟩
          | some k' =>
            have hk' : k' ≤ k := fld_le (stN_le 8) _ _ _ hx
            rw [hx] at hst hfd
            have hrn : Hid (r = fnN (p.fs.drop (j + 1)) ((p.fs.take (j + 1)).map FuT.p) k') := hid (hf.out.trans hfd)
            clear hx hfd hf
            go_wp2_with (go_at_call 35; go_must (refine hst.mono ?_; rintro e w5 ⟨rfl, hb5⟩))
            go_roundw
            case rel => exact ⟨j + 1, k', rfl, by go_num, by omega, by omega, hrn, hB4.trans (hb5.mono hB4.size)⟩
            case measure => simp [intOf]; omega
        · rw [if_neg hcond] at hfd
          have hrn : Hid (r = none) := hid (hf.out.trans hfd)
          have hc2 : Hid (¬ (0 ≤ f.v ∧ f.v ≤ 64 ∧ 0 ≤ f.p ∧ f.p ≤ f.v)) := hid hcond
          have hB3 := fun o => B2.alloc B2.size o
          clear hR hrg hfd hf hcond hS hS2 hSb ht
          unfold fuC at *
          go_upto_region 7 with fail
          by_cases d1 : f.v < 0
          · go_wp2_with fail
            go_ret2
            rw [hrn.out]
            exact ⟨rfl, hB3 _⟩
          by_cases d2 : 64 < f.v
          · go_wp2_with fail
            go_ret2
            rw [hrn.out]
            exact ⟨rfl, hB3 _⟩
          by_cases d3 : f.p < 0
          · go_wp2_with fail
            go_ret2
            rw [hrn.out]
            exact ⟨rfl, hB3 _⟩
          have d4 : f.v < f.p := by have := hc2.out; omega
          go_wp2_with fail
          go_ret2
          rw [hrn.out]
          exact ⟨rfl, hB3 _⟩
      · obtain rfl : j = n := by omega
        have hrn : Hid (r = some k) := hid (by rw [hf.out, hlen.out, List.drop_length]; rfl)
        have hsub : IntKind.i64.wrap (4096 - (k : Int)) = ((4096 - k : Nat) : Int) := by rw [IntKind.wrap_i64]; omega
        clear hS hf hlen
        go_wp2_with fail
        go_ret2
        rw [hrn.out]
        exact ⟨rfl, B2⟩
theorem may_any {N : Nat} {cs : List Value} (p : PgT) (w : World) (hM : PgM N w cs p) (hN : N ≤ w.heap.size) :
    Calls Tryd.prog 10 #[.agg cs.toArray] w (BoP (pgN p).isSome w) := by
  obtain ⟨sp, n, cap, rfl, hda, hS⟩ := id hM
  have b0 := ab w (.cells #[.slice sp n cap, .int .i64 p.da] 24)
  have hn := nodes_any p (w.alloc (.cells #[.slice sp n cap, .int .i64 p.da] 24)) (PgM.below (b0.mono hN) _ p hM) (by simp; omega)
  unfold CtP at hn
  rw [show ((pgN p).map (4096 - ·)).isSome = (pgN p).isSome by cases pgN p <;> rfl] at hn
  generalize (pgN p).isSome = r at *
  clear hM hS
  go_enter Tryd.func10, Tryd.ntmps10
  go_wp2_with (go_at_call 24; go_must (refine hn.mono ?_; rintro e w1 ⟨rfl, hb1⟩))
  go_ret
  exact ⟨rfl, b0.trans (hb1.mono b0.size)⟩
end Go.Proofs.YtoopgppahfnncaaDoor
/- Layer ir: what the layers below give. -/
namespace Go.Proofs.YtoopgppahfnncaaDoor
open Go.RowKit
set_option maxRecDepth 100000
set_option linter.unusedVariables false
set_option linter.unusedSimpArgs false

def nmB (k : Int) : Bool := (k == 1) || ((k == 6) || ((k == 8) || (k == 9)))
/-- Is something wrong with a statement's own numbers? -/
def g1 {α : Type} (vs : Int) (s : StN α) : Bool := decide (s.v < 0) || ((nmB s.k && decide (vs ≤ s.v)) || (!nmB s.k && (s.v != 0)))
def g2 {α : Type} (s : StN α) : Bool := ((s.k != 6) && (s.f != 0)) || (((s.k != 7) && (s.t != 0)) || ((((s.k != 3) && (s.k != 4)) && decide (0 < (s.th.length : Int))) || ((s.k != 3) && decide (0 < (s.el.length : Int)))))
def g3 {α : Type} (ps : List Int) (s : StN α) : Int :=
  if s.k = 1 ∨ s.k = 3 ∨ s.k = 4 ∨ s.k = 5 ∨ s.k = 9 then 1 else if s.k = 2 ∨ s.k = 8 then 2
  else if s.k = 6 then (if s.f < 0 ∨ (ps.length : Int) ≤ s.f then -1 else ps.getD s.f.toNat 0)
  else if s.k = 7 then (if s.t < 0 ∨ 256 < s.t then -1 else 3) else -1
def agN {α : Type} (ps : List Int) (vs : Int) (s : StN α) : Int := if g1 vs s = true then -1 else if g2 s = true then -1 else g3 ps s
theorem mayS_a {α : Type} {ps : List Int} {vs : Int} {s : StN α} : mayS ps vs s = true ↔ agN ps vs s = s.a.length := by
  obtain ⟨k, v, f, t, a, th, el⟩ := s
  have ha : (0 : Int) ≤ a.length := by omega
  have hth : (0 : Int) ≤ th.length := by omega
  have hel : (0 : Int) ≤ el.length := by omega
  unfold mayS agN g1 g2 g3 nmB tkB
  dsimp only
  generalize (a.length : Int) = A at *
  generalize (th.length : Int) = TH at *
  generalize (el.length : Int) = EL at *
  generalize ps.getD f.toNat 0 = P at *
  generalize (ps.length : Int) = PL at *
  by_cases h1 : k = 1
  · subst h1; simp; omega
  by_cases h2 : k = 2
  · subst h2; simp; omega
  by_cases h3 : k = 3
  · subst h3; simp; omega
  by_cases h4 : k = 4
  · subst h4; simp; omega
  by_cases h5 : k = 5
  · subst h5; simp; omega
  by_cases h6 : k = 6
  · subst h6; simp; omega
  by_cases h7 : k = 7
  · subst h7; simp; omega
  by_cases h8 : k = 8
  · subst h8; simp; omega
  by_cases h9 : k = 9
  · subst h9; simp; omega
  · simp [h1, h2, h3, h4, h5, h6, h7, h8, h9]; omega
end Go.Proofs.YtoopgppahfnncaaDoor
/- Layer ir: what the layers below give. -/
namespace Go.Proofs.YtoopgppahfnncaaDoor
open Go.RowKit
set_option maxRecDepth 100000
set_option linter.unusedVariables false
set_option linter.unusedSimpArgs false

theorem stN_f {ps : List Int} {vs : Int} {d : Nat} {t : StT (d + 1)} {n : Nat} (hn : n ≠ 0) : stN ps vs (d + 1) t n = if agN ps vs t.nd = t.nd.a.length then ((fld (exN vs 8) t.nd.a (n - 1)).bind (fld (stN ps vs d) t.nd.th)).bind (fld (stN ps vs d) t.nd.el) else none := by
  have e : stN ps vs (d + 1) t n = if n = 0 ∨ mayS ps vs t.nd = false then none else (fld (exN vs 8) t.nd.a (n - 1)).bind fun n1 => (fld (stN ps vs d) t.nd.th n1).bind (fld (stN ps vs d) t.nd.el) := rfl
  rw [e]
  have hm := mayS_a (ps := ps) (vs := vs) (s := t.nd)
  by_cases h1 : agN ps vs t.nd = t.nd.a.length
  · rw [if_pos h1, if_neg]
    · cases fld (exN vs 8) t.nd.a (n - 1) <;> rfl
    · rintro (h | h)
      · exact hn h
      · rw [hm.2 h1] at h; cases h
  · rw [if_neg h1, if_pos]
    right
    cases h3 : mayS ps vs t.nd with
    | false => rfl
    | true => exact absurd (hm.1 h3) h1
def DsAt (N : Nat) (sp : Option Addr) (n cap : Nat) (fs : List FuT) (da vs : Int) (fi d : Nat) : Prop := ∀ (u : World) (cs : List Value) (t : StT d) (k : Nat), k ≤ 4096 → N ≤ u.heap.size → RS N u 3 (FuM N u) sp n cap fs → StM N u d cs t →
  Calls Tryd.prog 51 #[.agg #[.slice sp n cap, .int .i64 da], .int .i64 (fi : Int), .agg cs.toArray, .int .i64 (k : Int), .int .i64 (d : Int)] u (DoP (stN ((fs.take fi).map FuT.p) vs d t k) u)
set_option maxHeartbeats 2000000 in
theorem dstmts {N d : Nat} {sp : Option Addr} {n cap : Nat} {fs : List FuT} {da vs : Int} {fi : Nat} (hE : DsAt N sp n cap fs da vs fi d) (w : World) {sq : Option Addr} {m cq : Nat} {l : List (StT d)} (hS : RS N w 7 (StM N w d) sq m cq l) (hN : N ≤ w.heap.size) (hF : RS N w 3 (FuM N w) sp n cap fs) (q : Option Nat) (hq : ∀ k, q = some k → k ≤ 4096) (x y : Int) (hx : x = doR q) (hy : y = d) :
    Calls Tryd.prog 36 #[.agg #[.slice sp n cap, .int .i64 da], .int .i64 (fi : Int), .slice sq m cq, .int .i64 x, .int .i64 y] w (DoP (q.bind (fld (stN ((fs.take fi).map FuT.p) vs d) l)) w) := by
  subst hx hy
  have b0 := ab w (.cells #[.slice sp n cap, .int .i64 da] 24)
  have A := Arr.new w 24 #[.slice sp n cap, .int .i64 da]
  have hlen := hS.len
  have hsm := hS.small
  obtain ⟨r, hr⟩ : ∃ r, r = q.bind (fld (stN ((fs.take fi).map FuT.p) vs d) l) := ⟨_, rfl⟩
  rw [← hr]
  replace hr := hid hr
  have hNU : N ≤ (w.alloc (.cells #[.slice sp n cap, .int .i64 da] 24)).heap.size := by simp; omega
  have hSU := hS.imp (b0.mono hN) (StM.below (b0.mono hN) d)
  have hFU := hF.imp (b0.mono hN) (FuM.below (b0.mono hN))
  clear hS hF
  go_enter Tryd.func36, Tryd.ntmps36
  go_upto_region 2 with fail
  generalize hU : w.alloc (.cells #[.slice sp n cap, .int .i64 da] 24) = U at *
  go_loopw [3, 11] (fun a i wr => ∃ (j : Nat), i = .int .i64 (j : Int) ∧ j ≤ m ∧ ((∃ q : Nat, q ≤ 4096 ∧ a = .int .i64 (q : Int) ∧ Hid (r = fld (stN ((fs.take fi).map FuT.p) vs d) (l.drop j) q)) ∨ (a = .int .i64 (-1) ∧ Hid (r = none))) ∧ Below U.heap.size U wr)
    (fun _ i _ => m - (intOf i).toNat)
  case atStart =>
    refine ⟨0, rfl, by omega, ?_, Below.refl _ _⟩
    cases q with
    | none => exact .inr ⟨rfl, hr⟩
    | some k => exact .inl ⟨k, hq k rfl, rfl, hid (by rw [List.drop_zero]; exact hr.out)⟩
  case round =>
    obtain ⟨j, rfl, hj, hqq, hb⟩ := hrel
    have B2 := b0.trans (hb.mono b0.size)
    rcases hqq with ⟨q, hq, rfl, hf⟩ | ⟨rfl, hf⟩
    · have hq0 : (0 : Int) ≤ q := by omega
      by_cases hlt : j < m
      · obtain ⟨t, ht⟩ : ∃ t, l[j]? = some t := ⟨l[j]'(by rw [← hlen.out]; exact hlt), List.getElem?_eq_getElem _⟩
        obtain ⟨g, off, rfl, hg, hR⟩ := hSU.at0 (by omega)
        obtain ⟨cs, hrg, hM⟩ := hR j t ht
        have hrg2 := rb hrg hb (by omega)
        have hM2 := StM.below (hb.mono hNU) d cs t hM
        have hF2 := hFU.imp (hb.mono hNU) (FuM.below (hb.mono hNU))
        obtain ⟨xk, xv, xf, xt, xa, ya, za, xb, yb, zb, xc, yc, zc, rfl⟩ := hM.cells
        have c0 := hrg2 0 _ rfl
        have c1 := hrg2 1 _ rfl
        have c2 := hrg2 2 _ rfl
        have c3 := hrg2 3 _ rfl
        have c4 := hrg2 4 _ rfl
        have c5 := hrg2 5 _ rfl
        have c6 := hrg2 6 _ rfl
        simp only [Nat.add_zero] at c0
        have a0 := (A.bl hb).cell 0
        have a1 := (A.bl hb).cell 1
        have hlt' : (j : Int) < m := by omega
        have h0 : (0 : Int) ≤ j := by omega
        have hfd := fld_drop (f := stN ((fs.take fi).map FuT.p) vs d) ht q
        have bd : Below wr.heap.size wr wr.drew := dw1 (Below.refl _ _)
        have hcc := hE wr.drew _ t q hq (by have := hb.size; show N ≤ wr.heap.size; omega) (hF2.imp (bd.mono (by have := hb.size; omega)) (FuM.below (bd.mono (by have := hb.size; omega)))) (StM.below (bd.mono (by have := hb.size; omega)) d _ t hM2)
        unfold DoP at hcc
        clear hSU hR hrg hrg2 hM hM2 hlen ht hE A hFU hF2 hr
        cases hx : stN ((fs.take fi).map FuT.p) vs d t q with
        | none =>
          rw [hx] at hcc hfd
          have hrn : Hid (r = none) := hid (hf.out.trans hfd)
          clear hx hfd hf
          unfold stC at *
          go_upto_region 4 with fail
          go_region_with (go_at_call 51; go_must (refine hcc.mono ?_; rintro e w1 ⟨rfl, hb1⟩))
          all_goals
            go_wp2_with fail
            go_roundw
            case rel => exact ⟨j + 1, by go_num, by omega, .inr ⟨rfl, hrn⟩, hb.trans ((bd.trans hb1).mono hb.size)⟩
            case measure => simp [intOf]; omega
        | some q' =>
          have hq' := stN_le d t q q' hx
          rw [hx] at hcc hfd
          have hrn : Hid (r = fld (stN ((fs.take fi).map FuT.p) vs d) (l.drop (j + 1)) q') := hid (hf.out.trans hfd)
          clear hx hfd hf
          unfold stC at *
          go_upto_region 4 with fail
          go_region_with (go_at_call 51; go_must (refine hcc.mono ?_; rintro e w1 ⟨rfl, hb1⟩))
          all_goals
            go_wp2_with fail
            go_roundw
            case rel => exact ⟨j + 1, by go_num, by omega, .inl ⟨q', by omega, rfl, hrn⟩, hb.trans ((bd.trans hb1).mono hb.size)⟩
            case measure => simp [intOf]; omega
      · obtain rfl : j = m := by omega
        have hrn : Hid (r = some q) := hid (by rw [hf.out, hlen.out, List.drop_length]; rfl)
        have hlt' : ¬ (j : Int) < j := by omega
        clear hSU hf hlen hE hFU hr
        go_wp2_with fail
        go_ret
        rw [hrn.out]
        exact ⟨rfl, B2⟩
    · clear hSU hlen hE hFU hr
      by_cases hlt : j < m
      · have hlt' : (j : Int) < m := by omega
        go_wp2_with fail
        go_ret
        rw [hf.out]
        exact ⟨rfl, B2⟩
      · have hlt' : ¬ (j : Int) < m := by omega
        go_wp2_with fail
        go_ret
        rw [hf.out]
        exact ⟨rfl, B2⟩
end Go.Proofs.YtoopgppahfnncaaDoor
