/- Is6x, Is7x, Is8x, Is9x, Is. -/
import Derived.Test.YtoopgppahfnncaaDoorX02
import Derived.Test.YtoopgppahfnncaaDoorX08
import Derived.Test.YtoopgppahfnncaaDoorX09
import Derived.BigQuiet
import Derived.BigRegion
import Derived.ChangeKeysEq
import Derived.ChangeOld
import Derived.Deep.DeepCutAuto
import Derived.Deep.DrawnRows
import Derived.Deep.MidRow
import Derived.Deep.OwnRows
import Derived.Deep.QuietTactic
import Derived.Deep.RegionHeld3
import Derived.Deep.RegionLaw
import Derived.Deep.RegionWith
import Derived.Deep.WholeRow
import Derived.DeepKeys3
import Derived.Great.BuildSlice
import Derived.Great.FillDense
import Derived.Handy
import Derived.Laws.AppendOwnNone
import Derived.Laws.BitsLemmas
import Derived.Laws.BytesArg
import Derived.Laws.CopyOwn
import Derived.Laws.OwnMore
import Derived.Laws.ResultCell
import Derived.Laws.Tables
import Derived.Lib.SlBytesConst
import Derived.LoopIn
import Derived.LoopNIn
import Derived.LoopTactic
import Derived.Maps.AppendAt
import Derived.OpenShut
import Derived.OwnWalkIn
import Derived.ProofKit
import Derived.RangeFuncBound
import Derived.RangeFuncCalls
import Derived.RangeFuncLeaves
import Derived.RangeFuncNested
import Derived.RangeFuncRecord
import Derived.Recover
import Derived.Shelf.Abstract
import Derived.Shelf.RegionOpen
import Derived.ShutString
import Derived.SizedLaws
import Derived.TacticsInMore
import Derived.WalkKit
import Derived.WalkLawsBesides
import Derived.WalkSpells
import Derived.Test.YtoopgppahfnncaaDoorX10
/- Layer ir: what the layers below give. -/
namespace Go.Proofs.YtoopgppahfnncaaDoor
open Go.RowKit
set_option maxRecDepth 100000
set_option linter.unusedVariables false
set_option linter.unusedSimpArgs false

set_option maxHeartbeats 4000000 in
theorem args_6 {α : Type} {N : Nat} {sp : Option Addr} {n cap : Nat} {fs : List FuT} {da vs : Int} {fi : Nat} {fn : FuT} (w : World) (hS : RS N w 3 (FuM N w) sp n cap fs) (hN : N ≤ w.heap.size) (hfi : fs[fi]? = some fn) (hvs : fn.v = vs) (v f t : Int) (a : List (ExT 8)) (th el : List α) (sa : Option Addr) (na ca : Nat) (sb : Option Addr) (nb cb : Nat) (sc : Option Addr) (nc cc : Nat) (hth : nb = th.length) (hel : nc = el.length) :
    Calls Tryd.prog 64 #[.agg #[.slice sp n cap, .int .i64 da], .int .i64 (fi : Int), .agg (stC 6 v f t (.slice sa na ca) (.slice sb nb cb) (.slice sc nc cc)).toArray] w (fun e w' => e = .returned (.int .i64 (agN ((fs.take fi).map FuT.p) vs (⟨6, v, f, t, a, th, el⟩ : StN α))) ∧ Below w.heap.size w w') := by
  have b0 : Below w.heap.size w ((w.alloc (.cells #[.slice sp n cap, .int .i64 da] 24)).alloc (.cells (stC 6 v f t (.slice sa na ca) (.slice sb nb cb) (.slice sc nc cc)).toArray 66)) := (ab w _).alloc (by simp) _
  have hlen := hS.len.out
  have hfl := (List.getElem?_eq_some_iff.1 hfi).1
  have hin : fi < n := by omega
  have hin' : (fi : Int) < n := by omega
  have hpl : ((fs.take fi).map FuT.p).length = fi := by rw [List.length_map, List.length_take]; omega
  obtain ⟨g, off, rfl, hg, hR⟩ := hS.at0 (by omega)
  obtain ⟨cf, hrg, hMf⟩ := hR fi fn hfi
  obtain ⟨qa, qb, qc, rfl, -, -⟩ := hMf
  have hrg2 := rb hrg (b0.mono hN) hg
  have cv : ((w.alloc (.cells #[.slice (some ⟨g, off, none⟩) n cap, .int .i64 da] 24)).alloc (.cells (stC 6 v f t (.slice sa na ca) (.slice sb nb cb) (.slice sc nc cc)).toArray 66)).cell? ⟨g, off + fi * 3 + 1, none⟩ = some (.int .i64 vs) := by rw [← hvs]; exact hrg2 1 _ rfl
  obtain ⟨z, hz⟩ : ∃ z, z = agN ((fs.take fi).map FuT.p) vs (⟨6, v, f, t, a, th, el⟩ : StN α) := ⟨_, rfl⟩
  rw [← hz]
  have hz2 := hz
  unfold agN g1 g2 g3 nmB at hz2
  dsimp only at hz2
  rw [← hth, ← hel, hpl] at hz2
  replace hz2 := hid hz2
  have hcp : ∀ j : Nat, j < fi → w.cell? ⟨g, off + j * 3, none⟩ = some (.int .i64 (((fs.take fi).map FuT.p).getD j 0)) := fun j hj => by
    obtain ⟨t, ht⟩ : ∃ t, fs[j]? = some t := ⟨fs[j]'(by omega), List.getElem?_eq_getElem _⟩
    obtain ⟨cj, hrj, hMj⟩ := hR j t ht
    obtain ⟨ra, rb', rc, rfl, -, -⟩ := hMj
    have h0 := hrj 0 _ rfl
    rw [show ((fs.take fi).map FuT.p).getD j 0 = t.p by simp [List.getD, List.getElem?_take_of_lt hj, ht]]
    exact h0
  have hgw : g < w.heap.size := by omega
  clear hS hR hrg hrg2 hlen hfl hfi hvs hz hpl hN hth hel
  unfold stC at *
  by_cases c0 : v < 0
  · have hzz : Hid (z = -1) := hid (by have h := hz2.out; rw [h]; simp at c0 ⊢; omega)
    clear hz2
    go_enter Tryd.func64, Tryd.ntmps64
    go_upto_region 2 with fail
    go_quiet (fail)
    go_wp2_with fail
    go_ret
    rw [hzz.out]
    exact ⟨rfl, dwN ((ab w _).alloc (by simp) _) _⟩
  by_cases c1 : vs ≤ v
  · have hzz : Hid (z = -1) := hid (by have h := hz2.out; rw [h]; simp at c0 c1 ⊢; omega)
    clear hz2
    go_enter Tryd.func64, Tryd.ntmps64
    go_upto_region 2 with fail
    go_quiet (fail)
    go_wp2_with fail
    go_ret
    rw [hzz.out]
    exact ⟨rfl, dwN ((ab w _).alloc (by simp) _) _⟩
  by_cases c2 : (t != 0) = true
  · have hzz : Hid (z = -1) := hid (by have h := hz2.out; rw [h]; simp at c0 c1 c2 ⊢; omega)
    clear hz2
    go_enter Tryd.func64, Tryd.ntmps64
    go_upto_region 2 with fail
    go_quiet (fail)
    go_wp2_with fail
    go_ret
    rw [hzz.out]
    exact ⟨rfl, dwN ((ab w _).alloc (by simp) _) _⟩
  replace c2 : (t != 0) = false := by simpa using c2
  by_cases c3 : 0 < (nb : Int)
  · have hzz : Hid (z = -1) := hid (by have h := hz2.out; rw [h]; simp at c0 c1 c2 c3 ⊢; omega)
    clear hz2
    go_enter Tryd.func64, Tryd.ntmps64
    go_upto_region 2 with fail
    go_quiet (fail)
    go_wp2_with fail
    go_ret
    rw [hzz.out]
    exact ⟨rfl, dwN ((ab w _).alloc (by simp) _) _⟩
  by_cases c4 : 0 < (nc : Int)
  · have hzz : Hid (z = -1) := hid (by have h := hz2.out; rw [h]; simp at c0 c1 c2 c3 c4 ⊢; omega)
    clear hz2
    go_enter Tryd.func64, Tryd.ntmps64
    go_upto_region 2 with fail
    go_quiet (fail)
    go_wp2_with fail
    go_ret
    rw [hzz.out]
    exact ⟨rfl, dwN ((ab w _).alloc (by simp) _) _⟩
  by_cases c5 : f < 0
  · have hzz : Hid (z = -1) := hid (by have h := hz2.out; rw [h]; simp at c0 c1 c2 c3 c4 c5 ⊢; omega)
    clear hz2
    go_enter Tryd.func64, Tryd.ntmps64
    go_upto_region 2 with fail
    go_quiet (fail)
    go_wp2_with fail
    go_ret
    rw [hzz.out]
    exact ⟨rfl, dwN ((ab w _).alloc (by simp) _) _⟩
  by_cases c6 : (fi : Int) ≤ f
  · have hzz : Hid (z = -1) := hid (by have h := hz2.out; rw [h]; simp at c0 c1 c2 c3 c4 c5 c6 ⊢; omega)
    clear hz2
    go_enter Tryd.func64, Tryd.ntmps64
    go_upto_region 2 with fail
    go_quiet (fail)
    go_wp2_with fail
    go_ret
    rw [hzz.out]
    exact ⟨rfl, dwN ((ab w _).alloc (by simp) _) _⟩
  obtain ⟨j, hj⟩ : ∃ j : Nat, f = j := ⟨f.toNat, by omega⟩
  subst hj
  have hjf : j < fi := by omega
  have cj : ∀ (C : Array Value) (q : Nat), (((w.alloc (.cells #[.slice (some ⟨g, off, none⟩) n cap, .int .i64 da] 24)).alloc (.cells C 66)).drewN q).cell? ⟨g, off + j * 3, none⟩ = some (.int .i64 (((fs.take fi).map FuT.p).getD j 0)) := fun C q => (World.cell?_alloc_lt _ _ _ (by simp; omega)).trans ((World.cell?_alloc_lt _ _ _ hgw).trans (hcp j hjf))
  have hjn : (j : Int) < n := by omega
  have hjn2 : j < n := by omega
  have hzz : Hid (z = ((fs.take fi).map FuT.p).getD j 0) := hid (by have h := hz2.out; rw [h]; rw [show (j : Int).toNat = j by omega]; generalize ((fs.take fi).map FuT.p).getD j 0 = P at *; clear hcp cj; simp at c0 c1 c2 c3 c4 c5 c6 ⊢; omega)
  generalize ((fs.take fi).map FuT.p).getD j 0 = P at *
  clear hz2 hcp
  go_enter Tryd.func64, Tryd.ntmps64
  go_upto_region 2 with fail
  go_quiet (fail)
  go_wp2_with fail
  go_ret
  rw [hzz.out]
  exact ⟨rfl, dwN ((ab w _).alloc (by simp) _) _⟩
end Go.Proofs.YtoopgppahfnncaaDoor
/- Layer ir: what the layers below give. -/
namespace Go.Proofs.YtoopgppahfnncaaDoor
open Go.RowKit
set_option maxRecDepth 100000
set_option linter.unusedVariables false
set_option linter.unusedSimpArgs false

set_option maxHeartbeats 4000000 in
theorem args_7 {α : Type} {N : Nat} {sp : Option Addr} {n cap : Nat} {fs : List FuT} {da vs : Int} {fi : Nat} {fn : FuT} (w : World) (hS : RS N w 3 (FuM N w) sp n cap fs) (hN : N ≤ w.heap.size) (hfi : fs[fi]? = some fn) (hvs : fn.v = vs) (v f t : Int) (a : List (ExT 8)) (th el : List α) (sa : Option Addr) (na ca : Nat) (sb : Option Addr) (nb cb : Nat) (sc : Option Addr) (nc cc : Nat) (hth : nb = th.length) (hel : nc = el.length) :
    Calls Tryd.prog 64 #[.agg #[.slice sp n cap, .int .i64 da], .int .i64 (fi : Int), .agg (stC 7 v f t (.slice sa na ca) (.slice sb nb cb) (.slice sc nc cc)).toArray] w (fun e w' => e = .returned (.int .i64 (agN ((fs.take fi).map FuT.p) vs (⟨7, v, f, t, a, th, el⟩ : StN α))) ∧ Below w.heap.size w w') := by
  have b0 : Below w.heap.size w ((w.alloc (.cells #[.slice sp n cap, .int .i64 da] 24)).alloc (.cells (stC 7 v f t (.slice sa na ca) (.slice sb nb cb) (.slice sc nc cc)).toArray 66)) := (ab w _).alloc (by simp) _
  have hlen := hS.len.out
  have hfl := (List.getElem?_eq_some_iff.1 hfi).1
  have hin : fi < n := by omega
  have hin' : (fi : Int) < n := by omega
  have hpl : ((fs.take fi).map FuT.p).length = fi := by rw [List.length_map, List.length_take]; omega
  obtain ⟨g, off, rfl, hg, hR⟩ := hS.at0 (by omega)
  obtain ⟨cf, hrg, hMf⟩ := hR fi fn hfi
  obtain ⟨qa, qb, qc, rfl, -, -⟩ := hMf
  have hrg2 := rb hrg (b0.mono hN) hg
  have cv : ((w.alloc (.cells #[.slice (some ⟨g, off, none⟩) n cap, .int .i64 da] 24)).alloc (.cells (stC 7 v f t (.slice sa na ca) (.slice sb nb cb) (.slice sc nc cc)).toArray 66)).cell? ⟨g, off + fi * 3 + 1, none⟩ = some (.int .i64 vs) := by rw [← hvs]; exact hrg2 1 _ rfl
  obtain ⟨z, hz⟩ : ∃ z, z = agN ((fs.take fi).map FuT.p) vs (⟨7, v, f, t, a, th, el⟩ : StN α) := ⟨_, rfl⟩
  rw [← hz]
  have hz2 := hz
  unfold agN g1 g2 g3 nmB at hz2
  dsimp only at hz2
  rw [← hth, ← hel, hpl] at hz2
  replace hz2 := hid hz2
  clear hS hR hrg hrg2 hlen hfl hfi hvs hz hpl hN hth hel
  unfold stC at *
  by_cases c0 : v < 0
  · have hzz : Hid (z = -1) := hid (by have h := hz2.out; rw [h]; simp at c0 ⊢; omega)
    clear hz2
    go_enter Tryd.func64, Tryd.ntmps64
    go_upto_region 2 with fail
    go_quiet (fail)
    go_wp2_with fail
    go_ret
    rw [hzz.out]
    exact ⟨rfl, dwN ((ab w _).alloc (by simp) _) _⟩
  by_cases c1 : (v != 0) = true
  · have hzz : Hid (z = -1) := hid (by have h := hz2.out; rw [h]; simp at c0 c1 ⊢; omega)
    clear hz2
    go_enter Tryd.func64, Tryd.ntmps64
    go_upto_region 2 with fail
    go_quiet (fail)
    go_wp2_with fail
    go_ret
    rw [hzz.out]
    exact ⟨rfl, dwN ((ab w _).alloc (by simp) _) _⟩
  replace c1 : (v != 0) = false := by simpa using c1
  by_cases c2 : (f != 0) = true
  · have hzz : Hid (z = -1) := hid (by have h := hz2.out; rw [h]; simp at c0 c1 c2 ⊢; omega)
    clear hz2
    go_enter Tryd.func64, Tryd.ntmps64
    go_upto_region 2 with fail
    go_quiet (fail)
    go_wp2_with fail
    go_ret
    rw [hzz.out]
    exact ⟨rfl, dwN ((ab w _).alloc (by simp) _) _⟩
  replace c2 : (f != 0) = false := by simpa using c2
  by_cases c3 : 0 < (nb : Int)
  · have hzz : Hid (z = -1) := hid (by have h := hz2.out; rw [h]; simp at c0 c1 c2 c3 ⊢; omega)
    clear hz2
    go_enter Tryd.func64, Tryd.ntmps64
    go_upto_region 2 with fail
    go_quiet (fail)
    go_wp2_with fail
    go_ret
    rw [hzz.out]
    exact ⟨rfl, dwN ((ab w _).alloc (by simp) _) _⟩
  by_cases c4 : 0 < (nc : Int)
  · have hzz : Hid (z = -1) := hid (by have h := hz2.out; rw [h]; simp at c0 c1 c2 c3 c4 ⊢; omega)
    clear hz2
    go_enter Tryd.func64, Tryd.ntmps64
    go_upto_region 2 with fail
    go_quiet (fail)
    go_wp2_with fail
    go_ret
    rw [hzz.out]
    exact ⟨rfl, dwN ((ab w _).alloc (by simp) _) _⟩
  by_cases c5 : t < 0
  · have hzz : Hid (z = -1) := hid (by have h := hz2.out; rw [h]; simp at c0 c1 c2 c3 c4 c5 ⊢; omega)
    clear hz2
    go_enter Tryd.func64, Tryd.ntmps64
    go_upto_region 2 with fail
    go_quiet (fail)
    go_wp2_with fail
    go_ret
    rw [hzz.out]
    exact ⟨rfl, dwN ((ab w _).alloc (by simp) _) _⟩
  by_cases c6 : 256 < t
  · have hzz : Hid (z = -1) := hid (by have h := hz2.out; rw [h]; simp at c0 c1 c2 c3 c4 c5 c6 ⊢; omega)
    clear hz2
    go_enter Tryd.func64, Tryd.ntmps64
    go_upto_region 2 with fail
    go_quiet (fail)
    go_wp2_with fail
    go_ret
    rw [hzz.out]
    exact ⟨rfl, dwN ((ab w _).alloc (by simp) _) _⟩
  have hzz : Hid (z = 3) := hid (by have h := hz2.out; rw [h]; simp at c0 c1 c2 c3 c4 c5 c6 ⊢; omega)
  clear hz2
  go_enter Tryd.func64, Tryd.ntmps64
  go_upto_region 2 with fail
  go_quiet (fail)
  go_wp2_with fail
  go_ret
  rw [hzz.out]
  exact ⟨rfl, dwN ((ab w _).alloc (by simp) _) _⟩
end Go.Proofs.YtoopgppahfnncaaDoor
/- Layer ir: what the layers below give. -/
namespace Go.Proofs.YtoopgppahfnncaaDoor
open Go.RowKit
set_option maxRecDepth 100000
set_option linter.unusedVariables false
set_option linter.unusedSimpArgs false

set_option maxHeartbeats 4000000 in
theorem args_8 {α : Type} {N : Nat} {sp : Option Addr} {n cap : Nat} {fs : List FuT} {da vs : Int} {fi : Nat} {fn : FuT} (w : World) (hS : RS N w 3 (FuM N w) sp n cap fs) (hN : N ≤ w.heap.size) (hfi : fs[fi]? = some fn) (hvs : fn.v = vs) (v f t : Int) (a : List (ExT 8)) (th el : List α) (sa : Option Addr) (na ca : Nat) (sb : Option Addr) (nb cb : Nat) (sc : Option Addr) (nc cc : Nat) (hth : nb = th.length) (hel : nc = el.length) :
    Calls Tryd.prog 64 #[.agg #[.slice sp n cap, .int .i64 da], .int .i64 (fi : Int), .agg (stC 8 v f t (.slice sa na ca) (.slice sb nb cb) (.slice sc nc cc)).toArray] w (fun e w' => e = .returned (.int .i64 (agN ((fs.take fi).map FuT.p) vs (⟨8, v, f, t, a, th, el⟩ : StN α))) ∧ Below w.heap.size w w') := by
  have b0 : Below w.heap.size w ((w.alloc (.cells #[.slice sp n cap, .int .i64 da] 24)).alloc (.cells (stC 8 v f t (.slice sa na ca) (.slice sb nb cb) (.slice sc nc cc)).toArray 66)) := (ab w _).alloc (by simp) _
  have hlen := hS.len.out
  have hfl := (List.getElem?_eq_some_iff.1 hfi).1
  have hin : fi < n := by omega
  have hin' : (fi : Int) < n := by omega
  have hpl : ((fs.take fi).map FuT.p).length = fi := by rw [List.length_map, List.length_take]; omega
  obtain ⟨g, off, rfl, hg, hR⟩ := hS.at0 (by omega)
  obtain ⟨cf, hrg, hMf⟩ := hR fi fn hfi
  obtain ⟨qa, qb, qc, rfl, -, -⟩ := hMf
  have hrg2 := rb hrg (b0.mono hN) hg
  have cv : ((w.alloc (.cells #[.slice (some ⟨g, off, none⟩) n cap, .int .i64 da] 24)).alloc (.cells (stC 8 v f t (.slice sa na ca) (.slice sb nb cb) (.slice sc nc cc)).toArray 66)).cell? ⟨g, off + fi * 3 + 1, none⟩ = some (.int .i64 vs) := by rw [← hvs]; exact hrg2 1 _ rfl
  obtain ⟨z, hz⟩ : ∃ z, z = agN ((fs.take fi).map FuT.p) vs (⟨8, v, f, t, a, th, el⟩ : StN α) := ⟨_, rfl⟩
  rw [← hz]
  have hz2 := hz
  unfold agN g1 g2 g3 nmB at hz2
  dsimp only at hz2
  rw [← hth, ← hel, hpl] at hz2
  replace hz2 := hid hz2
  clear hS hR hrg hrg2 hlen hfl hfi hvs hz hpl hN hth hel
  unfold stC at *
  by_cases c0 : v < 0
  · have hzz : Hid (z = -1) := hid (by have h := hz2.out; rw [h]; simp at c0 ⊢; omega)
    clear hz2
    go_enter Tryd.func64, Tryd.ntmps64
    go_upto_region 2 with fail
    go_quiet (fail)
    go_wp2_with fail
    go_ret
    rw [hzz.out]
    exact ⟨rfl, dwN ((ab w _).alloc (by simp) _) _⟩
  by_cases c1 : vs ≤ v
  · have hzz : Hid (z = -1) := hid (by have h := hz2.out; rw [h]; simp at c0 c1 ⊢; omega)
    clear hz2
    go_enter Tryd.func64, Tryd.ntmps64
    go_upto_region 2 with fail
    go_quiet (fail)
    go_wp2_with fail
    go_ret
    rw [hzz.out]
    exact ⟨rfl, dwN ((ab w _).alloc (by simp) _) _⟩
  by_cases c2 : (f != 0) = true
  · have hzz : Hid (z = -1) := hid (by have h := hz2.out; rw [h]; simp at c0 c1 c2 ⊢; omega)
    clear hz2
    go_enter Tryd.func64, Tryd.ntmps64
    go_upto_region 2 with fail
    go_quiet (fail)
    go_wp2_with fail
    go_ret
    rw [hzz.out]
    exact ⟨rfl, dwN ((ab w _).alloc (by simp) _) _⟩
  replace c2 : (f != 0) = false := by simpa using c2
  by_cases c3 : (t != 0) = true
  · have hzz : Hid (z = -1) := hid (by have h := hz2.out; rw [h]; simp at c0 c1 c2 c3 ⊢; omega)
    clear hz2
    go_enter Tryd.func64, Tryd.ntmps64
    go_upto_region 2 with fail
    go_quiet (fail)
    go_wp2_with fail
    go_ret
    rw [hzz.out]
    exact ⟨rfl, dwN ((ab w _).alloc (by simp) _) _⟩
  replace c3 : (t != 0) = false := by simpa using c3
  by_cases c4 : 0 < (nb : Int)
  · have hzz : Hid (z = -1) := hid (by have h := hz2.out; rw [h]; simp at c0 c1 c2 c3 c4 ⊢; omega)
    clear hz2
    go_enter Tryd.func64, Tryd.ntmps64
    go_upto_region 2 with fail
    go_quiet (fail)
    go_wp2_with fail
    go_ret
    rw [hzz.out]
    exact ⟨rfl, dwN ((ab w _).alloc (by simp) _) _⟩
  by_cases c5 : 0 < (nc : Int)
  · have hzz : Hid (z = -1) := hid (by have h := hz2.out; rw [h]; simp at c0 c1 c2 c3 c4 c5 ⊢; omega)
    clear hz2
    go_enter Tryd.func64, Tryd.ntmps64
    go_upto_region 2 with fail
    go_quiet (fail)
    go_wp2_with fail
    go_ret
    rw [hzz.out]
    exact ⟨rfl, dwN ((ab w _).alloc (by simp) _) _⟩
  have hzz : Hid (z = 2) := hid (by have h := hz2.out; rw [h]; simp at c0 c1 c2 c3 c4 c5 ⊢; omega)
  clear hz2
  go_enter Tryd.func64, Tryd.ntmps64
  go_upto_region 2 with fail
  go_quiet (fail)
  go_wp2_with fail
  go_ret
  rw [hzz.out]
  exact ⟨rfl, dwN ((ab w _).alloc (by simp) _) _⟩
end Go.Proofs.YtoopgppahfnncaaDoor
/- Layer ir: what the layers below give. -/
namespace Go.Proofs.YtoopgppahfnncaaDoor
open Go.RowKit
set_option maxRecDepth 100000
set_option linter.unusedVariables false
set_option linter.unusedSimpArgs false

set_option maxHeartbeats 4000000 in
theorem args_9 {α : Type} {N : Nat} {sp : Option Addr} {n cap : Nat} {fs : List FuT} {da vs : Int} {fi : Nat} {fn : FuT} (w : World) (hS : RS N w 3 (FuM N w) sp n cap fs) (hN : N ≤ w.heap.size) (hfi : fs[fi]? = some fn) (hvs : fn.v = vs) (v f t : Int) (a : List (ExT 8)) (th el : List α) (sa : Option Addr) (na ca : Nat) (sb : Option Addr) (nb cb : Nat) (sc : Option Addr) (nc cc : Nat) (hth : nb = th.length) (hel : nc = el.length) :
    Calls Tryd.prog 64 #[.agg #[.slice sp n cap, .int .i64 da], .int .i64 (fi : Int), .agg (stC 9 v f t (.slice sa na ca) (.slice sb nb cb) (.slice sc nc cc)).toArray] w (fun e w' => e = .returned (.int .i64 (agN ((fs.take fi).map FuT.p) vs (⟨9, v, f, t, a, th, el⟩ : StN α))) ∧ Below w.heap.size w w') := by
  have b0 : Below w.heap.size w ((w.alloc (.cells #[.slice sp n cap, .int .i64 da] 24)).alloc (.cells (stC 9 v f t (.slice sa na ca) (.slice sb nb cb) (.slice sc nc cc)).toArray 66)) := (ab w _).alloc (by simp) _
  have hlen := hS.len.out
  have hfl := (List.getElem?_eq_some_iff.1 hfi).1
  have hin : fi < n := by omega
  have hin' : (fi : Int) < n := by omega
  have hpl : ((fs.take fi).map FuT.p).length = fi := by rw [List.length_map, List.length_take]; omega
  obtain ⟨g, off, rfl, hg, hR⟩ := hS.at0 (by omega)
  obtain ⟨cf, hrg, hMf⟩ := hR fi fn hfi
  obtain ⟨qa, qb, qc, rfl, -, -⟩ := hMf
  have hrg2 := rb hrg (b0.mono hN) hg
  have cv : ((w.alloc (.cells #[.slice (some ⟨g, off, none⟩) n cap, .int .i64 da] 24)).alloc (.cells (stC 9 v f t (.slice sa na ca) (.slice sb nb cb) (.slice sc nc cc)).toArray 66)).cell? ⟨g, off + fi * 3 + 1, none⟩ = some (.int .i64 vs) := by rw [← hvs]; exact hrg2 1 _ rfl
  obtain ⟨z, hz⟩ : ∃ z, z = agN ((fs.take fi).map FuT.p) vs (⟨9, v, f, t, a, th, el⟩ : StN α) := ⟨_, rfl⟩
  rw [← hz]
  have hz2 := hz
  unfold agN g1 g2 g3 nmB at hz2
  dsimp only at hz2
  rw [← hth, ← hel, hpl] at hz2
  replace hz2 := hid hz2
  clear hS hR hrg hrg2 hlen hfl hfi hvs hz hpl hN hth hel
  unfold stC at *
  by_cases c0 : v < 0
  · have hzz : Hid (z = -1) := hid (by have h := hz2.out; rw [h]; simp at c0 ⊢; omega)
    clear hz2
    go_enter Tryd.func64, Tryd.ntmps64
    go_upto_region 2 with fail
    go_quiet (fail)
    go_wp2_with fail
    go_ret
    rw [hzz.out]
    exact ⟨rfl, dwN ((ab w _).alloc (by simp) _) _⟩
  by_cases c1 : vs ≤ v
  · have hzz : Hid (z = -1) := hid (by have h := hz2.out; rw [h]; simp at c0 c1 ⊢; omega)
    clear hz2
    go_enter Tryd.func64, Tryd.ntmps64
    go_upto_region 2 with fail
    go_quiet (fail)
    go_wp2_with fail
    go_ret
    rw [hzz.out]
    exact ⟨rfl, dwN ((ab w _).alloc (by simp) _) _⟩
  by_cases c2 : (f != 0) = true
  · have hzz : Hid (z = -1) := hid (by have h := hz2.out; rw [h]; simp at c0 c1 c2 ⊢; omega)
    clear hz2
    go_enter Tryd.func64, Tryd.ntmps64
    go_upto_region 2 with fail
    go_quiet (fail)
    go_wp2_with fail
    go_ret
    rw [hzz.out]
    exact ⟨rfl, dwN ((ab w _).alloc (by simp) _) _⟩
  replace c2 : (f != 0) = false := by simpa using c2
  by_cases c3 : (t != 0) = true
  · have hzz : Hid (z = -1) := hid (by have h := hz2.out; rw [h]; simp at c0 c1 c2 c3 ⊢; omega)
    clear hz2
    go_enter Tryd.func64, Tryd.ntmps64
    go_upto_region 2 with fail
    go_quiet (fail)
    go_wp2_with fail
    go_ret
    rw [hzz.out]
    exact ⟨rfl, dwN ((ab w _).alloc (by simp) _) _⟩
  replace c3 : (t != 0) = false := by simpa using c3
  by_cases c4 : 0 < (nb : Int)
  · have hzz : Hid (z = -1) := hid (by have h := hz2.out; rw [h]; simp at c0 c1 c2 c3 c4 ⊢; omega)
    clear hz2
    go_enter Tryd.func64, Tryd.ntmps64
    go_upto_region 2 with fail
    go_quiet (fail)
    go_wp2_with fail
    go_ret
    rw [hzz.out]
    exact ⟨rfl, dwN ((ab w _).alloc (by simp) _) _⟩
  by_cases c5 : 0 < (nc : Int)
  · have hzz : Hid (z = -1) := hid (by have h := hz2.out; rw [h]; simp at c0 c1 c2 c3 c4 c5 ⊢; omega)
    clear hz2
    go_enter Tryd.func64, Tryd.ntmps64
    go_upto_region 2 with fail
    go_quiet (fail)
    go_wp2_with fail
    go_ret
    rw [hzz.out]
    exact ⟨rfl, dwN ((ab w _).alloc (by simp) _) _⟩
  have hzz : Hid (z = 1) := hid (by have h := hz2.out; rw [h]; simp at c0 c1 c2 c3 c4 c5 ⊢; omega)
  clear hz2
  go_enter Tryd.func64, Tryd.ntmps64
  go_upto_region 2 with fail
  go_quiet (fail)
  go_wp2_with fail
  go_ret
  rw [hzz.out]
  exact ⟨rfl, dwN ((ab w _).alloc (by simp) _) _⟩
end Go.Proofs.YtoopgppahfnncaaDoor
/- Layer ir: what the layers below give. -/
namespace Go.Proofs.YtoopgppahfnncaaDoor
open Go.RowKit
set_option maxRecDepth 100000
set_option linter.unusedVariables false
set_option linter.unusedSimpArgs false

theorem args_any {α : Type} {N : Nat} {sp : Option Addr} {n cap : Nat} {fs : List FuT} {da vs : Int} {fi : Nat} {fn : FuT} (w : World) (hS : RS N w 3 (FuM N w) sp n cap fs) (hN : N ≤ w.heap.size) (hfi : fs[fi]? = some fn) (hvs : fn.v = vs) (s : StN α) (sa : Option Addr) (na ca : Nat) (sb : Option Addr) (nb cb : Nat) (sc : Option Addr) (nc cc : Nat) (hth : nb = s.th.length) (hel : nc = s.el.length) :
    Calls Tryd.prog 64 #[.agg #[.slice sp n cap, .int .i64 da], .int .i64 (fi : Int), .agg (stC s.k s.v s.f s.t (.slice sa na ca) (.slice sb nb cb) (.slice sc nc cc)).toArray] w (fun e w' => e = .returned (.int .i64 (agN ((fs.take fi).map FuT.p) vs s)) ∧ Below w.heap.size w w') := by
  obtain ⟨k, v, f, t, a, th, el⟩ := s
  by_cases h1 : k = 1
  · subst h1; exact args_1 w hS hN hfi hvs v f t a th el sa na ca sb nb cb sc nc cc hth hel
  by_cases h2 : k = 2
  · subst h2; exact args_2 w hS hN hfi hvs v f t a th el sa na ca sb nb cb sc nc cc hth hel
  by_cases h3 : k = 3
  · subst h3; exact args_3 w hS hN hfi hvs v f t a th el sa na ca sb nb cb sc nc cc hth hel
  by_cases h4 : k = 4
  · subst h4; exact args_4 w hS hN hfi hvs v f t a th el sa na ca sb nb cb sc nc cc hth hel
  by_cases h5 : k = 5
  · subst h5; exact args_5 w hS hN hfi hvs v f t a th el sa na ca sb nb cb sc nc cc hth hel
  by_cases h6 : k = 6
  · subst h6; exact args_6 w hS hN hfi hvs v f t a th el sa na ca sb nb cb sc nc cc hth hel
  by_cases h7 : k = 7
  · subst h7; exact args_7 w hS hN hfi hvs v f t a th el sa na ca sb nb cb sc nc cc hth hel
  by_cases h8 : k = 8
  · subst h8; exact args_8 w hS hN hfi hvs v f t a th el sa na ca sb nb cb sc nc cc hth hel
  by_cases h9 : k = 9
  · subst h9; exact args_9 w hS hN hfi hvs v f t a th el sa na ca sb nb cb sc nc cc hth hel
  exact args_o w hS hN hfi hvs k v f t a th el sa na ca sb nb cb sc nc cc hth hel h1 h2 h3 h4 h5 h6 h7 h8 h9
end Go.Proofs.YtoopgppahfnncaaDoor
