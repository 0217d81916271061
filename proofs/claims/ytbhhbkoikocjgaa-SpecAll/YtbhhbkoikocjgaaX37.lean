/- Nv, Nq, Ek. -/
import Derived.Test.YtbhhbkoikocjgaaX36
import Derived.Test.YtbhhbkoikocjgaaX14
import Derived.Test.YtbhhbkoikocjgaaX15
import Derived.Test.YtbhhbkoikocjgaaX04
import Derived.Test.YtbhhbkoikocjgaaX02
import Derived.Test.YtbhhbkoikocjgaaX05
import Derived.Test.YtbhhbkoikocjgaaX06
import Derived.Test.YtbhhbkoikocjgaaX07
import Derived.Test.YtbhhbkoikocjgaaX12
import Derived.BigQuiet
import Derived.BigRegion
import Derived.ChangeKeysEq
import Derived.ChangeOld
import Derived.Deep.DeepCutAuto
import Derived.Deep.DrawnRows
import Derived.Deep.MidRow
import Derived.Deep.QuietTactic
import Derived.Deep.RegionHeld3
import Derived.Deep.RegionLaw
import Derived.Deep.RegionWith
import Derived.Deep.WholeRow
import Derived.Great.BuildSlice
import Derived.Great.FillDense
import Derived.JoinedTies
import Derived.KernelRfl
import Derived.Laws.AppendOwnNone
import Derived.Laws.BitsLemmas
import Derived.Laws.BytesArg
import Derived.Laws.CopyOwn
import Derived.Laws.CopyRow
import Derived.Laws.MakeOwn
import Derived.Laws.OwnMore
import Derived.Laws.ResultCell
import Derived.Laws.Tables
import Derived.Lib.AppendZeros
import Derived.Lib.SlBytesConst
import Derived.LoopIn
import Derived.LoopNIn
import Derived.Maps.AppendAt
import Derived.OpenShut
import Derived.OwnWalkIn
import Derived.ProofKit
import Derived.RangeFuncBound
import Derived.RangeFuncCalls
import Derived.RangeFuncLeaves
import Derived.RangeFuncNested
import Derived.RangeFuncRecord
import Derived.Shelf.Abstract
import Derived.Shelf.RegionOpen
import Derived.ShutString
import Derived.SizedLaws
import Derived.TacticsInMore
import Derived.WalkKit
import Derived.WalkLawsBesides
import Derived.WalkSpells
import Derived.WideWitness
import GoSem.Claim
import GoSem.ClaimJoined
import GoSem.ClaimMapViews
/- Layer spec: the law SpecAll. -/
namespace Go.Proofs.Ytbhhbkoikocjgaa
set_option linter.unusedSectionVars false
set_option maxHeartbeats 1000000
open Go.RowKit Go.Shelf
set_option maxRecDepth 100000
set_option linter.unusedVariables false
set_option linter.unusedSimpArgs false
variable [DecidableEq Ac] [DecidableEq Ou] [DecidableEq Mg]
attribute [local go_sem] Oper.semAt_some


theorem none40 (n : Nat) (y : Value) (u : World) : CallsIn Fence.wide n Try.prog 40 #[y] u fun r w' => (∃ v, r = .returned v) ∧ Below u.heap.size u w' := by
  refine callsIn_of_wp_marks Try.func40 rfl trivial ?_ rfl
  simp only [Try.ntmps40, List.size_toArray, List.length_cons, List.length_nil, Nat.reduceAdd, Nat.reduceSub, Array.replicate_succ, Array.replicate_zero, List.push_toArray, List.append_toArray, List.nil_append, List.cons_append]
  gi_wp2
  exact ⟨_, results_none rfl _ _ _, ⟨_, rfl⟩, Below.refl _ _⟩
theorem wp_range0 {k : Nat} {g : Operand} {ts : Array Tmp} {assign body : Code} {Q : Exit → Act → World → Prop} {a : Act} {W0 : World} (D : Nat) (hD : W0.heap.size = D) (hg : a.eval g = .func (.func 40) #[] #[])
    (hend : ∀ W', Below D W0 W' → D + 2 ≤ W'.heap.size → W'.heap[D]? = some (.deferred (some [])) → Q .normal { a with defers := { target := .collected D, args := #[] } :: a.defers } W') : (Code.rangeFunc g ts assign body).wpIn Fence.wide k Try.prog Q a W0 := by
  subst hD
  refine wp_rangeY 40 #[] hg (enters_of (P := Try.prog) Try.func40 (by kernel_rfl) rfl) (fun W => Below W0.heap.size W0 W ∧ W0.heap.size + 2 ≤ W.heap.size) (fun _ _ => False) ?_ (fun W' o h1 h2 => hend _ (bel_put h1.1 (by omega) _) (by simpa using h1.2) ((World.putObj_heap_other (by omega)).trans h2)) (fun c W' o h _ => h.elim)
  intro rc h1 hpend h2 h3 h4 h5
  refine (none40 (k - 1) _ _).mono ?_
  rintro e W' ⟨hv, hb⟩
  have hb0 : Below W0.heap.size W0 ((W0.alloc (.deferred (some []))).alloc (.loop rc)) := (alloc_bel' W0 _).alloc (by simp) _
  have hz := hb.size
  simp only [World.size_alloc] at hz
  refine ⟨hv, (hb.block _ (by simp; omega)).trans ?_, .inl ⟨⟨hb0.trans (hb.mono (by simp; omega)), by omega⟩, (hb.block _ (by simp)).trans ?_⟩⟩
  · rw [Below.heap_alloc _ _ _ (by simp)]; exact heap_alloc_new W0 _
  · have := heap_alloc_new (W0.alloc (.deferred (some []))) (.loop rc)
    rwa [World.size_alloc] at this
set_option maxHeartbeats 8000000 in
theorem all_not (ps : List Ac) (sp : Option Addr) (n cap : Nat) (os : List Ou) (sl : Option Addr) (nl cl : Nat) (es : List Bz) (mm : Nat) (w : World) (hS : SS w.heap.size w ps sp n cap os) (hL : BL w.heap.size w sl nl cl es) (hmm : mm < 256) (hm : may ps n = false) :
    Calls Try.prog 5 #[.agg (stA ps sp n cap), .slice sl nl cl, .int .u8 (mm : Int)] w fun e w' => e = .returned (.bool true) ∧ Below w.heap.size w w' := by
  have h1 := hS.a32.out
  have h2 := hS.l32
  have hok := hS.ok
  have hnn := hS.outs.len
  have hns := hS.outs.small
  have hsq := stA_size (sp := sp) (n := n) (cap := cap) h1 h2
  have hrok := rnA_ok (Ls := bzs es) h1 hok.out hS.outs.ok hL.bts
  have hsm := hL.small
  have hnlI : (nl : Int) ≤ 9223372036854775000 := by omega
  have hmmI : (mm : Int) < 256 := by omega
  have hnl0 : (0 : Int) ≤ nl := by omega
  have hmm0 : (0 : Int) ≤ mm := by omega
  obtain ⟨wv, hwv⟩ : ∃ wv : Int, (if nl < mm then (nl : Int) else (mm : Int)) = wv := ⟨_, rfl⟩
  have hwv0 : 0 ≤ wv ∧ wv ≤ 255 := by subst hwv; split <;> omega
  have hz30 := zeroValue30N
  have hzs := zsize30
  generalize zero30N = Z at hz30 hzs
  have hAll := Hid.mk' (fun u (hb : Below w.heap.size w u) => all_no ps w.heap.size sp n cap os sl nl cl u (hS.below hb) hm)
  have hmay := fun u => refMay_any ps sp n cap u h1 hok.out hns
  rw [hm] at hmay
  refine (callsIn_wide (n := 9)).1 ?_
  refine callsIn_of_wp_marks Try.func5 rfl trivial ?_ rfl
  simp only [Try.ntmps5, List.size_toArray, List.length_cons, List.length_nil, Nat.reduceAdd, Nat.reduceSub, Array.replicate_succ, Array.replicate_zero, List.push_toArray, List.append_toArray, List.nil_append, List.cons_append]
  have hV0 : VI w (stA ps sp n cap) sl nl cl mm ((((w.alloc (.cells (stA ps sp n cap) 30)).alloc (.cells #[.slice sl nl cl] 31)).alloc (.cells #[.int .u8 (mm : Int)] 5)).alloc (.cells #[.bool false] 4)) := by
    refine ⟨(((alloc_bel' w _).alloc (by simp) _).alloc (by simp; omega) _).alloc (by simp; omega) _, (((Arr.new w 30 _).alloc _).alloc _).alloc _, ?_, ?_, ?_⟩
    · have h := Arr.new (w.alloc (.cells (stA ps sp n cap) 30)) 31 #[.slice sl nl cl]
      simp only [World.size_alloc] at h
      exact (h.alloc _).alloc _
    · have h := Arr.new ((w.alloc (.cells (stA ps sp n cap) 30)).alloc (.cells #[.slice sl nl cl] 31)) 5 #[.int .u8 (mm : Int)]
      simp only [World.size_alloc] at h
      exact h.alloc _
    · have h := Arr.new (((w.alloc (.cells (stA ps sp n cap) 30)).alloc (.cells #[.slice sl nl cl] 31)).alloc (.cells #[.int .u8 (mm : Int)] 5)) 4 #[.bool false]
      simp only [World.size_alloc] at h
      exact h
  have hsV : w.heap.size + 4 ≤ ((((w.alloc (.cells (stA ps sp n cap) 30)).alloc (.cells #[.slice sl nl cl] 31)).alloc (.cells #[.int .u8 (mm : Int)] 5)).alloc (.cells #[.bool false] 4)).heap.size := by simp
  have hnf := run_fnil
  gi_wp2_with (first
    | (refine atLi 30 (.tmp 3) ?_; refine ldBw (by rfl) 30 1089 _ (by rfl) w.heap.size 30 (by rfl) (stA ps sp n cap) hsq hV2.a0 Try.underlying30 rfl size30N ?_)
    | (refine atLi 30 (.tmp 3) ?_; refine ldBwg (by rfl) 30 1089 _ (by rfl) w.heap.size 30 (by rfl) (stA ps sp n cap) hsq hV1.a0 Try.underlying30 rfl size30N ?_)
    | (refine ⟨trivial, ?_⟩; gi_at_call 15; go_must (refine (callsIn_wide.2 (anchored_any _)).mono ?_; rintro r w1 ⟨rfl, hb1⟩; have hV1 := hV0.keep hb1 hsV; have hz1 := hb1.size; have c41 := hV1.a1.cell 0; simp at c41))
    | (refine ⟨trivial, ?_⟩; gi_at_call 18; have htok := hV2; go_must (refine (callsIn_wide.2 (hAll.out _ hV2.bel)).mono ?_; rintro r w3 ⟨rfl, hb3⟩))
    | (refine ⟨trivial, ?_⟩; gi_at_call 18; have htok := hV1; go_must (refine (callsIn_wide.2 (hAll.out _ hV1.bel)).mono ?_; rintro r w2 ⟨rfl, hb2⟩; have hV2 := hV1.keep hb2 (Nat.le_trans hsV hz1); have hz2 := hb2.size; clear c41; have c42 := hV2.a1.cell 0; simp at c42)))
  have hz3 := hb3.size
  have hV3 := hV2.keep hb3 (by omega)
  have hwA : w.heap.size + 4 ≤ w3.heap.size := by omega
  clear hV0 hV1 hV2 hb1 hb2 hb3 hAll c42 htok hsV hz1 hz2 hz3
  have V1a := hV3
  refine wpIn_loop_rounds 3 ?_
  rw [roundsIn_succ]
  gi_wp2
  have V1b := V1a.keep (alloc_bel' w3 (.cells #[.int .i64 0] 3)) (by omega)
  have A1b := Arr.new w3 3 #[.int .i64 0]
  have hs1 : (w3.alloc (.cells #[.int .i64 0] 3)).heap.size = w3.heap.size + 1 := by simp
  refine wp_range0 (w3.heap.size + 1) hs1 rfl ?_
  intro X1 bX1 zX1 dX1
  have V1c := V1b.keep bX1 (by omega)
  have A1c := A1b.below bX1 (by omega)
  have c4 := V1c.a1.cell 0
  have c5 := V1c.a2.cell 0
  simp at c4 c5
  gi_wp2_with (first
    | (refine atLi 30 (.tmp 3) ?_; refine ldBw (by rfl) 30 1089 _ (by rfl) w.heap.size 30 (by rfl) (stA ps sp n cap) hsq V1c.a0 Try.underlying30 rfl size30N ?_)
    | (refine ⟨trivial, ?_⟩; gi_at_call 19; go_must (refine (callsIn_wide.2 (hmay _)).mono ?_; rintro r y1 ⟨rfl, hby1⟩; have hzy1 := hby1.size; have c9 := (A1c.below hby1 (by omega)).cell 0; simp at c9)))
  have V2a := V1c.keep hby1 (by omega)
  have d1 : y1.heap[w3.heap.size + 1]? = some (.deferred (some [])) := (hby1.block _ (by omega)).trans dX1
  clear c4 c5 c9 A1b A1c V1b V1c
  rw [roundsIn_succ]
  gi_wp2
  have V2b := V2a.keep (alloc_bel' y1 (.cells #[.int .i64 0] 3)) (by omega)
  have A2b := Arr.new y1 3 #[.int .i64 0]
  have hs2 : (y1.alloc (.cells #[.int .i64 0] 3)).heap.size = y1.heap.size + 1 := by simp
  refine wp_range0 (y1.heap.size + 1) hs2 rfl ?_
  intro X2 bX2 zX2 dX2
  have V2c := V2b.keep bX2 (by omega)
  have A2c := A2b.below bX2 (by omega)
  have c4 := V2c.a1.cell 0
  have c5 := V2c.a2.cell 0
  simp at c4 c5
  gi_wp2_with (first
    | (refine atLi 30 (.tmp 3) ?_; refine ldBw (by rfl) 30 1089 _ (by rfl) w.heap.size 30 (by rfl) (stA ps sp n cap) hsq V2c.a0 Try.underlying30 rfl size30N ?_)
    | (refine ⟨trivial, ?_⟩; gi_at_call 19; go_must (refine (callsIn_wide.2 (hmay _)).mono ?_; rintro r y2 ⟨rfl, hby2⟩; have hzy2 := hby2.size; have c9 := (A2c.below hby2 (by omega)).cell 0; simp at c9)))
  have V3a := V2c.keep hby2 (by omega)
  have d2 : y2.heap[y1.heap.size + 1]? = some (.deferred (some [])) := (hby2.block _ (by omega)).trans dX2
  clear c4 c5 c9 A2b A2c V2b V2c
  rw [roundsIn_succ]
  gi_wp2_with (refine ⟨trivial, ?_⟩; gi_at_call 15; go_must (refine (callsIn_wide.2 (anchored_any _)).mono ?_; rintro r z ⟨rfl, hz⟩; have hzz := hz.size; have c3 := (V3a.a3.below hz (by omega)).cell 0; have f3 := (V3a.a3.below hz (by omega)).frozen 0; simp at c3))
  have b1 : y2.heap[w3.heap.size + 1]? = some (.deferred (some [])) := (hby2.block _ (by omega)).trans ((bX2.block _ (by omega)).trans (((alloc_bel' y1 (.cells #[.int .i64 0] 3)).block _ (by omega)).trans d1))
  have hz6 := V3a.bel.trans (hz.mono (by have := V3a.bel.size; omega))
  have hR0 := (V3a.a3.below hz (by omega)).set 0 (.bool true)
  have hR1 := (hR0.putO (r := y1.heap.size + 1) (.deferred none) (by omega)).putO (r := w3.heap.size + 1) (.deferred none) (by omega)
  refine ⟨by simp, .inl ⟨_, _, rfl, run_takeDeferred ((Below.heap_setCell _ _ _ _ (by show y1.heap.size + 1 ≠ w.heap.size + 1 + 1 + 1; omega)).trans ((hz.block _ (by omega)).trans d2)), ?_⟩⟩
  refine ⟨by simp, .inl ⟨_, _, rfl, run_takeDeferred ((World.putObj_heap_other (by omega)).trans ((Below.heap_setCell _ _ _ _ (by show w3.heap.size + 1 ≠ w.heap.size + 1 + 1 + 1; omega)).trans ((hz.block _ (by omega)).trans b1))), ?_⟩⟩
  exact ⟨_, resB (by rfl) hR1, rfl, bel_put (bel_put (hz6.setCell (p := ⟨w.heap.size + 1 + 1 + 1, 0, none⟩) (by show w.heap.size ≤ w.heap.size + 1 + 1 + 1; omega) _) (by omega) _) (by omega) _⟩

theorem all_walk (ps : List Ac) (sp : Option Addr) (n cap : Nat) (os : List Ou) (sl : Option Addr) (nl cl : Nat) (es : List Bz) (m : Int) (w : World) (hS : SS w.heap.size w ps sp n cap os) (hL : BL w.heap.size w sl nl cl es) (hm0 : 0 ≤ m ∧ m < 256) :
    Calls Try.prog 5 #[.agg (stA ps sp n cap), .slice sl nl cl, .int .u8 m] w fun e w' => e = .returned (.bool true) ∧ Below w.heap.size w w' := by
  obtain ⟨mm, rfl⟩ := Int.eq_ofNat_of_zero_le hm0.1
  have hmm : mm < 256 := by omega
  cases hm : may ps n
  · exact all_not ps sp n cap os sl nl cl es mm w hS hL hmm hm
  · exact all_may ps sp n cap os sl nl cl es mm w hS hL hmm hm
end Go.Proofs.Ytbhhbkoikocjgaa
/- Layer spec: an input of three values; what came in. -/
namespace Go.Proofs.Ytbhhbkoikocjgaa
set_option linter.unusedSectionVars false
set_option maxHeartbeats 1000000
open Go.RowKit
set_option maxRecDepth 100000
set_option linter.unusedVariables false
set_option linter.unusedSimpArgs false


variable [DecidableEq Ac] [DecidableEq Ou] [DecidableEq Mg]
theorem okIn3 {P : Program} {w : World} {f : FuncId} {fn : Func} {t0 t1 t2 : TypeId} {v0 v1 v2 : Value} (hf : P.funcs[f]? = some fn) (hi : (P.inits.idxOf? f).isNone = true) (hb : (fn.body.isSome && !fn.ours && fn.nfree == 0) = true) (hp : fn.params = #[t0, t1, t2]) (h0 : Value.okWideB P w t0 v0 = true) (h1 : Value.okWideB P w t1 v1 = true) (h2 : Value.okWideB P w t2 v2 = true) : Input.okWideB P w f ⟨#[], #[v0, v1, v2], []⟩ = true := by
  unfold Input.okWideB
  simp only [hf, hp]
  rw [hi]
  simp only [Bool.and_eq_true] at hb
  simp [List.range_succ, h0, h1, h2, hb.1.1, hb.1.2, hb.2]
end Go.Proofs.Ytbhhbkoikocjgaa
/- Layer spec: what the layers below give. -/
namespace Go.Proofs.Ytbhhbkoikocjgaa
set_option linter.unusedSectionVars false
set_option maxHeartbeats 1000000
open Go.ChangeAt Go.ChangeShapes Go.RowKit Go.WideShapes
set_option maxRecDepth 100000
set_option linter.unusedVariables false
set_option linter.unusedSimpArgs false

variable [DecidableEq Ac] [DecidableEq Ou] [DecidableEq Mg]
theorem laidOut : laidOutB Try.prog = true := by kernel_rfl
section
variable {H : Type} {enc : TypeId × Value → H} {W : World} {base : Nat}
/-- AN ACCOUNT THAT CAME IN. -/
theorem open_acc {b0 : Nat} {v : Value} {d : DataW H} {p : List MemPlace}
    (hv : Value.okWide Try.prog W .any b0 26 v) (h : DataW.Trod enc Try.prog W base (fun _ => true) true 26 v d p) :
    ∃ a : Ac, v = .agg a.arr ∧ AcOK a := by
  unfold Value.okWide at hv
  rw [Try.underlying26] at hv
  obtain ⟨cs, rfl, hc, -⟩ := hv
  obtain ⟨fuel, hf⟩ := h
  obtain ⟨a, e, h⟩ := ac_of_trod _ _ _ hf
  refine ⟨a, ?_, h⟩
  congr 1
  apply Array.toList_inj.1
  exact e
end
end Go.Proofs.Ytbhhbkoikocjgaa
