/- Nu0, Cm, Qh, Qk, Mm, Ql. -/
import Derived.Test.YtbhhbkoikocjgaaX13
import Derived.Test.YtbhhbkoikocjgaaX03
import Derived.Test.YtbhhbkoikocjgaaX04
import Derived.Test.YtbhhbkoikocjgaaX06
import Derived.BigQuiet
import Derived.BigRegion
import Derived.ChangeKeysEq
import Derived.ChangeOld
import Derived.Deep.DeepCutAuto
import Derived.Deep.DrawnRows
import Derived.Deep.MidRow
import Derived.Deep.QuietTactic
import Derived.Deep.RegionHeld3
import Derived.Deep.RegionLaw
import Derived.Deep.RegionWith
import Derived.Deep.WholeRow
import Derived.Great.BuildSlice
import Derived.Great.FillDense
import Derived.JoinedTies
import Derived.KernelRfl
import Derived.Laws.AppendOwnNone
import Derived.Laws.BitsLemmas
import Derived.Laws.BytesArg
import Derived.Laws.CopyOwn
import Derived.Laws.OwnMore
import Derived.Laws.Tables
import Derived.Lib.SlBytesConst
import Derived.LoopIn
import Derived.LoopNIn
import Derived.Maps.AppendAt
import Derived.OpenShut
import Derived.OwnWalkIn
import Derived.ProofKit
import Derived.RangeFuncBound
import Derived.RangeFuncCalls
import Derived.RangeFuncLeaves
import Derived.RangeFuncNested
import Derived.RangeFuncRecord
import Derived.Shelf.Abstract
import Derived.Shelf.RegionOpen
import Derived.ShutString
import Derived.SizedLaws
import Derived.TacticsInMore
import Derived.WalkKit
import Derived.WalkLawsBesides
import Derived.WalkSpells
import GoSem.Claim
import GoSem.ClaimJoined
import GoSem.ClaimMapViews
import Derived.Test.YtbhhbkoikocjgaaX05
import Derived.Laws.CopyRow
import Derived.Laws.MakeOwn
import Derived.Lib.AppendZeros
import Derived.Test.YtbhhbkoikocjgaaX01
import Derived.Test.YtbhhbkoikocjgaaX02
import Derived.Test.YtbhhbkoikocjgaaX07
import Derived.WideWitness
/- Layer spec: a range over a function that tells numbered great values and hands memory over. -/
namespace Go.Proofs.Ytbhhbkoikocjgaa
set_option linter.unusedSectionVars false
set_option maxHeartbeats 1000000
open Go.RowKit Go.Shelf
set_option maxRecDepth 100000
set_option linter.unusedVariables false
set_option linter.unusedSimpArgs false
variable [DecidableEq Ac] [DecidableEq Ou] [DecidableEq Mg]
attribute [local go_sem] Oper.semAt_some

/-- An iterator tells 0 to n with a great value each. B: its own blocks lie from there on; M: what it wants of the memory below; T j C W: C is the value of number j; R C b: the block b is handed over with C. -/
def TellW (gf : Nat) (lb : Array Value) (B : Nat) (M : World → Prop) (T : Nat → Array Value → World → Prop) (R : Array Value → Nat → Prop) (n : Nat) : Prop :=
  ∀ (k lp : Nat) (J : Nat → Array Value → World → Prop) (X : World → Prop),
    (∀ j C W, J j C W → M W ∧ B ≤ W.heap.size) →
    (∀ j C W W', J j C W → Below B W W' → J j C W') →
    (∀ W W', X W → Below B W W' → X W') →
    (∀ j C0 C W, J j C0 W → j ≤ n → T j C W → YieldAt Fence.wide (k - 1) Try.prog lp #[.int .i64 (j : Int), .agg C] W fun r W' => (r = .returned (.bool true) ∧ J (j + 1) C W' ∧ W.heap.size ≤ W'.heap.size ∧ ∀ b, B ≤ b → b < W.heap.size → ¬ R C b → W'.heap[b]? = W.heap[b]?) ∨ (r = .returned (.bool false) ∧ X W' ∧ W.heap.size ≤ W'.heap.size ∧ ∀ b, B ≤ b → b < W.heap.size → ¬ R C b → W'.heap[b]? = W.heap[b]?)) →
    ∀ W C0, J 0 C0 W → CallsIn Fence.wide k Try.prog gf (#[.func (.yield lp) #[] #[]] ++ lb) W fun e W' => (∃ v, e = .returned v) ∧ ((∃ C, J (n + 1) C W') ∨ X W')
theorem range_tellW {k : Nat} {g : Operand} {t u : Tmp} {assign body : Code} {Q : Exit → Act → World → Prop} {a : Act} {W0 : World} (gf : Nat) (lb : Array Value) (D : Nat) (hD : W0.heap.size = D) (hg : a.eval g = .func (.func gf) #[] lb) (eg : ∀ args w, (callFunc gf args).run Try.prog w = .ok (.enter gf args) w)
    (n : Nat) (M : World → Prop) (T : Nat → Array Value → World → Prop) (R : Array Value → Nat → Prop) (ht : TellW gf lb (D + 2) M T R n) (hst : Stays (D + 2) M T) (hRo : ∀ j C W b, T j C W → R C b → D + 2 ≤ b)
    (I : Nat → Array Value → World → Prop) (X : Code → World → Prop) (hIM : ∀ j C W, I j C W → M W) (hIB : ∀ j C W W', I j C W → Below D W W' → I j C W') (hXB : ∀ c W W', X c W → Below D W W' → X c W') (C0 : Array Value) (h0 : I 0 C0 W0)
    (hround : ∀ j Cp C W, I j Cp W → j ≤ n → T j C W → D + 2 ≤ W.heap.size → ∀ m,
      assign.wpIn (Fence.wide.inRound (D + 1)) m Try.prog (Exit.then (fun a1 w1 => Below W.heap.size W w1 ∧ ∀ w2, Below (D + 1) w1 w2 → (∀ b, D + 2 ≤ b → w2.heap[b]? = w1.heap[b]?) → w2.heap.size = w1.heap.size → I j Cp w2 → T j C w2 →
        body.wpIn (Fence.wide.inRound (D + 1)) m Try.prog (RoundEnds (I (j + 1) C) X (fun w3 => w2.heap.size ≤ w3.heap.size ∧ ∀ b, D ≤ b → b < W.heap.size → ¬ R C b → w3.heap[b]? = w2.heap[b]?)) a1 w2) (fun _ _ _ => False))
        { tmps := (a.tmps.setIfInBounds t (.int .i64 (j : Int))).setIfInBounds u (.agg C), defers := [] } W)
    (hdone : ∀ C W' o, I (n + 1) C W' → D + 2 ≤ W'.heap.size → W'.heap[D]? = some (.deferred (some [])) → Q .normal { a with defers := { target := .collected D, args := #[] } :: a.defers } (W'.putObj (D + 1) o))
    (hstop : ∀ c W' o, X c W' → D + 2 ≤ W'.heap.size → W'.heap[D]? = some (.deferred (some [])) → c.wpIn Fence.wide k Try.prog Q { a with defers := { target := .collected D, args := #[] } :: a.defers } (W'.putObj (D + 1) o)) :
    (Code.rangeFunc g #[t, u] assign body).wpIn Fence.wide k Try.prog Q a W0 := by
  subst hD
  refine wp_rangeY gf lb hg eg (fun W => ∃ C, I (n + 1) C W ∧ W0.heap.size + 2 ≤ W.heap.size) (fun c W => X c W ∧ W0.heap.size + 2 ≤ W.heap.size) ?_ (fun W' o h1 h2 => ?_) (fun c W' o h1 h2 => hstop c W' o h1.1 h1.2 h2)
  rotate_left
  · obtain ⟨C, hI, hs⟩ := h1
    exact hdone C W' o hI hs h2
  intro rc h1 hpend h2 h3 h4 h5
  refine (ht (k - 1) (W0.heap.size + 1) (fun j C W => I j C W ∧ W.heap[W0.heap.size]? = some (.deferred (some [])) ∧ W.heap[W0.heap.size + 1]? = some (.loop rc) ∧ W0.heap.size + 2 ≤ W.heap.size) (fun W => ∃ c, X c W ∧ W.heap[W0.heap.size]? = some (.deferred (some [])) ∧ W.heap[W0.heap.size + 1]? = some (.loop { rc with state := .done, pending := some c }) ∧ W0.heap.size + 2 ≤ W.heap.size) ?hJc ?hJB ?hXs ?hY _ C0 ?h0).mono ?fin
  case hJc => exact fun j C W h => ⟨hIM j C W h.1, h.2.2.2⟩
  case hJB => exact fun j C W W' h hb => ⟨hIB j C W W' h.1 (hb.mono (by omega)), (hb.block _ (by omega)).trans h.2.1, (hb.block _ (by omega)).trans h.2.2.1, Nat.le_trans h.2.2.2 hb.size⟩
  case hXs =>
    rintro W W' ⟨c, hX, hdf, hlp, hsz⟩ hb
    exact ⟨c, hXB c W W' hX (hb.mono (by omega)), (hb.block _ (by omega)).trans hdf, (hb.block _ (by omega)).trans hlp, Nat.le_trans hsz hb.size⟩
  case fin =>
    rintro e W' ⟨hv, ⟨C, hI, hdf, hlp, hsz⟩ | ⟨c, hX, hdf, hlp, hsz⟩⟩
    · exact ⟨hv, hdf, .inl ⟨⟨C, hI, hsz⟩, hlp⟩⟩
    · exact ⟨hv, hdf, .inr ⟨c, ⟨hX, hsz⟩, hlp⟩⟩
  case h0 =>
    have hb : Below W0.heap.size W0 ((W0.alloc (.deferred (some []))).alloc (.loop rc)) := (alloc_bel' W0 _).alloc (by simp) _
    refine ⟨hIB 0 C0 W0 _ h0 hb, ?_, ?_, by simp⟩
    · rw [Below.heap_alloc _ _ _ (by simp)]; exact heap_alloc_new W0 _
    · have := heap_alloc_new (W0.alloc (.deferred (some []))) (.loop rc)
      rwa [World.size_alloc] at this
  case hY =>
    rintro j Cp C W ⟨hI, hdf, hlp, hsz⟩ hj hT
    refine yield_at2 _ _ hlp h2 ?_
    rw [h3, h4, h5]
    refine wpIn_mono (hround j Cp C W hI hj hT hsz _) ?_
    intro e a1 w1 hq
    cases e with
    | normal =>
      obtain ⟨hb1, hbody⟩ := hq
      have hl1 : w1.heap[W0.heap.size + 1]? = some (.loop rc) := (hb1.block _ (by omega)).trans hlp
      have hs1 := hb1.size
      refine ⟨_, run_beginRound hl1 h1, ?_⟩
      have hs2 : (w1.putObj (W0.heap.size + 1) (.loop { rc with state := .busy })).heap.size = w1.heap.size := by simp
      have hI2 : I j Cp (w1.putObj (W0.heap.size + 1) (.loop { rc with state := .busy })) := hIB _ _ _ _ hI (bel_put (hb1.mono (by omega)) (by omega) _)
      have hT2 : T j C (w1.putObj (W0.heap.size + 1) (.loop { rc with state := .busy })) := hst j C W _ hT (hIM _ _ _ hI2) (by simp; omega) (fun b hb1' hb2' => (World.putObj_heap_other (by omega)).trans (hb1.block b hb2'))
      refine wpIn_mono (hbody _ (bel_put (Below.refl _ _) (Nat.le_refl _) _) (fun b hb => World.putObj_heap_other (by omega)) hs2 hI2 hT2) ?_
      have keep : ∀ w3 : World, (w1.putObj (W0.heap.size + 1) (.loop { rc with state := .busy })).heap.size ≤ w3.heap.size → (∀ b, W0.heap.size ≤ b → b < W.heap.size → ¬ R C b → w3.heap[b]? = (w1.putObj (W0.heap.size + 1) (.loop { rc with state := .busy })).heap[b]?) →
          w3.heap[W0.heap.size + 1]? = some (.loop { rc with state := .busy }) ∧ w3.heap[W0.heap.size]? = some (.deferred (some [])) ∧ W.heap.size ≤ w3.heap.size ∧ ∀ b, W0.heap.size + 2 ≤ b → b < W.heap.size → ¬ R C b → w3.heap[b]? = W.heap[b]? := by
        intro w3 hs3 hk3
        have hn1 : ¬ R C (W0.heap.size + 1) := fun h => by have := hRo j C W _ hT h; omega
        have hn2 : ¬ R C W0.heap.size := fun h => by have := hRo j C W _ hT h; omega
        rw [hs2] at hs3
        refine ⟨(hk3 _ (by omega) (by omega) hn1).trans (World.putObj_heap_same (by omega)), ?_, by omega, fun b hb1' hb2' hr => ?_⟩
        · rw [hk3 _ (Nat.le_refl _) (by omega) hn2, World.putObj_heap_other (by omega)]
          exact (hb1.block _ (by omega)).trans hdf
        · rw [hk3 b (by omega) hb2' hr, World.putObj_heap_other (by omega)]
          exact hb1.block b hb2'
      intro e a3 w3 hq3
      cases e with
      | normal =>
        obtain ⟨hI3, hs3, hk3⟩ := hq3
        obtain ⟨l3, d3, z3, k3⟩ := keep w3 hs3 hk3
        refine ⟨_, _, run_endRound none l3, .inl ⟨rfl, ⟨?_, ?_, ?_, ?_⟩, ?_, ?_⟩⟩
        · exact hIB (j + 1) C w3 _ hI3 (bel_put (Below.refl _ _) (by omega) _)
        · rw [World.putObj_heap_other (by omega)]; exact d3
        · rw [World.putObj_heap_same (by omega)]
          obtain ⟨st, pe, fn', tm, ps, asg, bd, df⟩ := rc
          cases h1; cases hpend
          rfl
        · simp; omega
        · simp; omega
        · intro b hb1' hb2 hr
          rw [World.putObj_heap_other (by omega)]
          exact k3 b hb1' hb2 hr
      | ret =>
        obtain ⟨hX3, hs3, hk3⟩ := hq3
        obtain ⟨l3, d3, z3, k3⟩ := keep w3 hs3 hk3
        refine ⟨_, _, run_endRound (some .ret) l3, .inr ⟨rfl, ⟨.ret, hXB _ _ _ hX3 (bel_put (Below.refl _ _) (by omega) _), ?_, ?_, ?_⟩, ?_, ?_⟩⟩
        · rw [World.putObj_heap_other (by omega)]; exact d3
        · rw [World.putObj_heap_same (by omega)]; simp; exact ⟨h3, h4, h5⟩
        · simp; omega
        · simp; omega
        · intro b hb1' hb2 hr
          rw [World.putObj_heap_other (by omega)]
          exact k3 b hb1' hb2 hr
      | exit id =>
        obtain ⟨hX3, hs3, hk3⟩ := hq3
        obtain ⟨l3, d3, z3, k3⟩ := keep w3 hs3 hk3
        refine ⟨_, _, run_endRound (some (.exit id)) l3, .inr ⟨rfl, ⟨.exit id, hXB _ _ _ hX3 (bel_put (Below.refl _ _) (by omega) _), ?_, ?_, ?_⟩, ?_, ?_⟩⟩
        · rw [World.putObj_heap_other (by omega)]; exact d3
        · rw [World.putObj_heap_same (by omega)]; simp; exact ⟨h3, h4, h5⟩
        · simp; omega
        · simp; omega
        · intro b hb1' hb2 hr
          rw [World.putObj_heap_other (by omega)]
          exact k3 b hb1' hb2 hr
      | _ => exact hq3.elim
    | _ => exact hq.elim
end Go.Proofs.Ytbhhbkoikocjgaa
/- Layer spec: what the layers below give. -/
namespace Go.Proofs.Ytbhhbkoikocjgaa
set_option linter.unusedSectionVars false
set_option maxHeartbeats 1000000
open Go.ChangeAt Go.ChangeShapes Go.RowKit Go.WideShapes
set_option maxRecDepth 100000
set_option linter.unusedVariables false
set_option linter.unusedSimpArgs false

variable [DecidableEq Ac] [DecidableEq Ou] [DecidableEq Mg]
theorem exists_list {α : Type} {P : Nat → α → Prop} : ∀ (n : Nat), (∀ i, i < n → ∃ a, P i a) → ∃ l : List α, l.length = n ∧ ∀ i a, l[i]? = some a → P i a
  | 0, _ => ⟨[], rfl, fun i a h => by simp at h⟩
  | n + 1, h => by
    obtain ⟨l, hl, hP⟩ := exists_list n (fun i hi => h i (by omega))
    obtain ⟨a, ha⟩ := h n (by omega)
    refine ⟨l ++ [a], by simp [hl], fun i b hb => ?_⟩
    by_cases hi : i < n
    · rw [List.getElem?_append_left (by omega)] at hb; exact hP i b hb
    · rw [List.getElem?_append_right (by omega)] at hb
      have : i - l.length = 0 := by have := (List.getElem?_eq_some_iff.1 hb).1; simp at this; omega
      rw [this] at hb
      simp at hb
      subst hb
      obtain rfl : i = n := by omega
      exact ha
/-- Nothing in it is greater than the reach. -/
def Small {H : Type} (t : TypeId) (d : DataW H) : Prop := ∀ n ∈ d.weights Try.prog t, n ≤ reachBytes
theorem bts_wf {L : List Int} (h : ∀ x ∈ L, (Lit.int .u8 x).wf = true) : Bts L := fun x hx => by
  have h1 := h x hx
  have hmin : IntKind.u8.min = 0 := rfl
  have hmax : IntKind.u8.max = 255 := rfl
  simp only [Lit.wf, Bool.and_eq_true, decide_eq_true_eq] at h1
  omega
theorem cells5 : Try.prog.cellsOf 5 = 1 := by kernel_rfl
theorem cells29 : Try.prog.cellsOf 24 = 32 := by kernel_rfl
section
variable {H : Type} {enc : TypeId × Value → H} {W : World} {base : Nat}

theorem h_of_trod {fuel : Nat} {cs : List Value} {x : DataW H × List MemPlace} (h : DataW.trod enc Try.prog W base (fun _ => true) true fuel 24 cs = some x) : ∃ X : List Int, X.length = 32 ∧ Bts X ∧ cs = by8 X := by
  obtain ⟨xs, m, -, hx, hl, hxs, hi⟩ := DataW.trod_array Try.underlying24 h
  rw [cells29] at hl
  have key : ∀ i, i < 32 → ∃ z, cs[i]? = some (.int .u8 z) ∧ (Lit.int .u8 z).wf = true := fun i hin => by
    have := hi i hin
    rw [List.getElem?_eq_getElem (by omega), cells5] at this
    obtain ⟨z, hz, -, hw⟩ := DataW.trod_int Try.underlying5 this
    refine ⟨z, ?_, hw⟩
    simp only [Nat.mul_one] at hz
    have h2 : (List.take 1 (List.drop i cs))[0]? = some (.int .u8 z) := by rw [hz]; rfl
    simpa using h2
  refine ⟨cs.map fun v => match v with | .int _ z => z | _ => 0, by simp [hl], bts_wf fun y hy => ?_, ?_⟩
  · obtain ⟨v, hv, rfl⟩ := List.mem_map.1 hy
    obtain ⟨i, hin, rfl⟩ := List.mem_iff_getElem.1 hv
    obtain ⟨z, hz, hw⟩ := key i (by omega)
    rw [List.getElem?_eq_getElem hin] at hz
    rw [Option.some.inj hz]; exact hw
  · apply List.ext_getElem?
    intro i
    by_cases hin : i < 32
    · obtain ⟨z, hz, -⟩ := key i hin
      simp [by8, hz]
    · rw [List.getElem?_eq_none (by omega), List.getElem?_eq_none (by rw [by8_len]; simp; omega)]
/-- The cells at an address. -/
theorem cells_at {a : Addr} {k : Nat} {cs : List Value} (hk : 0 < k) (h : W.cells? base a k = some cs) : ∃ b off, a = ⟨b, off, none⟩ ∧ W.rangeAt b off cs := by
  obtain ⟨-, hl, hc⟩ := World.cells?_some h
  have h0 := hc 0 hk
  have h0' : ∃ v, cs[0]? = some v := by
    cases cs with
    | nil => simp at hl; omega
    | cons x r => exact ⟨x, rfl⟩
  obtain ⟨v0, hv0⟩ := h0'
  rw [hv0] at h0
  obtain ⟨b, off, spot⟩ := a
  have hspot : spot = none := by simpa [Addr.add] using World.cell?_spot h0
  subst hspot
  refine ⟨b, off, rfl, fun j v hv => ?_⟩
  have hj : j < k := by have := (List.getElem?_eq_some_iff.1 hv).1; omega
  have := hc j hj
  rw [Addr.add_mid] at this
  rw [this]; exact hv
end
end Go.Proofs.Ytbhhbkoikocjgaa
/- Layer spec: what the layers below give. -/
namespace Go.Proofs.Ytbhhbkoikocjgaa
set_option linter.unusedSectionVars false
set_option maxHeartbeats 1000000
open Go.RowKit
set_option maxRecDepth 100000
set_option linter.unusedVariables false
set_option linter.unusedSimpArgs false

variable [DecidableEq Ac] [DecidableEq Ou] [DecidableEq Mg]
def za : Ac := ⟨0, 0, Z32⟩
def zs : List Ac := List.replicate 32 za
theorem za_ok : AcOK za := ⟨by simp [za], by simp [za], by simp [za], by simp [za], Z32_len, Z32_bts⟩
theorem zs_len : zs.length = 32 := by simp [zs]
theorem zs_ok : ∀ a ∈ zs, AcOK a := by
  intro a ha; rw [(List.mem_replicate.1 ha).2]; exact za_ok
theorem zs_may : may zs 0 = true := by kernel_rfl
end Go.Proofs.Ytbhhbkoikocjgaa
/- Layer spec: what the layers below give. -/
namespace Go.Proofs.Ytbhhbkoikocjgaa
set_option linter.unusedSectionVars false
set_option maxHeartbeats 1000000
open Go.RowKit
set_option maxRecDepth 100000
set_option linter.unusedVariables false
set_option linter.unusedSimpArgs false

variable [DecidableEq Ac] [DecidableEq Ou] [DecidableEq Mg]
theorem cells22 : Try.prog.cellsOf 22 = 1 := by kernel_rfl
theorem cells26 : Try.prog.cellsOf 26 = 34 := by kernel_rfl
theorem cells27 : Try.prog.cellsOf 27 = 1088 := by kernel_rfl
theorem cells28 : Try.prog.cellsOf 28 = 1 := by kernel_rfl
theorem cells30s : Try.prog.cellsOf 30 = 1089 := by kernel_rfl
theorem cells53 : Try.prog.cellsOf 66 = 2 := by kernel_rfl
theorem bytes53 : Try.prog.bytesOf 66 = 16 := by kernel_rfl
theorem u64_wf {z : Int} (h : (Lit.int .u64 z).wf = true) : 0 ≤ z ∧ z < 18446744073709551616 := by
  have hmin : IntKind.u64.min = 0 := rfl
  have hmax : IntKind.u64.max = 18446744073709551615 := rfl
  simp only [Lit.wf, Bool.and_eq_true, decide_eq_true_eq] at h
  omega
section
variable {H : Type} {enc : TypeId × Value → H} {W : World} {base : Nat}

theorem ou_of_trod (fuel : Nat) (cs : List Value) (x : DataW H × List MemPlace) (h : DataW.trod enc Try.prog W base (fun _ => true) true fuel 66 cs = some x) : ∃ o : Ou, cs = o.cells ∧ OuOK o := by
  obtain ⟨xs, n, rfl, rfl, hl, hxl, hf⟩ := DataW.trod_struct Try.underlying66 h
  rw [cells53] at hl
  simp at hxl
  match xs, hxl with
  | [x0, x1], _ =>
  have f0 := hf 0 _ rfl
  have f1 := hf 1 _ rfl
  simp [cells22] at f0 f1
  obtain ⟨a, e0, -, w0⟩ := DataW.trod_int Try.underlying22 f0
  obtain ⟨b, e1, -, w1⟩ := DataW.trod_int Try.underlying22 f1
  refine ⟨⟨a, b⟩, ?_, (u64_wf w0).1, (u64_wf w0).2, (u64_wf w1).1, (u64_wf w1).2⟩
  match cs, hl with
  | [c, d], _ =>
    simp at e0 e1
    subst e0; subst e1
    rfl
theorem ac_of_trod (fuel : Nat) (cs : List Value) (x : DataW H × List MemPlace) (h : DataW.trod enc Try.prog W base (fun _ => true) true fuel 26 cs = some x) : ∃ o : Ac, cs = o.cells ∧ AcOK o := by
  obtain ⟨xs, n, rfl, rfl, hl, hxl, hf⟩ := DataW.trod_struct Try.underlying26 h
  rw [cells26] at hl
  simp at hxl
  match xs, hxl with
  | [x0, x1, x2], _ =>
  have f0 := hf 0 _ rfl
  have f1 := hf 1 _ rfl
  have f2 := hf 2 _ rfl
  simp [cells22, cells29] at f0 f1 f2
  obtain ⟨a, e0, -, w0⟩ := DataW.trod_int Try.underlying22 f0
  obtain ⟨b, e1, -, w1⟩ := DataW.trod_int Try.underlying22 f1
  obtain ⟨X, hX, bX, e2⟩ := h_of_trod f2
  refine ⟨⟨a, b, X⟩, ?_, (u64_wf w0).1, (u64_wf w0).2, (u64_wf w1).1, (u64_wf w1).2, hX, bX⟩
  match cs, hl with
  | c :: d :: r, hl =>
    simp at e0 e1 e2 hl
    subst e0; subst e1
    rw [List.take_of_length_le (by omega)] at e2
    rw [e2]; rfl
/-- A list out of its parts. -/
theorem parts_of {α : Type} (P : α → Prop) (cells : α → List Value) (k : Nat) (hk : ∀ a, P a → (cells a).length = k) : ∀ (n : Nat) (cs : List Value), cs.length = n * k → (∀ i, i < n → ∃ a, List.take k (List.drop (i * k) cs) = cells a ∧ P a) → ∃ l : List α, l.length = n ∧ (∀ a ∈ l, P a) ∧ cs = (l.map cells).flatten
  | 0, cs, hl, _ => ⟨[], rfl, (fun a h => by cases h), by simpa using hl⟩
  | n + 1, cs, hl, h => by
    obtain ⟨a, ha, hp⟩ := h 0 (by omega)
    simp at ha
    obtain ⟨l, hl', hP, he⟩ := parts_of P cells k hk n (cs.drop k) (by rw [List.length_drop, hl, Nat.succ_mul]; omega) (fun i hi => by
      obtain ⟨b, hb, hpb⟩ := h (i + 1) (by omega)
      refine ⟨b, ?_, hpb⟩
      rw [List.drop_drop, ← hb, Nat.succ_mul, Nat.add_comm k])
    refine ⟨a :: l, by simp [hl'], fun b hb => ?_, ?_⟩
    · rcases List.mem_cons.1 hb with rfl | hb
      · exact hp
      · exact hP b hb
    · rw [List.map_cons, List.flatten_cons, ← he, ← ha, List.take_append_drop]
theorem acs_of_trod {fuel : Nat} {cs : List Value} {x : DataW H × List MemPlace} (h : DataW.trod enc Try.prog W base (fun _ => true) true fuel 27 cs = some x) : ∃ ps : List Ac, ps.length = 32 ∧ (∀ a ∈ ps, AcOK a) ∧ cs = acF ps := by
  obtain ⟨xs, m, -, hx, hl, hxs, hi⟩ := DataW.trod_array Try.underlying27 h
  rw [cells27] at hl
  obtain ⟨l, h1, h2, h3⟩ := parts_of AcOK Ac.cells 34 (fun a ha => Ac.len ha.l32) 32 cs hl (fun i hin => by
    have := hi i hin
    rw [List.getElem?_eq_getElem (by omega), cells26] at this
    exact ac_of_trod _ _ _ this)
  exact ⟨l, h1, h2, h3⟩
theorem os_of_trod {fuel : Nat} {cs : List Value} {x : DataW H × List MemPlace} (h : DataW.trod enc Try.prog W base (fun _ => true) true fuel 28 cs = some x) (hs : Small 28 x.1) :
    ∃ sp n cap os, cs = [.slice sp n cap] ∧ OS W.heap.size W sp n cap os ∧ n * 16 ≤ 140737488351232 := by
  rcases DataW.trod_slice Try.underlying28 h with ⟨rfl, -⟩ | ⟨a, len, cap, elems, rest, n, rfl, rfl, rfl, hb, hlc, hm, hlen, hel, hsp, -⟩
  · exact ⟨none, 0, 0, [], rfl, OS.nil0 _ _, by omega⟩
  · obtain ⟨hrl, -⟩ := hsp rfl
    have hr := hs ((elems.length + rest.length) * 16) (by simp [DataW.weights, Try.underlying28, bytes53])
    simp only [reachBytes] at hr
    have hstep : ∀ i, i < len → ∃ g off, ∃ X : Ou, a.add (i * 2) = ⟨g, off, none⟩ ∧ OuOK X ∧ W.rangeAt g off X.cells := fun i hi => by
      have h1 := hel i hi
      rw [cells53, List.getElem?_eq_getElem (by omega), Option.bind_eq_some_iff] at h1
      obtain ⟨cs, hcs, ht⟩ := h1
      obtain ⟨g, off, e, hR⟩ := cells_at (by omega) hcs
      obtain ⟨X, rfl, hX⟩ := ou_of_trod _ _ _ ht
      exact ⟨g, off, X, e, hX, hR⟩
    by_cases h0 : 0 < len
    · obtain ⟨g, off, -, e, -⟩ := hstep 0 h0
      have ha : a = ⟨g, off, none⟩ := by simpa [Addr.add] using e
      subst ha
      obtain ⟨l, hl, hP⟩ := exists_list (P := fun i (X : Ou) => OuOK X ∧ W.rangeAt g (off + i * 2) X.cells) len (fun i hi => by
        obtain ⟨g', off', X, e', h1, ho⟩ := hstep i hi
        rw [Addr.add_mid] at e'
        cases e'
        exact ⟨X, h1, ho⟩)
      refine ⟨some ⟨g, off, none⟩, len, cap, l, rfl, ⟨show _ = _ by simp [hl], (fun e => by cases e), hlc, by unfold maxLen at hm; omega, by omega, fun _ => ⟨g, off, rfl, ?_, fun i X hX => (hP i X hX).2⟩, fun X hX => ?_⟩, by omega⟩
      · obtain ⟨X, hX⟩ : ∃ X, l[0]? = some X := ⟨l[0], List.getElem?_eq_getElem (by omega)⟩
        exact block_lt_of_cell ((hP 0 X hX).2 0 _ rfl)
      · obtain ⟨i, hi⟩ := List.mem_iff_getElem?.1 hX
        exact (hP i X hi).1
    · obtain rfl : len = 0 := by omega
      exact ⟨some a, 0, cap, [], rfl, ⟨rfl, (fun e => by cases e), by omega, by unfold maxLen at hm; omega, by omega, fun h => by omega, fun X hX => by cases hX⟩, by omega⟩
/-- A STATE THAT CAME IN. -/
theorem open_state {b0 : Nat} {v : Value} {d : DataW H} {p : List MemPlace} {ts : List TypeId} {ds : List (DataW H)} {j : Nat}
    (hv : Value.okWide Try.prog W .any b0 30 v) (h : DataW.Trod enc Try.prog W base (fun _ => true) true 30 v d p)
    (hsz : (DataW.weightsEach Try.prog ts ds).all (· ≤ reachBytes) = true) (ht : ts[j]? = some 30) (hd : ds[j]? = some d) :
    ∃ ps sp n cap os, v = .agg (stA ps sp n cap) ∧ SS W.heap.size W ps sp n cap os ∧ n * 16 ≤ 140737488351232 := by
  unfold Value.okWide at hv
  rw [Try.underlying30] at hv
  obtain ⟨cs, rfl, hc, -⟩ := hv
  obtain ⟨fuel, hf⟩ := h
  have hs : Small 30 d := fun n hn => by
    have := List.all_eq_true.1 hsz n (DataW.weights_mem_each ht hd n hn)
    simpa using this
  obtain ⟨xs, n, -, hdx, hl, hxl, hff⟩ := DataW.trod_struct Try.underlying30 hf
  rw [cells30s] at hl
  simp at hxl
  match xs, hxl with
  | [x0, x1], _ =>
  have hd0 : d = _ := (Prod.ext_iff.1 hdx).1
  have f0 := hff 0 _ rfl
  have f1 := hff 1 _ rfl
  simp [cells27, cells28, Value.cells] at f0 f1
  obtain ⟨ps, hp1, hp2, e0⟩ := acs_of_trod f0
  have s1 : Small 28 x1.1 := fun m hm => hs m (by rw [hd0]; simp [DataW.weights, Try.underlying30, DataW.weightsEach, hm])
  obtain ⟨sp, m, cap, os, e1, hO, h16⟩ := os_of_trod f1 s1
  refine ⟨ps, sp, m, cap, os, ?_, ⟨Hid.mk' hp1, Hid.mk' hp2, hO⟩, h16⟩
  have hl' : cs.toList.length = 1089 := hl
  congr 1
  apply Array.toList_inj.1
  show cs.toList = stC ps sp m cap
  have e : cs.toList = List.take 1088 cs.toList ++ List.take 1 (List.drop 1088 cs.toList) := by
    rw [List.take_of_length_le (l := List.drop 1088 cs.toList) (by rw [List.length_drop]; omega), List.take_append_drop]
  rw [e, e0, e1]
  rfl
end
end Go.Proofs.Ytbhhbkoikocjgaa
/- Layer spec: what the layers below give. -/
namespace Go.Proofs.Ytbhhbkoikocjgaa
set_option linter.unusedSectionVars false
set_option maxHeartbeats 1000000
open Go.RowKit Go.Shelf
set_option maxRecDepth 100000
set_option linter.unusedVariables false
set_option linter.unusedSimpArgs false

variable [DecidableEq Ac] [DecidableEq Ou] [DecidableEq Mg]
theorem bat_Z (j : Nat) : bat Z32 j = 0 := by
  unfold bat Z32
  rw [List.getD_eq_getElem?_getD, List.getElem?_replicate]
  split <;> rfl
end Go.Proofs.Ytbhhbkoikocjgaa
/- Layer spec: what the layers below give. -/
namespace Go.Proofs.Ytbhhbkoikocjgaa
set_option linter.unusedSectionVars false
set_option maxHeartbeats 1000000
open Go.RowKit
set_option maxRecDepth 100000
set_option linter.unusedVariables false
set_option linter.unusedSimpArgs false

variable [DecidableEq Ac] [DecidableEq Ou] [DecidableEq Mg]
def ts34 : List TypeId := 22 :: 22 :: List.replicate 32 5
theorem rep_get {α : Type} (l : List α) (hl : 0 < l.length) : ∀ (n i : Nat), i < n * l.length → (List.replicate n l).flatten[i]? = l[i % l.length]?
  | 0, i, h => by simp at h
  | n + 1, i, h => by
    rw [List.replicate_succ, List.flatten_cons]
    by_cases hi : i < l.length
    · rw [List.getElem?_append_left hi, Nat.mod_eq_of_lt hi]
    · rw [List.getElem?_append_right (by omega), rep_get l hl n (i - l.length) (by rw [Nat.succ_mul] at h; omega)]
      congr 1
      rw [Nat.mod_eq_sub_mod (a := i) (by omega)]
theorem cellTypes30 : Try.prog.cellTypes Try.prog.depth 30 = some ((List.replicate 32 ts34).flatten ++ [28]) := by kernel_rfl
theorem ok34 (w : World) : ∀ r, r < 34 → ∃ v u, za.cells[r]? = some v ∧ ts34[r]? = some u ∧ Cell.okWideB Try.prog w u v = true := by
  intro r hr
  match r, hr with
  | 0, _ => exact ⟨_, _, rfl, rfl, by kernel_rfl⟩
  | 1, _ => exact ⟨_, _, rfl, rfl, by kernel_rfl⟩
  | r + 2, hr =>
    have h1 : r < 32 := by omega
    refine ⟨.int .u8 0, 5, ?_, ?_, by kernel_rfl⟩
    · show (by8 Z32)[r]? = _
      rw [by8_get (by rw [Z32_len]; exact h1), bat_Z]
    · show (List.replicate 32 5)[r]? = _
      rw [List.getElem?_replicate, if_pos h1]
theorem acF_zs : acF zs = (List.replicate 32 za.cells).flatten := by
  unfold acF zs
  rw [List.map_replicate]
theorem okRow (w : World) : Cell.okWideRowB Try.prog w 30 (stA zs none 0 0) = true := by
  have hsz : (stA zs none 0 0).size = 1089 := stA_size zs_len (fun a ha => (zs_ok a ha).l32)
  have hl34 : za.cells.length = 34 := Ac.len Z32_len
  have ht34 : ts34.length = 34 := by simp [ts34]
  have hlt : ((List.replicate 32 ts34).flatten ++ [28]).length = 1089 := by simp [ht34]
  unfold Cell.okWideRowB
  rw [cellTypes30]
  simp only [hsz, hlt]
  rw [Bool.and_eq_true]
  refine ⟨rfl, List.all_eq_true.2 fun i hi => ?_⟩
  have hi : i < 1089 := by simpa using hi
  rw [Nat.mod_eq_of_lt hi]
  by_cases h : i < 1088
  · obtain ⟨v, u, hv, hu, hok⟩ := ok34 w (i % 34) (Nat.mod_lt _ (by omega))
    have e1 : (stA zs none 0 0)[i]? = some v := by
      have : (stA zs none 0 0)[i]? = (stC zs none 0 0)[i]? := by simp [stA]
      rw [this]
      unfold stC
      rw [acF_zs, List.getElem?_append_left (by simp [hl34]; omega), rep_get _ (by omega) 32 i (by rw [hl34]; omega), hl34]
      exact hv
    have e2 : ((List.replicate 32 ts34).flatten ++ [28])[i]? = some u := by
      rw [List.getElem?_append_left (by simp [ht34]; omega), rep_get _ (by omega) 32 i (by rw [ht34]; omega), ht34]
      exact hu
    rw [e1, e2]
    exact hok
  · obtain rfl : i = 1088 := by omega
    have e1 : (stA zs none 0 0)[1088]? = some (.slice none 0 0) := by
      have : (stA zs none 0 0)[1088]? = (stC zs none 0 0)[1088]? := by simp [stA]
      rw [this]
      unfold stC
      rw [acF_zs, List.getElem?_append_right (by simp [hl34])]
      simp [hl34]
    have e2 : ((List.replicate 32 ts34).flatten ++ [28])[1088]? = some 28 := by
      rw [List.getElem?_append_right (by simp [ht34])]
      simp [ht34]
    rw [e1, e2]
    have : Cell.okWideB Try.prog w 28 (.slice none 0 0) = true := by kernel_rfl
    exact this
theorem okState (w : World) : Value.okWideB Try.prog w 30 (.agg (stA zs none 0 0)) = true := by
  have hsz : (stA zs none 0 0).size = 1089 := stA_size zs_len (fun a ha => (zs_ok a ha).l32)
  unfold Value.okWideB
  rw [Try.underlying30]
  simp only [hsz, cells30s, okRow w]
  rfl
theorem okIn2 {P : Program} {w : World} {f : FuncId} {fn : Func} {t0 t1 : TypeId} {v0 v1 : Value} (hf : P.funcs[f]? = some fn) (hi : (P.inits.idxOf? f).isNone = true) (hb : (fn.body.isSome && !fn.ours && fn.nfree == 0) = true) (hp : fn.params = #[t0, t1]) (h0 : Value.okWideB P w t0 v0 = true) (h1 : Value.okWideB P w t1 v1 = true) : Input.okWideB P w f ⟨#[], #[v0, v1], []⟩ = true := by
  unfold Input.okWideB
  simp only [hf, hp]
  rw [hi]
  simp only [Bool.and_eq_true] at hb
  simp [List.range_succ, h0, h1, hb.1.1, hb.1.2, hb.2]
end Go.Proofs.Ytbhhbkoikocjgaa
