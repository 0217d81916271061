/- Nd, Ne, Cv, Sl. -/
import Derived.Test.YtbhhbkoikocjgaaX13
import Derived.Test.YtbhhbkoikocjgaaX15
import Derived.Test.YtbhhbkoikocjgaaX17
import Derived.Test.YtbhhbkoikocjgaaX06
import Derived.BigQuiet
import Derived.BigRegion
import Derived.ChangeKeysEq
import Derived.Deep.DeepCutAuto
import Derived.Deep.DrawnRows
import Derived.Deep.MidRow
import Derived.Deep.QuietTactic
import Derived.Deep.RegionHeld3
import Derived.Deep.RegionLaw
import Derived.Deep.RegionWith
import Derived.Deep.WholeRow
import Derived.Great.BuildSlice
import Derived.JoinedTies
import Derived.KernelRfl
import Derived.Laws.AppendOwnNone
import Derived.Laws.BitsLemmas
import Derived.Laws.BytesArg
import Derived.Laws.CopyOwn
import Derived.Laws.Tables
import Derived.Lib.SlBytesConst
import Derived.LoopIn
import Derived.LoopNIn
import Derived.Maps.AppendAt
import Derived.OwnWalkIn
import Derived.RangeFuncBound
import Derived.RangeFuncCalls
import Derived.RangeFuncLeaves
import Derived.RangeFuncNested
import Derived.RangeFuncRecord
import Derived.Shelf.Abstract
import Derived.Shelf.RegionOpen
import Derived.TacticsInMore
import Derived.WalkKit
import Derived.WalkLawsBesides
import Derived.WalkSpells
import GoSem.Claim
import GoSem.ClaimJoined
import GoSem.ClaimMapViews
import Derived.Test.YtbhhbkoikocjgaaX01
import Derived.Test.YtbhhbkoikocjgaaX02
import Derived.Test.YtbhhbkoikocjgaaX03
import Derived.Test.YtbhhbkoikocjgaaX04
import Derived.Test.YtbhhbkoikocjgaaX05
import Derived.Test.YtbhhbkoikocjgaaX07
import Derived.Test.YtbhhbkoikocjgaaX12
import Derived.ChangeOld
import Derived.Great.FillDense
import Derived.Laws.CopyRow
import Derived.Laws.MakeOwn
import Derived.Laws.OwnMore
import Derived.OpenShut
import Derived.ProofKit
import Derived.ShutString
import Derived.SizedLaws
/- Layer spec: loads and stores of great values. -/
namespace Go.Proofs.Ytbhhbkoikocjgaa
set_option linter.unusedSectionVars false
set_option maxHeartbeats 1000000
open Go.RowKit Go.Shelf
set_option maxRecDepth 100000
set_option linter.unusedVariables false
set_option linter.unusedSimpArgs false
variable [DecidableEq Ac] [DecidableEq Ou] [DecidableEq Mg]
attribute [local go_sem] Oper.semAt_some

theorem ldB {ops : Array Oper} {rest : List Oper} {o : Oper} {a : Act} {w : World} {Q : Exit → Act → World → Prop} (hgd : o.guard = none) (t s : Nat) (x : Operand) (ho : o.op = .load t x)
    (g ty : Nat) (hx : a.eval x = .pointer (some ⟨g, 0, none⟩)) (C : Array Value) (hC : C.size = s) (hA : Arr w g ty C) {d : TypeDesc} (hu : Try.prog.underlying t = some d) (hd : d.isRow = true) (hi : (Try.prog.info? t).map (·.size) = some s)
    (h : wpList Try.prog ops Q rest (a.put o.dst (.agg C)) w) : wpList Try.prog ops Q (o :: rest) a w :=
  wpList_plain hgd fun _ hK => wp_load_mid t x ho g 0 hx C.toList _ hA.whole hu hd (by rw [hi, ← hC]; simp) (hK _ _ (by rw [Array.toArray_toList]; exact h))
theorem stB {ops : Array Oper} {rest : List Oper} {o : Oper} {a : Act} {w : World} {Q : Exit → Act → World → Prop} (hgd : o.guard = none) (t s : Nat) (x y : Operand) (ho : o.op = .store t x y)
    (g ty : Nat) (C Z : Array Value) (hx : a.eval x = .pointer (some ⟨g, 0, none⟩)) (hy : a.eval y = .agg C) (hC : C.size = s) (h1 : C.all (·.oneCell') = true) (hZ : Z.size = s) (hA : Arr w g ty Z) (hi : (Try.prog.info? t).map (·.size) = some s)
    (h : wpList Try.prog ops Q rest (a.put o.dst undef) (w.setRow g C)) : wpList Try.prog ops Q (o :: rest) a w :=
  wpList_plain hgd fun _ hK => wp_store_row t x y ho g C hx hy ty Z hA (by rw [hi, hC]) (by rw [hZ, hC]) h1 (hK _ _ h)
theorem stBn {ops : Array Oper} {rest : List Oper} {o : Oper} {a : Act} {Q : Exit → Act → World → Prop} (hgd : o.guard = none) (t s : Nat) (x y : Operand) (ho : o.op = .store t x y) (W : World) (g ty : Nat) (hgW : W.heap.size = g) {Z : Array Value}
    (C : Array Value) (hx : a.eval x = .pointer (some ⟨g, 0, none⟩)) (hy : a.eval y = .agg C) (hC : C.size = s) (h1 : C.all (·.oneCell') = true) (hZ : Z.size = s) (hi : (Try.prog.info? t).map (·.size) = some s)
    (h : wpList Try.prog ops Q rest (a.put o.dst undef) (W.alloc (.cells C ty))) : wpList Try.prog ops Q (o :: rest) a (W.alloc (.cells Z ty)) := by
  subst hgW
  exact stB hgd t s x y ho W.heap.size ty C Z hx hy hC h1 hZ (Arr.new W ty Z) hi (by rw [World.setRow_alloc_new]; exact h)
theorem ldBw {n : Nat} {ops : Array Oper} {rest : List Oper} {o : Oper} {a : Act} {w : World} {Q : Exit → Act → World → Prop} (hgd : o.guard = none) (t s : Nat) (x : Operand) (ho : o.op = .load t x)
    (g ty : Nat) (hx : a.eval x = .pointer (some ⟨g, 0, none⟩)) (C : Array Value) (hC : C.size = s) (hA : Arr w g ty C) {d : TypeDesc} (hu : Try.prog.underlying t = some d) (hd : d.isRow = true) (hi : (Try.prog.info? t).map (·.size) = some s)
    (h : wpListIn Fence.wide n Try.prog ops Q rest (a.put o.dst (.agg C)) w) : wpListIn Fence.wide n Try.prog ops Q (o :: rest) a w :=
  wpListIn_plain hgd fun _ hK => opInw (by rw [ho]; intro c hc; cases hc) (wp_load_mid t x ho g 0 hx C.toList _ hA.whole hu hd (by rw [hi, ← hC]; simp) (hK _ _ (by rw [Array.toArray_toList]; exact h)))
theorem stBw {n : Nat} {ops : Array Oper} {rest : List Oper} {o : Oper} {a : Act} {w : World} {Q : Exit → Act → World → Prop} (hgd : o.guard = none) (t s : Nat) (x y : Operand) (ho : o.op = .store t x y)
    (g ty : Nat) (C Z : Array Value) (hx : a.eval x = .pointer (some ⟨g, 0, none⟩)) (hy : a.eval y = .agg C) (hC : C.size = s) (h1 : C.all (·.oneCell') = true) (hZ : Z.size = s) (hA : Arr w g ty Z) (hi : (Try.prog.info? t).map (·.size) = some s)
    (h : wpListIn Fence.wide n Try.prog ops Q rest (a.put o.dst undef) (w.setRow g C)) : wpListIn Fence.wide n Try.prog ops Q (o :: rest) a w :=
  wpListIn_plain hgd fun _ hK => opInw (by rw [ho]; intro c hc; cases hc) (wp_store_row t x y ho g C hx hy ty Z hA (by rw [hi, hC]) (by rw [hZ, hC]) h1 (hK _ _ h))
theorem stBnw {n : Nat} {ops : Array Oper} {rest : List Oper} {o : Oper} {a : Act} {Q : Exit → Act → World → Prop} (hgd : o.guard = none) (t s : Nat) (x y : Operand) (ho : o.op = .store t x y) (W : World) (g ty : Nat) (hgW : W.heap.size = g) {Z : Array Value}
    (C : Array Value) (hx : a.eval x = .pointer (some ⟨g, 0, none⟩)) (hy : a.eval y = .agg C) (hC : C.size = s) (h1 : C.all (·.oneCell') = true) (hZ : Z.size = s) (hi : (Try.prog.info? t).map (·.size) = some s)
    (h : wpListIn Fence.wide n Try.prog ops Q rest (a.put o.dst undef) (W.alloc (.cells C ty))) : wpListIn Fence.wide n Try.prog ops Q (o :: rest) a (W.alloc (.cells Z ty)) := by
  subst hgW
  exact stBw hgd t s x y ho W.heap.size ty C Z hx hy hC h1 hZ (Arr.new W ty Z) hi (by rw [World.setRow_alloc_new]; exact h)
theorem ldBr {l n : Nat} {ops : Array Oper} {rest : List Oper} {o : Oper} {a : Act} {w : World} {Q : Exit → Act → World → Prop} (hgd : o.guard = none) (t s : Nat) (x : Operand) (ho : o.op = .load t x)
    (g ty : Nat) (hx : a.eval x = .pointer (some ⟨g, 0, none⟩)) (C : Array Value) (hC : C.size = s) (hA : Arr w g ty C) {d : TypeDesc} (hu : Try.prog.underlying t = some d) (hd : d.isRow = true) (hi : (Try.prog.info? t).map (·.size) = some s)
    (h : wpListIn (Fence.wide.inRound l) n Try.prog ops Q rest (a.put o.dst (.agg C)) w) : wpListIn (Fence.wide.inRound l) n Try.prog ops Q (o :: rest) a w :=
  wpListIn_plain hgd fun _ hK => opIn (by rw [ho]; intro c hc; cases hc) (wp_load_mid t x ho g 0 hx C.toList _ hA.whole hu hd (by rw [hi, ← hC]; simp) (hK _ _ (by rw [Array.toArray_toList]; exact h)))
theorem stBr {l n : Nat} {ops : Array Oper} {rest : List Oper} {o : Oper} {a : Act} {w : World} {Q : Exit → Act → World → Prop} (hgd : o.guard = none) (t s : Nat) (x y : Operand) (ho : o.op = .store t x y)
    (g ty : Nat) (C Z : Array Value) (hx : a.eval x = .pointer (some ⟨g, 0, none⟩)) (hy : a.eval y = .agg C) (hC : C.size = s) (h1 : C.all (·.oneCell') = true) (hZ : Z.size = s) (hA : Arr w g ty Z) (hi : (Try.prog.info? t).map (·.size) = some s)
    (h : wpListIn (Fence.wide.inRound l) n Try.prog ops Q rest (a.put o.dst undef) (w.setRow g C)) : wpListIn (Fence.wide.inRound l) n Try.prog ops Q (o :: rest) a w :=
  wpListIn_plain hgd fun _ hK => opIn (by rw [ho]; intro c hc; cases hc) (wp_store_row t x y ho g C hx hy ty Z hA (by rw [hi, hC]) (by rw [hZ, hC]) h1 (hK _ _ h))
theorem stBnr {l n : Nat} {ops : Array Oper} {rest : List Oper} {o : Oper} {a : Act} {Q : Exit → Act → World → Prop} (hgd : o.guard = none) (t s : Nat) (x y : Operand) (ho : o.op = .store t x y) (W : World) (g ty : Nat) (hgW : W.heap.size = g) {Z : Array Value}
    (C : Array Value) (hx : a.eval x = .pointer (some ⟨g, 0, none⟩)) (hy : a.eval y = .agg C) (hC : C.size = s) (h1 : C.all (·.oneCell') = true) (hZ : Z.size = s) (hi : (Try.prog.info? t).map (·.size) = some s)
    (h : wpListIn (Fence.wide.inRound l) n Try.prog ops Q rest (a.put o.dst undef) (W.alloc (.cells C ty))) : wpListIn (Fence.wide.inRound l) n Try.prog ops Q (o :: rest) a (W.alloc (.cells Z ty)) := by
  subst hgW
  exact stBr hgd t s x y ho W.heap.size ty C Z hx hy hC h1 hZ (Arr.new W ty Z) hi (by rw [World.setRow_alloc_new]; exact h)
theorem atLi {P : Program} {F : Fence} {n : Nat} {ops : Array Oper} {rest : List Oper} {a : Act} {w : World} {Q : Exit → Act → World → Prop} (t : TypeId) (x : Operand) {d} {ty} {pos} {af} {g} (h : wpListIn F n P ops Q (⟨d, .load t x, ty, pos, af, g⟩ :: rest) a w) : wpListIn F n P ops Q (⟨d, .load t x, ty, pos, af, g⟩ :: rest) a w := h
theorem atSi {P : Program} {F : Fence} {n : Nat} {ops : Array Oper} {rest : List Oper} {a : Act} {w : World} {Q : Exit → Act → World → Prop} (t : TypeId) (x y : Operand) {d} {ty} {pos} {af} {g} (h : wpListIn F n P ops Q (⟨d, .store t x y, ty, pos, af, g⟩ :: rest) a w) : wpListIn F n P ops Q (⟨d, .store t x y, ty, pos, af, g⟩ :: rest) a w := h
end Go.Proofs.Ytbhhbkoikocjgaa
/- Layer spec: values along a list; what is a great value. -/
namespace Go.Proofs.Ytbhhbkoikocjgaa
set_option linter.unusedSectionVars false
set_option maxHeartbeats 1000000
open Go.RowKit Go.Shelf
set_option maxRecDepth 100000
set_option linter.unusedVariables false
set_option linter.unusedSimpArgs false
variable [DecidableEq Ac] [DecidableEq Ou] [DecidableEq Mg]
attribute [local go_sem] Oper.semAt_some


/-- What the fold wants of the memory: its three variables, and the list. -/
structure FoldM (bf bl bs B ty sf : Nat) (C0 : Array Value) (sl : Option Addr) (nl cl : Nat) (es : List Bz) (W : World) : Prop where
  first : Arr W bf ty C0
  list : W.cell? ⟨bl, 0, none⟩ = some (.slice sl nl cl)
  step : W.cell? ⟨bs, 0, none⟩ = some (.func (.func sf) #[] #[])
  msgs : BL B W sl nl cl es
  f0 : bf < B
  l0 : bl < B
  s0 : bs < B
theorem FoldM.below {bf bl bs B ty sf : Nat} {C0 : Array Value} {sl : Option Addr} {nl cl : Nat} {es : List Bz} {W W' : World} (h : FoldM bf bl bs B ty sf C0 sl nl cl es W) (hb : Below B W W') : FoldM bf bl bs B ty sf C0 sl nl cl es W' :=
  ⟨h.first.below hb h.f0, (hb.cell (p := ⟨bl, 0, none⟩) h.l0).trans h.list, (hb.cell (p := ⟨bs, 0, none⟩) h.s0).trans h.step, h.msgs.below hb, h.f0, h.l0, h.s0⟩
/-- What the values along the fold are: T j C W. -/
structure FoldT (B ty sz sf : Nat) (C0 : Array Value) (es : List Bz) (n : Nat) (M : World → Prop) (T : Nat → Array Value → World → Prop) : Prop where
  first : ∀ W, M W → B ≤ W.heap.size → T 0 C0 W
  size : ∀ j C W, T j C W → C.size = sz ∧ C.all (·.oneCell') = true
  stays : ∀ j C W W' g C', T j C W → Arr W g ty C' → M W' → W.heap.size ≤ W'.heap.size → (∀ b, B ≤ b → b < W.heap.size → b ≠ g → W'.heap[b]? = W.heap[b]?) → T j C W'
  step : ∀ j C e W g C', T j C W → M W → B ≤ W.heap.size → es[j]? = some e → j < n → Arr W g ty C' → B ≤ g → Calls Try.prog sf #[.agg C, .slice e.sp e.n e.cap] W fun r W' => ∃ C2, r = .returned (.agg C2) ∧ T (j + 1) C2 W' ∧ Below B W W' ∧ Arr W' g ty C'

/-- A run's stand with what did something; a run's stand with what flowed. -/
def crA (ps : List Ac) (sp : Option Addr) (n cap : Nat) (v : Value) : Array Value := (stC ps sp n cap ++ [v]).toArray
def flA (ps : List Ac) (sp : Option Addr) (n cap : Nat) (i u : Int) : Array Value := (stC ps sp n cap ++ [Value.int .u64 i, Value.int .u64 u]).toArray
theorem crA_size {ps : List Ac} {sp : Option Addr} {n cap : Nat} {v : Value} (h : ps.length = 32) (h2 : ∀ a ∈ ps, a.lk.length = 32) : (crA ps sp n cap v).size = 1090 := by
  simp [crA, stC_len h h2]
theorem flA_size {ps : List Ac} {sp : Option Addr} {n cap : Nat} {i u : Int} (h : ps.length = 32) (h2 : ∀ a ∈ ps, a.lk.length = 32) : (flA ps sp n cap i u).size = 1091 := by
  simp [flA, stC_len h h2]
theorem crA_one (ps : List Ac) (sp : Option Addr) (n cap : Nat) (s : Option Addr) (k c : Nat) : (crA ps sp n cap (.slice s k c)).all (·.oneCell') = true := all_oneCell_toArray (fun v hv => by
  rcases List.mem_append.1 hv with h | h
  · exact stC_one ps sp n cap v h
  · simp at h; subst h; rfl)
theorem flA_one (ps : List Ac) (sp : Option Addr) (n cap : Nat) (i u : Int) : (flA ps sp n cap i u).all (·.oneCell') = true := all_oneCell_toArray (fun v hv => by
  rcases List.mem_append.1 hv with h | h
  · exact stC_one ps sp n cap v h
  · simp at h; rcases h with rfl | rfl <;> rfl)
def zero30N : Array Value := stA zs none 0 0
def zero69N : Array Value := crA zs none 0 0 (.slice none 0 0)
def zero82N : Array Value := flA zs none 0 0 0 0
theorem zsize30 : zero30N.size = 1089 := stA_size zs_len zs_l32
theorem zsize69 : zero69N.size = 1090 := crA_size zs_len zs_l32
theorem zsize82 : zero82N.size = 1091 := flA_size zs_len zs_l32
theorem size30N : (Try.prog.info? 30).map (·.size) = some 1089 := by kernel_rfl
theorem size69N : (Try.prog.info? 69).map (·.size) = some 1090 := by kernel_rfl
theorem size82N : (Try.prog.info? 82).map (·.size) = some 1091 := by kernel_rfl
theorem zeroI30 : (Try.prog.info? 30).map (·.zero) = some (some (.agg zero30N)) := by kernel_rfl
theorem zeroI69 : (Try.prog.info? 69).map (·.zero) = some (some (.agg zero69N)) := by kernel_rfl
theorem zeroI82 : (Try.prog.info? 82).map (·.zero) = some (some (.agg zero82N)) := by kernel_rfl
theorem zeroV {t : Nat} {Z : Array Value} (h : (Try.prog.info? t).map (·.zero) = some (some (.agg Z))) (w : World) : (zeroValue t).run Try.prog w = .ok (.agg Z) w := by
  cases hq : Try.prog.info? t with
  | none => rw [hq] at h; cases h
  | some i =>
    rw [hq] at h
    have hz : i.zero = some (.agg Z) := by simpa using h
    simp [zeroValue, typeInfo, hq, hz]
theorem zeroValue30N (w : World) : (zeroValue 30).run Try.prog w = .ok (.agg zero30N) w := zeroV zeroI30 w
theorem zeroValue69N (w : World) : (zeroValue 69).run Try.prog w = .ok (.agg zero69N) w := zeroV zeroI69 w
theorem zeroValue82N (w : World) : (zeroValue 82).run Try.prog w = .ok (.agg zero82N) w := zeroV zeroI82 w
end Go.Proofs.Ytbhhbkoikocjgaa
/- Layer spec: what the layers below give. -/
namespace Go.Proofs.Ytbhhbkoikocjgaa
set_option linter.unusedSectionVars false
set_option maxHeartbeats 1000000
open Go.RowKit
set_option maxRecDepth 100000
set_option linter.unusedVariables false
set_option linter.unusedSimpArgs false

variable [DecidableEq Ac] [DecidableEq Ou] [DecidableEq Mg]
theorem list_take_ne {α : Type} {l l' : List α} {j : Nat} {a b : α} (ha : l[j]? = some a) (hb : l'[j]? = some b) (hab : a ≠ b) : l ≠ l' := fun e => by subst e; rw [ha] at hb; exact hab (Option.some.inj hb)
theorem list_ext_take {α : Type} {l l' : List α} (hl : l.length = l'.length) (h : ∀ i, i < l.length → l[i]? = l'[i]?) : l = l' := by
  apply List.ext_getElem?
  intro i
  by_cases hi : i < l.length
  · exact h i hi
  · rw [List.getElem?_eq_none (by omega), List.getElem?_eq_none (by omega)]
end Go.Proofs.Ytbhhbkoikocjgaa
/- Layer spec: what the layers below give. -/
namespace Go.Proofs.Ytbhhbkoikocjgaa
set_option linter.unusedSectionVars false
set_option maxHeartbeats 1000000
open Go.RowKit
set_option maxRecDepth 100000
set_option linter.unusedVariables false
set_option linter.unusedSimpArgs false

variable [DecidableEq Ac] [DecidableEq Ou] [DecidableEq Mg]
def smB (ps : List Ac) (os : List Ou) (qs : List Ac) (us : List Ou) : Bool := decide (ps = qs) && decide (os = us)
set_option maxHeartbeats 2000000 in
theorem refSsame_any (ps : List Ac) (N : Nat) (sp : Option Addr) (n cap : Nat) (ls : List Ou) (qs : List Ac) (N' : Nat) (sp' : Option Addr) (n' cap' : Nat) (ls' : List Ou) (w : World) (hS : SS N w ps sp n cap ls) (hT : SS N' w qs sp' n' cap' ls') :
    Calls Try.prog 10 #[.agg (stA ps sp n cap), .agg (stA qs sp' n' cap')] w fun e w' => e = .returned (.bool (smB ps ls qs ls')) ∧ Below w.heap.size w w' := by
  have hp1 := hS.a32.out
  have hp2 := hS.l32
  have hq1 := hT.a32.out
  have hq2 := hT.l32
  have hS := hS.here
  have hT := hT.here
  have A0 := (Arr.new w 30 (stA ps sp n cap)).alloc (.cells (stA qs sp' n' cap') 30)
  have D0 : Arr ((w.alloc (.cells (stA ps sp n cap) 30)).alloc (.cells (stA qs sp' n' cap') 30)) (w.heap.size + 1) 30 (stA qs sp' n' cap') := by simpa using Arr.new (w.alloc (.cells (stA ps sp n cap) 30)) 30 (stA qs sp' n' cap')
  have B0 := (alloc_bel' w (.cells (stA ps sp n cap) 30)).alloc (by simp) (.cells (stA qs sp' n' cap') 30)
  have heq := run_neq27 hp1 hq1 hp2 hq2
  have hsm : Hid (smB ps ls qs ls' = (decide (ps = qs) && decide (ls = ls'))) := Hid.mk' rfl
  have c1 := A0.stOut hp1 hp2
  have c2 := D0.stOut hq1 hq2
  have hl := hS.outs.len
  have hl' := hT.outs.len
  have hbn := hS.outs.small
  cases hd : decide (ps = qs) with
  | true =>
    rw [hd] at heq
    replace hsm : Hid (smB ps ls qs ls' = decide (ls = ls')) := Hid.mk' (by rw [hsm.out, hd]; rfl)
    clear hd
    by_cases hnn : n = n'
    · subst hnn
      have hlen : Hid (ls.length = ls'.length) := Hid.mk' (by rw [← hl.out, ← hl'.out])
      have hnn : ((n : Int) != n) = false := by simp
      have hS0 := (hS.below B0).outs.here
      have hS0' := (hT.below B0).outs.here
      clear hS hT
      go_enter Try.func10, Try.ntmps10
      go_upto_region 4 with (first
        | (refine ld27 (by rfl) _ (by rfl) w.heap.size 30 (by rfl) ps sp n cap hp1 hp2 A0 ?_)
        | (refine ld27 (by rfl) _ (by rfl) (w.heap.size + 1) 30 (by rfl) qs sp' n cap' hq1 hq2 D0 ?_))
      clear c1 c2
      have A1 := A0
      have D1 := D0
      clear A0 D0
      generalize (w.alloc (.cells (stA ps sp n cap) 30)).alloc (.cells (stA qs sp' n cap') 30) = W0 at *
      go_loopw [5] (fun q wr => ∃ j : Nat, q = .int .i64 (j : Int) ∧ j ≤ n ∧ Below W0.heap.size W0 wr ∧ Hid (∀ i, i < j → ls[i]? = ls'[i]?)) (fun q _ => n - (intOf q).toNat)
      case atStart => exact ⟨0, rfl, by omega, Below.refl _ _, Hid.mk' (fun i hi => by omega)⟩
      case round =>
        obtain ⟨j, rfl, hj, hbl, hsame⟩ := hrel
        have hszr := hbl.size
        have hS := hS0.below hbl
        have hS' := hS0'.below hbl
        have hA1 := A1.below hbl A1.lt
        have hA2 := D1.below hbl D1.lt
        have c1 := hA1.stOut hp1 hp2
        have c2 := hA2.stOut hq1 hq2
        by_cases hlt : j < n
        · have hI : (j : Int) < n := by omega
          obtain ⟨g, off, rfl, hgN, hR⟩ := hS.at0 (by omega)
          obtain ⟨g', off', rfl, hgN', hR'⟩ := hS'.at0 (by omega)
          obtain ⟨X, hX⟩ : ∃ X, ls[j]? = some X := ⟨ls[j]'(by rw [← hl.out]; exact hlt), List.getElem?_eq_getElem _⟩
          obtain ⟨Y, hY⟩ : ∃ X, ls'[j]? = some X := ⟨ls'[j]'(by rw [← hl'.out]; exact hlt), List.getElem?_eq_getElem _⟩
          have h1 := hR j X hX
          have h2 := hR' j Y hY
          have hgl : g < wr.heap.size := Nat.lt_of_lt_of_le hgN (by omega)
          have hgl' : g' < wr.heap.size := Nat.lt_of_lt_of_le hgN' (by omega)
          have hne := run_neq53 X Y
          replace hX := Hid.mk' hX
          replace hY := Hid.mk' hY
          clear hR hR'
          cases hd : decide (X = Y) with
          | true =>
            rw [hd] at hne
            have hXY := Hid.mk' (of_decide_eq_true hd)
            clear hd
            go_wp2_with fail
            refine wp_region_held_drew (S := fun u => Below wr.heap.size wr u) (by kernel_rfl) ((Below.refl _ _).drew) (fun hHeld => ?_)
            refine wpAnyH_take (i := 0) (oi := ⟨_, _, _, _, _, _⟩) (v := ?_) rfl (by kernel_rfl) (by kernel_rfl) (by kernel_rfl) (fun _ _ _ h => h) (Or.inl ⟨by rfl, ?_⟩) (by assumption) ?_
            rotate_left
            · intro u hSw
              go_simp
              try (with_reducible rfl)
            try simp only [Act.put, List.setIfInBounds_toArray, List.set_cons_zero, List.set_cons_succ]
            refine wpAnyH_take (i := 1) (oi := ⟨_, _, _, _, _, _⟩) (v := ?_) rfl (by kernel_rfl) (by kernel_rfl) (by kernel_rfl) (fun _ _ _ h => h) (Or.inl ⟨by rfl, ?_⟩) (by assumption) ?_
            rotate_left
            · intro u hSw
              have cc := (hSw.cell (p := ⟨w.heap.size, 1088, none⟩) hA1.lt).trans c1
              go_simp
              try (with_reducible rfl)
            try simp only [Act.put, List.setIfInBounds_toArray, List.set_cons_zero, List.set_cons_succ]
            refine wpAnyH_take (i := 2) (oi := ⟨_, _, _, _, _, _⟩) (v := ?_) rfl (by kernel_rfl) (by kernel_rfl) (by kernel_rfl) (fun _ _ _ h => h) (Or.inl ⟨by rfl, ?_⟩) (by assumption) ?_
            rotate_left
            · intro u hSw
              go_simp
              try (with_reducible rfl)
            try simp only [Act.put, List.setIfInBounds_toArray, List.set_cons_zero, List.set_cons_succ]
            refine wpAnyH_take (i := 3) (oi := ⟨_, _, _, _, _, _⟩) (v := ?_) rfl (by kernel_rfl) (by kernel_rfl) (by kernel_rfl) (fun _ _ _ h => h) (Or.inl ⟨by rfl, ?_⟩) (by assumption) ?_
            rotate_left
            · intro u hSw
              go_simp
              try (with_reducible rfl)
            try simp only [Act.put, List.setIfInBounds_toArray, List.set_cons_zero, List.set_cons_succ]
            refine wpAnyH_take (i := 4) (oi := ⟨_, _, _, _, _, _⟩) rfl (by kernel_rfl) (by kernel_rfl) (by kernel_rfl) (fun _ _ _ h => h) (y53 (by rfl) (.tmp 30) rfl g (off + j * 2) rfl X (fun u hu => range_below h1 hu hgl)) (by assumption) ?_
            try simp only [Act.put, List.setIfInBounds_toArray, List.set_cons_zero, List.set_cons_succ]
            refine wpAnyH_take (i := 5) (oi := ⟨_, _, _, _, _, _⟩) (v := ?_) rfl (by kernel_rfl) (by kernel_rfl) (by kernel_rfl) (fun _ _ _ h => h) (Or.inl ⟨by rfl, ?_⟩) (by assumption) ?_
            rotate_left
            · intro u hSw
              go_simp
              try (with_reducible rfl)
            try simp only [Act.put, List.setIfInBounds_toArray, List.set_cons_zero, List.set_cons_succ]
            refine wpAnyH_take (i := 6) (oi := ⟨_, _, _, _, _, _⟩) (v := ?_) rfl (by kernel_rfl) (by kernel_rfl) (by kernel_rfl) (fun _ _ _ h => h) (Or.inl ⟨by rfl, ?_⟩) (by assumption) ?_
            rotate_left
            · intro u hSw
              have cc := (hSw.cell (p := ⟨w.heap.size + 1, 1088, none⟩) hA2.lt).trans c2
              go_simp
              try (with_reducible rfl)
            try simp only [Act.put, List.setIfInBounds_toArray, List.set_cons_zero, List.set_cons_succ]
            refine wpAnyH_take (i := 7) (oi := ⟨_, _, _, _, _, _⟩) (v := ?_) rfl (by kernel_rfl) (by kernel_rfl) (by kernel_rfl) (fun _ _ _ h => h) (Or.inl ⟨by rfl, ?_⟩) (by assumption) ?_
            rotate_left
            · intro u hSw
              go_simp
              try (with_reducible rfl)
            try simp only [Act.put, List.setIfInBounds_toArray, List.set_cons_zero, List.set_cons_succ]
            refine wpAnyH_take (i := 8) (oi := ⟨_, _, _, _, _, _⟩) (v := ?_) rfl (by kernel_rfl) (by kernel_rfl) (by kernel_rfl) (fun _ _ _ h => h) (Or.inl ⟨by rfl, ?_⟩) (by assumption) ?_
            rotate_left
            · intro u hSw
              go_simp
              try (with_reducible rfl)
            try simp only [Act.put, List.setIfInBounds_toArray, List.set_cons_zero, List.set_cons_succ]
            refine wpAnyH_take (i := 9) (oi := ⟨_, _, _, _, _, _⟩) rfl (by kernel_rfl) (by kernel_rfl) (by kernel_rfl) (fun _ _ _ h => h) (y53 (by rfl) (.tmp 35) rfl g' (off' + j * 2) rfl Y (fun u hu => range_below h2 hu hgl')) (by assumption) ?_
            try simp only [Act.put, List.setIfInBounds_toArray, List.set_cons_zero, List.set_cons_succ]
            refine wpAnyH_take (i := 10) (oi := ⟨_, _, _, _, _, _⟩) (v := ?_) rfl (by kernel_rfl) (by kernel_rfl) (by kernel_rfl) (fun _ _ _ h => h) (Or.inl ⟨by rfl, ?_⟩) (by assumption) ?_
            rotate_left
            · intro u hSw
              go_simp
              try (with_reducible rfl)
            try simp only [Act.put, List.setIfInBounds_toArray, List.set_cons_zero, List.set_cons_succ]
            refine wpAnyH_done (by kernel_rfl) ?_ _

            go_wp2_with fail
            go_roundw
            case rel =>
              refine ⟨j + 1, by go_num, by omega, hbl.drew, Hid.mk' (fun i hi => ?_)⟩
              by_cases hij : i = j
              · subst hij; rw [hX.out, hY.out, hXY.out]
              · exact hsame.out i (by omega)
            case measure => simp [intOf]; omega
          | false =>
            rw [hd] at hne
            have hfin : Hid (decide (ls = ls') = false) := Hid.mk' (decide_eq_false (list_take_ne hX.out hY.out (of_decide_eq_false hd)))
            clear hd
            go_wp2_with fail
            refine wp_region_held_drew (S := fun u => Below wr.heap.size wr u) (by kernel_rfl) ((Below.refl _ _).drew) (fun hHeld => ?_)
            refine wpAnyH_take (i := 0) (oi := ⟨_, _, _, _, _, _⟩) (v := ?_) rfl (by kernel_rfl) (by kernel_rfl) (by kernel_rfl) (fun _ _ _ h => h) (Or.inl ⟨by rfl, ?_⟩) (by assumption) ?_
            rotate_left
            · intro u hSw
              go_simp
              try (with_reducible rfl)
            try simp only [Act.put, List.setIfInBounds_toArray, List.set_cons_zero, List.set_cons_succ]
            refine wpAnyH_take (i := 1) (oi := ⟨_, _, _, _, _, _⟩) (v := ?_) rfl (by kernel_rfl) (by kernel_rfl) (by kernel_rfl) (fun _ _ _ h => h) (Or.inl ⟨by rfl, ?_⟩) (by assumption) ?_
            rotate_left
            · intro u hSw
              have cc := (hSw.cell (p := ⟨w.heap.size, 1088, none⟩) hA1.lt).trans c1
              go_simp
              try (with_reducible rfl)
            try simp only [Act.put, List.setIfInBounds_toArray, List.set_cons_zero, List.set_cons_succ]
            refine wpAnyH_take (i := 2) (oi := ⟨_, _, _, _, _, _⟩) (v := ?_) rfl (by kernel_rfl) (by kernel_rfl) (by kernel_rfl) (fun _ _ _ h => h) (Or.inl ⟨by rfl, ?_⟩) (by assumption) ?_
            rotate_left
            · intro u hSw
              go_simp
              try (with_reducible rfl)
            try simp only [Act.put, List.setIfInBounds_toArray, List.set_cons_zero, List.set_cons_succ]
            refine wpAnyH_take (i := 3) (oi := ⟨_, _, _, _, _, _⟩) (v := ?_) rfl (by kernel_rfl) (by kernel_rfl) (by kernel_rfl) (fun _ _ _ h => h) (Or.inl ⟨by rfl, ?_⟩) (by assumption) ?_
            rotate_left
            · intro u hSw
              go_simp
              try (with_reducible rfl)
            try simp only [Act.put, List.setIfInBounds_toArray, List.set_cons_zero, List.set_cons_succ]
            refine wpAnyH_take (i := 4) (oi := ⟨_, _, _, _, _, _⟩) rfl (by kernel_rfl) (by kernel_rfl) (by kernel_rfl) (fun _ _ _ h => h) (y53 (by rfl) (.tmp 30) rfl g (off + j * 2) rfl X (fun u hu => range_below h1 hu hgl)) (by assumption) ?_
            try simp only [Act.put, List.setIfInBounds_toArray, List.set_cons_zero, List.set_cons_succ]
            refine wpAnyH_take (i := 5) (oi := ⟨_, _, _, _, _, _⟩) (v := ?_) rfl (by kernel_rfl) (by kernel_rfl) (by kernel_rfl) (fun _ _ _ h => h) (Or.inl ⟨by rfl, ?_⟩) (by assumption) ?_
            rotate_left
            · intro u hSw
              go_simp
              try (with_reducible rfl)
            try simp only [Act.put, List.setIfInBounds_toArray, List.set_cons_zero, List.set_cons_succ]
            refine wpAnyH_take (i := 6) (oi := ⟨_, _, _, _, _, _⟩) (v := ?_) rfl (by kernel_rfl) (by kernel_rfl) (by kernel_rfl) (fun _ _ _ h => h) (Or.inl ⟨by rfl, ?_⟩) (by assumption) ?_
            rotate_left
            · intro u hSw
              have cc := (hSw.cell (p := ⟨w.heap.size + 1, 1088, none⟩) hA2.lt).trans c2
              go_simp
              try (with_reducible rfl)
            try simp only [Act.put, List.setIfInBounds_toArray, List.set_cons_zero, List.set_cons_succ]
            refine wpAnyH_take (i := 7) (oi := ⟨_, _, _, _, _, _⟩) (v := ?_) rfl (by kernel_rfl) (by kernel_rfl) (by kernel_rfl) (fun _ _ _ h => h) (Or.inl ⟨by rfl, ?_⟩) (by assumption) ?_
            rotate_left
            · intro u hSw
              go_simp
              try (with_reducible rfl)
            try simp only [Act.put, List.setIfInBounds_toArray, List.set_cons_zero, List.set_cons_succ]
            refine wpAnyH_take (i := 8) (oi := ⟨_, _, _, _, _, _⟩) (v := ?_) rfl (by kernel_rfl) (by kernel_rfl) (by kernel_rfl) (fun _ _ _ h => h) (Or.inl ⟨by rfl, ?_⟩) (by assumption) ?_
            rotate_left
            · intro u hSw
              go_simp
              try (with_reducible rfl)
            try simp only [Act.put, List.setIfInBounds_toArray, List.set_cons_zero, List.set_cons_succ]
            refine wpAnyH_take (i := 9) (oi := ⟨_, _, _, _, _, _⟩) rfl (by kernel_rfl) (by kernel_rfl) (by kernel_rfl) (fun _ _ _ h => h) (y53 (by rfl) (.tmp 35) rfl g' (off' + j * 2) rfl Y (fun u hu => range_below h2 hu hgl')) (by assumption) ?_
            try simp only [Act.put, List.setIfInBounds_toArray, List.set_cons_zero, List.set_cons_succ]
            refine wpAnyH_take (i := 10) (oi := ⟨_, _, _, _, _, _⟩) (v := ?_) rfl (by kernel_rfl) (by kernel_rfl) (by kernel_rfl) (fun _ _ _ h => h) (Or.inl ⟨by rfl, ?_⟩) (by assumption) ?_
            rotate_left
            · intro u hSw
              go_simp
              try (with_reducible rfl)
            try simp only [Act.put, List.setIfInBounds_toArray, List.set_cons_zero, List.set_cons_succ]
            refine wpAnyH_done (by kernel_rfl) ?_ _

            go_wp2_with fail
            go_ret
            exact ⟨by rw [hsm.out, hfin.out]; rfl, (B0.trans (hbl.mono B0.size)).drew⟩
        · obtain rfl : j = n := by omega
          have hI : ¬ (j : Int) < j := by omega
          have hfin : Hid (decide (ls = ls') = true) := Hid.mk' (decide_eq_true (list_ext_take hlen.out (by rw [← hl.out]; exact hsame.out)))
          go_wp2_with fail
          go_ret
          exact ⟨by rw [hsm.out, hfin.out]; rfl, (B0.trans (hbl.mono B0.size))⟩
    · have hne : ((n : Int) != n') = true := by simp; omega
      have hfin : Hid (decide (ls = ls') = false) := Hid.mk' (decide_eq_false (fun e => hnn (by rw [hl.out, hl'.out, e])))
      replace hnn := Hid.mk' hnn
      go_enter Try.func10, Try.ntmps10
      go_wp2_with (first
        | (refine ld27 (by rfl) _ (by rfl) w.heap.size 30 (by rfl) ps sp n cap hp1 hp2 A0 ?_)
        | (refine ld27 (by rfl) _ (by rfl) (w.heap.size + 1) 30 (by rfl) qs sp' n' cap' hq1 hq2 D0 ?_))
      go_ret
      exact ⟨by rw [hsm.out, hfin.out]; rfl, B0⟩
  | false =>
    rw [hd] at heq
    replace hsm : Hid (smB ps ls qs ls' = false) := Hid.mk' (by rw [hsm.out, hd]; rfl)
    clear hd
    go_enter Try.func10, Try.ntmps10
    go_wp2_with (first
      | (refine ld27 (by rfl) _ (by rfl) w.heap.size 30 (by rfl) ps sp n cap hp1 hp2 A0 ?_)
      | (refine ld27 (by rfl) _ (by rfl) (w.heap.size + 1) 30 (by rfl) qs sp' n' cap' hq1 hq2 D0 ?_))
    go_ret
    exact ⟨by rw [hsm.out]; rfl, B0⟩
end Go.Proofs.Ytbhhbkoikocjgaa
