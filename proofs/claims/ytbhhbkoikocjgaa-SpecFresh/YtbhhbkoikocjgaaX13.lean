/- ZMi, Nc, Nv0. -/
import Derived.Test.YtbhhbkoikocjgaaX01
import Derived.Test.YtbhhbkoikocjgaaX02
import Derived.Test.YtbhhbkoikocjgaaX03
import Derived.Test.YtbhhbkoikocjgaaX04
import Derived.Test.YtbhhbkoikocjgaaX05
import Derived.Test.YtbhhbkoikocjgaaX06
import Derived.Test.YtbhhbkoikocjgaaX07
import Derived.Test.YtbhhbkoikocjgaaX12
import Derived.BigQuiet
import Derived.BigRegion
import Derived.ChangeKeysEq
import Derived.Deep.DeepCutAuto
import Derived.Deep.DrawnRows
import Derived.Deep.MidRow
import Derived.Deep.QuietTactic
import Derived.Deep.RegionHeld3
import Derived.Deep.RegionLaw
import Derived.Deep.RegionWith
import Derived.Deep.WholeRow
import Derived.Laws.AppendOwnNone
import Derived.Laws.BitsLemmas
import Derived.Laws.BytesArg
import Derived.Laws.CopyOwn
import Derived.Lib.SlBytesConst
import Derived.LoopIn
import Derived.LoopNIn
import Derived.OwnWalkIn
import Derived.RangeFuncBound
import Derived.RangeFuncCalls
import Derived.RangeFuncLeaves
import Derived.RangeFuncNested
import Derived.RangeFuncRecord
import Derived.Shelf.Abstract
import Derived.Shelf.RegionOpen
import Derived.TacticsInMore
import Derived.WalkKit
import Derived.WalkLawsBesides
import Derived.WalkSpells
/- Layer spec: what the layers below give. -/
namespace Go.Proofs.Ytbhhbkoikocjgaa
set_option linter.unusedSectionVars false
set_option maxHeartbeats 1000000
open Go.RowKit Go.Shelf
set_option maxRecDepth 100000
set_option linter.unusedVariables false
set_option linter.unusedSimpArgs false

variable [DecidableEq Ac] [DecidableEq Ou] [DecidableEq Mg]
theorem callsIn_round {l n : Nat} {f : FuncId} {args : Array Value} {w : World} {R : Ending → World → Prop} (h : Calls Try.prog f args w R) : CallsIn (Fence.wide.inRound l) n Try.prog f args w R :=
  (callsIn_wide (n := n)).2 h
theorem rowsIn_round {l n : Nat} {row : String} {args : Array Value} {w : World} {R : Value → World → Prop} (h : Rows Try.prog row args w R) : RowsIn (Fence.wide.inRound l) n Try.prog row args w R := fun c cs _ => by
  obtain ⟨v, w', r, s⟩ := h c cs
  exact ⟨v, w', r, (stepsIn_wide (P := Try.prog)).2 s⟩
/-- An operation that is no defer does in a round what it does elsewhere. -/
theorem opIn {l n : Nat} {o : Oper} {a : Act} {w : World} {K : Act → World → Prop} {Q : Exit → Act → World → Prop} (hd : ∀ c, o.op ≠ .defer c) (h : o.wp Try.prog a w K Q) : o.wpIn (Fence.wide.inRound l) n Try.prog a w K Q := by
  refine ⟨fun _ _ => trivial, ?_⟩
  rw [Oper.semAt_plain _ _ _ hd]
  unfold Oper.wp at h
  generalize (execOp a.eval o).run Try.prog w = r at *
  cases r with
  | ok x w' =>
    cases x <;> simp only [Oper.upon, Oper.uponIn] at h ⊢ <;>
      first
        | exact h
        | exact ⟨(fun h' => by cases h'), callsIn_round h⟩
        | exact ⟨(fun h' => by cases h'), rowsIn_round h⟩
  | halt x w' => cases x <;> simp only [Oper.upon, Oper.uponIn] at h ⊢ <;> exact h
def noDefer (ops : Array Oper) : Bool := ops.all fun o => match o.op with | .defer _ => false | _ => true
theorem noDefer_get {ops : Array Oper} (h : noDefer ops = true) {i : Nat} {o : Oper} (hi : ops[i]? = some o) : ∀ c, o.op ≠ .defer c := by
  intro c hc
  have := (Array.all_eq_true_iff_forall_mem.1 h) o (Array.mem_of_getElem? hi)
  rw [hc] at this
  cases this
theorem wpOpIn_of {l n : Nat} {ops : Array Oper} (hd : noDefer ops = true) {Q : Exit → Act → World → Prop} {i : Nat} {K : Act → World → Prop} {a : Act} {w : World} (hno : ¬ LetsOut Q) (h : wpOp Try.prog ops Q i K a w) : wpOpIn (Fence.wide.inRound l) n Try.prog ops Q i K a w := by
  unfold wpOp at h
  unfold wpOpIn
  cases ho : ops[i]? with
  | none => simpa [ho] using h
  | some o =>
    simp only [ho] at h ⊢
    split
    · rename_i hw
      rw [if_pos hw] at h
      rcases h with h | h
      · exact opIn (noDefer_get hd ho) h
      · exact absurd h.2 hno
    · rename_i hw
      rw [if_neg hw] at h
      exact ⟨fun _ _ => trivial, h⟩
theorem wpAnyIn_of {l n : Nat} {ops : Array Oper} (hd : noDefer ops = true) {md : Region.Mode} {Q : Exit → Act → World → Prop} (hno : ¬ LetsOut Q) : ∀ (fuel : Nat) (listed : Array Bool) (a : Act) (w : World), wpAny Try.prog md ops Q fuel listed a w → wpAnyIn (Fence.wide.inRound l) n Try.prog md ops Q fuel listed a w
  | 0, _, _, _, h => h
  | fuel + 1, _, _, _, h => ⟨h.1, fun i hi => wpOpIn_mono (fun a' w' h' => wpAnyIn_of hd hno fuel _ a' w' h') (wpOpIn_of hd hno (h.2 i hi))⟩
/-- Only the normal way out. -/
def Q0 (Q : Exit → Act → World → Prop) : Exit → Act → World → Prop
  | .normal, a, w => Q .normal a w
  | _, _, _ => False
/-- A region that draws its order, in a round. -/
theorem region_round {l n id : Nat} {ops : Array Oper} {S : World → Prop} {Q : Exit → Act → World → Prop} {a : Act} {w : World} (hm : Try.prog.follows .mixedOrders = true) (hd : noDefer ops = true) (hS : S w.drew)
    (h : S w.drew → wpAnyH Try.prog .any ops (Q0 Q) S ops.size (Array.replicate ops.size false) a w.drew) : (Code.region id ops true).wpIn (Fence.wide.inRound l) n Try.prog Q a w := by
  refine wpIn_mono (Q := Q0 Q) (wpIn_region_any hm (wpAnyIn_of hd (by rintro ⟨_, _, h⟩; exact h) _ _ _ _ (wpAny_of_held _ _ _ _ (h hS)))) ?_
  intro e a w hq
  cases e <;> first | exact hq | exact hq.elim
/-- The laws of sums, in a round. -/
theorem li24 {l n : Nat} {ops : Array Oper} {rest : List Oper} {o : Oper} {a : Act} {w : World} {Q : Exit → Act → World → Prop} (hgd : o.guard = none) (x : Operand) (ho : o.op = .load 24 x)
    (b off : Nat) (hx : a.eval x = .pointer (some ⟨b, off, none⟩)) (X : List Int) (hX : X.length = 32) (hc : w.rangeAt b off (by8 X))
    (h : wpListIn (Fence.wide.inRound l) n Try.prog ops Q rest (a.put o.dst (.agg (h8 X))) w) : wpListIn (Fence.wide.inRound l) n Try.prog ops Q (o :: rest) a w :=
  wpListIn_plain hgd fun _ hK => opIn (by rw [ho]; intro c hc; cases hc) (wp_load_mid 24 x ho b off hx (by8 X) _ hc Try.underlying24 rfl (by rw [by8_len, hX]; exact size24) (hK _ _ h))
theorem si24 {l n : Nat} {ops : Array Oper} {rest : List Oper} {o : Oper} {a : Act} {w : World} {Q : Exit → Act → World → Prop} (hgd : o.guard = none) (x y : Operand) (ho : o.op = .store 24 x y)
    (g : Nat) (X Y : List Int) (hx : a.eval x = .pointer (some ⟨g, 0, none⟩)) (hy : a.eval y = .agg (h8 X)) (hX : X.length = 32) (hY : Y.length = 32) (hg : Arr w g 24 (h8 Y))
    (h : wpListIn (Fence.wide.inRound l) n Try.prog ops Q rest (a.put o.dst undef) (w.setRow g (h8 X))) : wpListIn (Fence.wide.inRound l) n Try.prog ops Q (o :: rest) a w :=
  wpListIn_plain hgd fun _ hK => opIn (by rw [ho]; intro c hc; cases hc) (wp_store_row 24 x y ho g (h8 X) hx hy 24 _ hg (s24h8 hX) (by rw [h8_size, h8_size, hX, hY]) (h8_one X) (hK _ _ h))
theorem si24n {l n : Nat} {ops : Array Oper} {rest : List Oper} {o : Oper} {a : Act} {Q : Exit → Act → World → Prop} (hgd : o.guard = none) (x y : Operand) (ho : o.op = .store 24 x y) (W : World) (g : Nat) (hgW : W.heap.size = g) {z : Array Value} (hz : z.size = 32)
    (X : List Int) (hx : a.eval x = .pointer (some ⟨g, 0, none⟩)) (hy : a.eval y = .agg (h8 X)) (hX : X.length = 32)
    (h : wpListIn (Fence.wide.inRound l) n Try.prog ops Q rest (a.put o.dst undef) (W.alloc (.cells (h8 X) 24))) : wpListIn (Fence.wide.inRound l) n Try.prog ops Q (o :: rest) a (W.alloc (.cells z 24)) := by
  subst hgW
  exact wpListIn_plain hgd fun _ hK => opIn (by rw [ho]; intro c hc; cases hc) (wp_store_row 24 x y ho W.heap.size (h8 X) hx hy 24 z (Arr.new W 24 z) (s24h8 hX) (by rw [hz, h8_size, hX]) (h8_one X) (hK _ _ (by rw [World.setRow_alloc_new]; exact h)))
/-- .. and outside of one. -/
theorem opInw {n : Nat} {o : Oper} {a : Act} {w : World} {K : Act → World → Prop} {Q : Exit → Act → World → Prop} (hd : ∀ c, o.op ≠ .defer c) (h : o.wp Try.prog a w K Q) : o.wpIn Fence.wide n Try.prog a w K Q := by
  refine ⟨fun _ _ => trivial, ?_⟩
  rw [Oper.semAt_plain _ _ _ hd]
  unfold Oper.wp at h
  generalize (execOp a.eval o).run Try.prog w = r at *
  cases r with
  | ok x w' =>
    cases x <;> simp only [Oper.upon, Oper.uponIn] at h ⊢ <;>
      first
        | exact h
        | exact ⟨(fun h' => by cases h'), (callsIn_wide (n := n - 1)).2 h⟩
        | exact ⟨(fun h' => by cases h'), (rowsIn_round (l := 0) h : RowsIn Fence.wide _ _ _ _ _ _)⟩
  | halt x w' => cases x <;> simp only [Oper.upon, Oper.uponIn] at h ⊢ <;> exact h
theorem li24w {n : Nat} {ops : Array Oper} {rest : List Oper} {o : Oper} {a : Act} {w : World} {Q : Exit → Act → World → Prop} (hgd : o.guard = none) (x : Operand) (ho : o.op = .load 24 x)
    (b off : Nat) (hx : a.eval x = .pointer (some ⟨b, off, none⟩)) (X : List Int) (hX : X.length = 32) (hc : w.rangeAt b off (by8 X))
    (h : wpListIn Fence.wide n Try.prog ops Q rest (a.put o.dst (.agg (h8 X))) w) : wpListIn Fence.wide n Try.prog ops Q (o :: rest) a w :=
  wpListIn_plain hgd fun _ hK => opInw (by rw [ho]; intro c hc; cases hc) (wp_load_mid 24 x ho b off hx (by8 X) _ hc Try.underlying24 rfl (by rw [by8_len, hX]; exact size24) (hK _ _ h))
theorem si24w {n : Nat} {ops : Array Oper} {rest : List Oper} {o : Oper} {a : Act} {w : World} {Q : Exit → Act → World → Prop} (hgd : o.guard = none) (x y : Operand) (ho : o.op = .store 24 x y)
    (g : Nat) (X Y : List Int) (hx : a.eval x = .pointer (some ⟨g, 0, none⟩)) (hy : a.eval y = .agg (h8 X)) (hX : X.length = 32) (hY : Y.length = 32) (hg : Arr w g 24 (h8 Y))
    (h : wpListIn Fence.wide n Try.prog ops Q rest (a.put o.dst undef) (w.setRow g (h8 X))) : wpListIn Fence.wide n Try.prog ops Q (o :: rest) a w :=
  wpListIn_plain hgd fun _ hK => opInw (by rw [ho]; intro c hc; cases hc) (wp_store_row 24 x y ho g (h8 X) hx hy 24 _ hg (s24h8 hX) (by rw [h8_size, h8_size, hX, hY]) (h8_one X) (hK _ _ h))
/-- A range over a function with two loop variables that is called once, and always goes on. -/
theorem wp_range2 {g : Operand} {ts : Array Tmp} {assign body : Code} {Q : Exit → Act → World → Prop} {a : Act} {W0 : World} (gf : Nat) (lb : Array Value) (hg : a.eval g = .func (.func gf) #[] lb) (eg : ∀ args w, (callFunc gf args).run Try.prog w = .ok (.enter gf args) w)
    (I : World → Prop)
    (hcall : ∀ rc : Loop, rc.state = .ready → rc.pending = none → rc.params = ts → rc.tmps = a.tmps → rc.assign = assign → rc.body = body →
      CallsIn Fence.wide 2 Try.prog gf (#[.func (.yield (W0.heap.size + 1)) #[] #[]] ++ lb) ((W0.alloc (.deferred (some []))).alloc (.loop rc)) fun e W' => (∃ v, e = .returned v) ∧ I W' ∧ W'.heap[W0.heap.size + 1]? = some (.loop rc) ∧ W'.heap[W0.heap.size]? = some (.deferred (some [])))
    (hdone : ∀ W' o, I W' → W'.heap[W0.heap.size]? = some (.deferred (some [])) → Q .normal { a with defers := { target := .collected W0.heap.size, args := #[] } :: a.defers } (W'.putObj (W0.heap.size + 1) o)) :
    (Code.rangeFunc g ts assign body).wpIn Fence.wide 3 Try.prog Q a W0 := by
  refine wpIn_rangeFunc fun fn hfn => ?_
  have hent := run_enterLoop_outer (P := Try.prog) (w := W0) fn a.tmps ts assign body
  obtain ⟨rc, hrc⟩ : ∃ rc : Loop, rc = { state := .ready, pending := none, fn, tmps := a.tmps, params := ts, assign, body, defers := W0.heap.size } := ⟨_, rfl⟩
  rw [← hrc] at hent
  refine ⟨_, _, _, { target := .fn (.func gf) lb, args := #[.func (.yield (W0.heap.size + 1)) #[] #[]] }, (W0.alloc (.deferred (some []))).alloc (.loop rc), gf, #[.func (.yield (W0.heap.size + 1)) #[] #[]] ++ lb, (W0.alloc (.deferred (some []))).alloc (.loop rc), hent, ?_, fun _ _ => trivial, ?_, fun h => (by cases h), ?_⟩
  · simp only [resolve, hg]
    simp [go_sem]
  · simp [invoke, go_sem, eg]
  · refine (hcall rc (by rw [hrc]) (by rw [hrc]) (by rw [hrc]) (by rw [hrc]) (by rw [hrc]) (by rw [hrc])).mono ?_
    rintro e W2 ⟨⟨v, rfl⟩, hI, hl, hk⟩
    have hend := run_endLoop (P := Try.prog) hl (by rw [hrc]; simp)
    rw [show rc.pending = none by rw [hrc]] at hend
    exact ⟨none, _, hend, hdone W2 _ hI hk⟩
/-- One round. -/
theorem yield_at2 {l m : Nat} {t u : Tmp} {rc : Loop} {W : World} {R : Ending → World → Prop} (x y : Value) (hl : W.heap[l]? = some (.loop rc)) (hp : rc.params = #[t, u])
    (h : rc.assign.wpIn (Fence.wide.inRound l) m Try.prog (Exit.then (fun a₁ w₁ => ∃ w₂, (Instr.beginRound l).run Try.prog w₁ = .ok () w₂ ∧ rc.body.wpIn (Fence.wide.inRound l) m Try.prog (roundPost Try.prog l R) a₁ w₂) (fun _ _ _ => False)) { tmps := (rc.tmps.setIfInBounds t x).setIfInBounds u y, defers := [] } W) :
    YieldAt Fence.wide m Try.prog l #[x, y] W R :=
  ⟨_, _, _, _, run_yield hl (by rw [hp]; rfl), roundIn_of_wpIn trivial (by rw [hp]; simpa using h)⟩
end Go.Proofs.Ytbhhbkoikocjgaa
/- Layer spec: a range over a function that tells numbered great values, left early or not. -/
namespace Go.Proofs.Ytbhhbkoikocjgaa
set_option linter.unusedSectionVars false
set_option maxHeartbeats 1000000
open Go.RowKit Go.Shelf
set_option maxRecDepth 100000
set_option linter.unusedVariables false
set_option linter.unusedSimpArgs false
variable [DecidableEq Ac] [DecidableEq Ou] [DecidableEq Mg]
attribute [local go_sem] Oper.semAt_some


theorem bel_put {B : Nat} {a w : World} (h : Below B a w) {r : Nat} (hr : B ≤ r) (o : Obj) : Below B a (w.putObj r o) :=
  ⟨h.os, h.tape, h.output, by simpa using h.size, fun k hk => (World.putObj_heap_other (by omega)).trans (h.block k hk)⟩
theorem Arr.putO {w : World} {g ty : Nat} {C : Array Value} (h : Arr w g ty C) {r : Nat} (o : Obj) (hne : g ≠ r) : Arr (w.putObj r o) g ty C := (World.putObj_heap_other hne).trans h
theorem Arr.whole {w : World} {g ty : Nat} {C : Array Value} (h : Arr w g ty C) : w.rangeAt g 0 C.toList := fun j v hv => by
  rw [Nat.zero_add, h.cell]; simpa using hv
/-- A range over a function: it is called once; a round goes on, or leaves it. -/
theorem wp_rangeY {k : Nat} {g : Operand} {ts : Array Tmp} {assign body : Code} {Q : Exit → Act → World → Prop} {a : Act} {W0 : World} (gf : Nat) (lb : Array Value) (hg : a.eval g = .func (.func gf) #[] lb) (eg : ∀ args w, (callFunc gf args).run Try.prog w = .ok (.enter gf args) w)
    (I : World → Prop) (X : Code → World → Prop)
    (hcall : ∀ rc : Loop, rc.state = .ready → rc.pending = none → rc.params = ts → rc.tmps = a.tmps → rc.assign = assign → rc.body = body →
      CallsIn Fence.wide (k - 1) Try.prog gf (#[.func (.yield (W0.heap.size + 1)) #[] #[]] ++ lb) ((W0.alloc (.deferred (some []))).alloc (.loop rc)) fun e W' => (∃ v, e = .returned v) ∧ W'.heap[W0.heap.size]? = some (.deferred (some [])) ∧ ((I W' ∧ W'.heap[W0.heap.size + 1]? = some (.loop rc)) ∨ ∃ c, X c W' ∧ W'.heap[W0.heap.size + 1]? = some (.loop { rc with state := .done, pending := some c })))
    (hdone : ∀ W' o, I W' → W'.heap[W0.heap.size]? = some (.deferred (some [])) → Q .normal { a with defers := { target := .collected W0.heap.size, args := #[] } :: a.defers } (W'.putObj (W0.heap.size + 1) o))
    (hstop : ∀ c W' o, X c W' → W'.heap[W0.heap.size]? = some (.deferred (some [])) → c.wpIn Fence.wide k Try.prog Q { a with defers := { target := .collected W0.heap.size, args := #[] } :: a.defers } (W'.putObj (W0.heap.size + 1) o)) :
    (Code.rangeFunc g ts assign body).wpIn Fence.wide k Try.prog Q a W0 := by
  refine wpIn_rangeFunc fun fn hfn => ?_
  have hent := run_enterLoop_outer (P := Try.prog) (w := W0) fn a.tmps ts assign body
  obtain ⟨rc, hrc⟩ : ∃ rc : Loop, rc = { state := .ready, pending := none, fn, tmps := a.tmps, params := ts, assign, body, defers := W0.heap.size } := ⟨_, rfl⟩
  rw [← hrc] at hent
  refine ⟨_, _, _, { target := .fn (.func gf) lb, args := #[.func (.yield (W0.heap.size + 1)) #[] #[]] }, (W0.alloc (.deferred (some []))).alloc (.loop rc), gf, #[.func (.yield (W0.heap.size + 1)) #[] #[]] ++ lb, (W0.alloc (.deferred (some []))).alloc (.loop rc), hent, ?_, fun _ _ => trivial, ?_, fun h => (by cases h), ?_⟩
  · simp only [resolve, hg]
    simp [go_sem]
  · simp [invoke, go_sem, eg]
  · refine (hcall rc (by rw [hrc]) (by rw [hrc]) (by rw [hrc]) (by rw [hrc]) (by rw [hrc]) (by rw [hrc])).mono ?_
    rintro e W2 ⟨⟨v, rfl⟩, hk, ⟨hI, hl⟩ | ⟨c, hX, hl⟩⟩
    · have hend := run_endLoop (P := Try.prog) hl (by rw [hrc]; simp)
      rw [show rc.pending = none by rw [hrc]] at hend
      exact ⟨none, _, hend, hdone W2 _ hI hk⟩
    · have hend := run_endLoop (P := Try.prog) hl (by simp)
      exact ⟨some c, _, hend, hstop c W2 _ hX hk⟩
/-- An iterator tells 0 to n with a great value each. B: its own blocks lie from there on; M: what it wants of the memory below; T j C W: C is the value of number j; R C b: the block b is handed over with C. -/
def Teller (gf : Nat) (lb : Array Value) (B : Nat) (M : World → Prop) (T : Nat → Array Value → World → Prop) (R : Array Value → Nat → Prop) (n : Nat) : Prop :=
  ∀ (k lp : Nat) (J : Nat → Array Value → World → Prop) (X : World → Prop),
    (∀ j C W, J j C W → M W ∧ B ≤ W.heap.size) →
    (∀ j C W W', J j C W → Below B W W' → J j C W') →
    (∀ j C0 C W, J j C0 W → j ≤ n → T j C W → YieldAt Fence.wide (k - 1) Try.prog lp #[.int .i64 (j : Int), .agg C] W fun r W' => (r = .returned (.bool true) ∧ J (j + 1) C W' ∧ W.heap.size ≤ W'.heap.size ∧ ∀ b, B ≤ b → b < W.heap.size → ¬ R C b → W'.heap[b]? = W.heap[b]?) ∨ (r = .returned (.bool false) ∧ X W')) →
    ∀ W C0, J 0 C0 W → CallsIn Fence.wide k Try.prog gf (#[.func (.yield lp) #[] #[]] ++ lb) W fun e W' => (∃ v, e = .returned v) ∧ ((∃ C, J (n + 1) C W' ∧ T n C W') ∨ X W')
/-- The value stays what it is where nothing from B on changes, and what is wanted below stands. -/
def Stays (B : Nat) (M : World → Prop) (T : Nat → Array Value → World → Prop) : Prop :=
  ∀ j C W W', T j C W → M W' → W.heap.size ≤ W'.heap.size → (∀ b, B ≤ b → b < W.heap.size → W'.heap[b]? = W.heap[b]?) → T j C W'
/-- How a round may end. -/
def RoundEnds (I : World → Prop) (X : Code → World → Prop) (K : World → Prop) : Exit → Act → World → Prop
  | .normal, _, w => I w ∧ K w
  | .ret, _, w => X .ret w ∧ K w
  | .exit id, _, w => X (.exit id) w ∧ K w
  | _, _, _ => False
theorem range_tell {k : Nat} {g : Operand} {t u : Tmp} {assign body : Code} {Q : Exit → Act → World → Prop} {a : Act} {W0 : World} (gf : Nat) (lb : Array Value) (D : Nat) (hD : W0.heap.size = D) (hg : a.eval g = .func (.func gf) #[] lb) (eg : ∀ args w, (callFunc gf args).run Try.prog w = .ok (.enter gf args) w)
    (n : Nat) (M : World → Prop) (T : Nat → Array Value → World → Prop) (R : Array Value → Nat → Prop) (ht : Teller gf lb (D + 2) M T R n) (hst : Stays (D + 2) M T) (hRo : ∀ j C W b, T j C W → R C b → D + 2 ≤ b)
    (I : Nat → Array Value → World → Prop) (X : Code → World → Prop) (hIM : ∀ j C W, I j C W → M W) (hIB : ∀ j C W W', I j C W → Below D W W' → I j C W') (hXp : ∀ c W r o, X c W → D ≤ r → X c (W.putObj r o)) (C0 : Array Value) (h0 : I 0 C0 W0)
    (hround : ∀ j Cp C W, I j Cp W → j ≤ n → T j C W → D + 2 ≤ W.heap.size → ∀ m,
      assign.wpIn (Fence.wide.inRound (D + 1)) m Try.prog (Exit.then (fun a1 w1 => Below W.heap.size W w1 ∧ ∀ w2, Below (D + 1) w1 w2 → (∀ b, D + 2 ≤ b → w2.heap[b]? = w1.heap[b]?) → w2.heap.size = w1.heap.size → I j Cp w2 → T j C w2 →
        body.wpIn (Fence.wide.inRound (D + 1)) m Try.prog (RoundEnds (I (j + 1) C) X (fun w3 => w2.heap.size ≤ w3.heap.size ∧ ∀ b, D ≤ b → b < W.heap.size → ¬ R C b → w3.heap[b]? = w2.heap[b]?)) a1 w2) (fun _ _ _ => False))
        { tmps := (a.tmps.setIfInBounds t (.int .i64 (j : Int))).setIfInBounds u (.agg C), defers := [] } W)
    (hdone : ∀ C W' o, I (n + 1) C W' → T n C (W'.putObj (D + 1) o) → D + 2 ≤ W'.heap.size → W'.heap[D]? = some (.deferred (some [])) → Q .normal { a with defers := { target := .collected D, args := #[] } :: a.defers } (W'.putObj (D + 1) o))
    (hstop : ∀ c W' o, X c W' → D + 2 ≤ W'.heap.size → W'.heap[D]? = some (.deferred (some [])) → c.wpIn Fence.wide k Try.prog Q { a with defers := { target := .collected D, args := #[] } :: a.defers } (W'.putObj (D + 1) o)) :
    (Code.rangeFunc g #[t, u] assign body).wpIn Fence.wide k Try.prog Q a W0 := by
  subst hD
  refine wp_rangeY gf lb hg eg (fun W => ∃ C, I (n + 1) C W ∧ T n C W ∧ W0.heap.size + 2 ≤ W.heap.size) (fun c W => X c W ∧ W0.heap.size + 2 ≤ W.heap.size) ?_ (fun W' o h1 h2 => ?_) (fun c W' o h1 h2 => hstop c W' o h1.1 h1.2 h2)
  rotate_left
  · obtain ⟨C, hI, hT, hs⟩ := h1
    refine hdone C W' o hI (hst n C W' _ hT (hIM _ _ _ (hIB _ _ _ _ hI (bel_put (Below.refl _ _) (by omega) _))) (by simp) fun b hb1 hb2 => World.putObj_heap_other (by omega)) hs h2
  intro rc h1 hpend h2 h3 h4 h5
  refine (ht (k - 1) (W0.heap.size + 1) (fun j C W => I j C W ∧ W.heap[W0.heap.size]? = some (.deferred (some [])) ∧ W.heap[W0.heap.size + 1]? = some (.loop rc) ∧ W0.heap.size + 2 ≤ W.heap.size) (fun W => ∃ c, X c W ∧ W.heap[W0.heap.size]? = some (.deferred (some [])) ∧ W.heap[W0.heap.size + 1]? = some (.loop { rc with state := .done, pending := some c }) ∧ W0.heap.size + 2 ≤ W.heap.size) ?hJc ?hJB ?hY _ C0 ?h0).mono ?fin
  case hJc => exact fun j C W h => ⟨hIM j C W h.1, h.2.2.2⟩
  case hJB => exact fun j C W W' h hb => ⟨hIB j C W W' h.1 (hb.mono (by omega)), (hb.block _ (by omega)).trans h.2.1, (hb.block _ (by omega)).trans h.2.2.1, Nat.le_trans h.2.2.2 hb.size⟩
  case fin =>
    rintro e W' ⟨hv, ⟨C, ⟨hI, hdf, hlp, hsz⟩, hT⟩ | ⟨c, hX, hdf, hlp, hsz⟩⟩
    · exact ⟨hv, hdf, .inl ⟨⟨C, hI, hT, hsz⟩, hlp⟩⟩
    · exact ⟨hv, hdf, .inr ⟨c, ⟨hX, hsz⟩, hlp⟩⟩
  case h0 =>
    have hb : Below W0.heap.size W0 ((W0.alloc (.deferred (some []))).alloc (.loop rc)) := (alloc_bel' W0 _).alloc (by simp) _
    refine ⟨hIB 0 C0 W0 _ h0 hb, ?_, ?_, by simp⟩
    · rw [Below.heap_alloc _ _ _ (by simp)]; exact heap_alloc_new W0 _
    · have := heap_alloc_new (W0.alloc (.deferred (some []))) (.loop rc)
      rwa [World.size_alloc] at this
  case hY =>
    rintro j Cp C W ⟨hI, hdf, hlp, hsz⟩ hj hT
    refine yield_at2 _ _ hlp h2 ?_
    rw [h3, h4, h5]
    refine wpIn_mono (hround j Cp C W hI hj hT hsz _) ?_
    intro e a1 w1 hq
    cases e with
    | normal =>
      obtain ⟨hb1, hbody⟩ := hq
      have hl1 : w1.heap[W0.heap.size + 1]? = some (.loop rc) := (hb1.block _ (by omega)).trans hlp
      have hs1 := hb1.size
      refine ⟨_, run_beginRound hl1 h1, ?_⟩
      have hs2 : (w1.putObj (W0.heap.size + 1) (.loop { rc with state := .busy })).heap.size = w1.heap.size := by simp
      have hI2 : I j Cp (w1.putObj (W0.heap.size + 1) (.loop { rc with state := .busy })) := hIB _ _ _ _ hI (bel_put (hb1.mono (by omega)) (by omega) _)
      have hT2 : T j C (w1.putObj (W0.heap.size + 1) (.loop { rc with state := .busy })) := hst j C W _ hT (hIM _ _ _ hI2) (by simp; omega) (fun b hb1' hb2' => (World.putObj_heap_other (by omega)).trans (hb1.block b hb2'))
      refine wpIn_mono (hbody _ (bel_put (Below.refl _ _) (Nat.le_refl _) _) (fun b hb => World.putObj_heap_other (by omega)) hs2 hI2 hT2) ?_
      have keep : ∀ w3 : World, (w1.putObj (W0.heap.size + 1) (.loop { rc with state := .busy })).heap.size ≤ w3.heap.size → (∀ b, W0.heap.size ≤ b → b < W.heap.size → ¬ R C b → w3.heap[b]? = (w1.putObj (W0.heap.size + 1) (.loop { rc with state := .busy })).heap[b]?) →
          w3.heap[W0.heap.size + 1]? = some (.loop { rc with state := .busy }) ∧ w3.heap[W0.heap.size]? = some (.deferred (some [])) ∧ W.heap.size ≤ w3.heap.size ∧ ∀ b, W0.heap.size + 2 ≤ b → b < W.heap.size → ¬ R C b → w3.heap[b]? = W.heap[b]? := by
        intro w3 hs3 hk3
        have hn1 : ¬ R C (W0.heap.size + 1) := fun h => by have := hRo j C W _ hT h; omega
        have hn2 : ¬ R C W0.heap.size := fun h => by have := hRo j C W _ hT h; omega
        rw [hs2] at hs3
        refine ⟨(hk3 _ (by omega) (by omega) hn1).trans (World.putObj_heap_same (by omega)), ?_, by omega, fun b hb1' hb2' hr => ?_⟩
        · rw [hk3 _ (Nat.le_refl _) (by omega) hn2, World.putObj_heap_other (by omega)]
          exact (hb1.block _ (by omega)).trans hdf
        · rw [hk3 b (by omega) hb2' hr, World.putObj_heap_other (by omega)]
          exact hb1.block b hb2'
      intro e a3 w3 hq3
      cases e with
      | normal =>
        obtain ⟨hI3, hs3, hk3⟩ := hq3
        obtain ⟨l3, d3, z3, k3⟩ := keep w3 hs3 hk3
        refine ⟨_, _, run_endRound none l3, .inl ⟨rfl, ⟨?_, ?_, ?_, ?_⟩, ?_, ?_⟩⟩
        · exact hIB (j + 1) C w3 _ hI3 (bel_put (Below.refl _ _) (by omega) _)
        · rw [World.putObj_heap_other (by omega)]; exact d3
        · rw [World.putObj_heap_same (by omega)]
          obtain ⟨st, pe, fn', tm, ps, asg, bd, df⟩ := rc
          cases h1; cases hpend
          rfl
        · simp; omega
        · simp; omega
        · intro b hb1' hb2 hr
          rw [World.putObj_heap_other (by omega)]
          exact k3 b hb1' hb2 hr
      | ret =>
        obtain ⟨hX3, hs3, hk3⟩ := hq3
        obtain ⟨l3, d3, z3, k3⟩ := keep w3 hs3 hk3
        refine ⟨_, _, run_endRound (some .ret) l3, .inr ⟨rfl, .ret, hXp _ _ _ _ hX3 (by omega), ?_, ?_, ?_⟩⟩
        · rw [World.putObj_heap_other (by omega)]; exact d3
        · rw [World.putObj_heap_same (by omega)]; simp; exact ⟨h3, h4, h5⟩
        · simp; omega
      | exit id =>
        obtain ⟨hX3, hs3, hk3⟩ := hq3
        obtain ⟨l3, d3, z3, k3⟩ := keep w3 hs3 hk3
        refine ⟨_, _, run_endRound (some (.exit id)) l3, .inr ⟨rfl, .exit id, hXp _ _ _ _ hX3 (by omega), ?_, ?_, ?_⟩⟩
        · rw [World.putObj_heap_other (by omega)]; exact d3
        · rw [World.putObj_heap_same (by omega)]; simp; exact ⟨h3, h4, h5⟩
        · simp; omega
      | _ => exact hq3.elim
    | _ => exact hq.elim
end Go.Proofs.Ytbhhbkoikocjgaa
/- Layer spec: a yield in a drawn region of a round. -/
namespace Go.Proofs.Ytbhhbkoikocjgaa
set_option linter.unusedSectionVars false
set_option maxHeartbeats 1000000
open Go.RowKit Go.Shelf
set_option maxRecDepth 100000
set_option linter.unusedVariables false
set_option linter.unusedSimpArgs false
variable [DecidableEq Ac] [DecidableEq Ou] [DecidableEq Mg]
attribute [local go_sem] Oper.semAt_some


theorem roundIn_anyN {l n n' lp : Nat} {f : FuncId} {tmps : Array Value} {assign body : Code} {w : World} {R : Ending → World → Prop} (h : RoundIn Fence.wide n Try.prog lp f tmps assign body w R) : RoundIn (Fence.wide.inRound l) n' Try.prog lp f tmps assign body w R :=
  ⟨trivial, fun c cs _ => h.2 c cs (fun d hd => by cases hd)⟩
/-- An operation that is no defer does in a round what it does outside of one. -/
theorem opRound {l n n' : Nat} {o : Oper} {a : Act} {w : World} {K : Act → World → Prop} {Q : Exit → Act → World → Prop} (hd : ∀ c, o.op ≠ .defer c) (h : o.wpIn Fence.wide n Try.prog a w K Q) : o.wpIn (Fence.wide.inRound l) n' Try.prog a w K Q := by
  refine ⟨fun _ _ => trivial, ?_⟩
  have h2 := h.2
  rw [Oper.semAt_plain _ _ _ hd] at h2 ⊢
  generalize (execOp a.eval o).run Try.prog w = r at *
  cases r with
  | ok x w' =>
    cases x <;> simp only [Oper.uponIn] at h2 ⊢ <;>
      first
        | exact h2
        | exact ⟨(fun h' => by cases h'), callsIn_round (callsIn_wide.1 h2.2)⟩
        | exact ⟨(fun h' => by cases h'), fun c cs _ => h2.2 c cs (fun d hd => by cases hd)⟩
        | exact ⟨(fun h' => by cases h'), roundIn_anyN h2.2⟩
  | halt x w' => cases x <;> simp only [Oper.uponIn] at h2 ⊢ <;> exact h2
theorem wpOpRound {l n n' : Nat} {ops : Array Oper} (hd : noDefer ops = true) {Q : Exit → Act → World → Prop} {i : Nat} {K : Act → World → Prop} {a : Act} {w : World} (h : wpOpIn Fence.wide n Try.prog ops Q i K a w) : wpOpIn (Fence.wide.inRound l) n' Try.prog ops Q i K a w := by
  unfold wpOpIn at h ⊢
  cases ho : ops[i]? with
  | none => simpa [ho] using h
  | some o =>
    simp only [ho] at h ⊢
    split
    · rename_i hw
      rw [if_pos hw] at h
      exact opRound (noDefer_get hd ho) h
    · rename_i hw
      rw [if_neg hw] at h
      exact ⟨fun _ _ => trivial, h.2⟩
theorem wpAnyRound {l n n' : Nat} {ops : Array Oper} (hd : noDefer ops = true) {md : Region.Mode} {Q : Exit → Act → World → Prop} : ∀ (fuel : Nat) (listed : Array Bool) (a : Act) (w : World), wpAnyIn Fence.wide n Try.prog md ops Q fuel listed a w → wpAnyIn (Fence.wide.inRound l) n' Try.prog md ops Q fuel listed a w
  | 0, _, _, _, h => h
  | fuel + 1, _, _, _, h => ⟨h.1, fun i hi => wpOpIn_mono (fun a' w' h' => wpAnyRound hd fuel _ a' w' h') (wpOpRound hd (h.2 i hi))⟩
/-- A region that draws its order and yields, in a round: its way out, said ahead. -/
theorem region_yield {l n n' id : Nat} {ops : Array Oper} {Q : Exit → Act → World → Prop} {a : Act} {w : World} (Post : Act → World → Prop) (hm : Try.prog.follows .mixedOrders = true) (hd : noDefer ops = true)
    (h : wpAnyIn Fence.wide n Try.prog .any ops (fun e a' w' => e = .normal ∧ Post a' w') ops.size (Array.replicate ops.size false) a w.drew) (h2 : ∀ a' w', Post a' w' → Q .normal a' w') : (Code.region id ops true).wpIn (Fence.wide.inRound l) n' Try.prog Q a w :=
  wpIn_mono (wpIn_region_any hm (wpAnyRound hd _ _ _ _ h)) (fun e a' w' h => by obtain ⟨rfl, h⟩ := h; exact h2 a' w' h)
theorem step_wantIn {P : Program} {F : Fence} {n : Nat} {ops : Array Oper} {o : Oper} {a : Act} {w : World} {K : Act → World → Prop} {Q : Exit → Act → World → Prop} {E : Prop} (hg : o.guard = none) (h : Oper.wpIn F n P o a w K Q) :
    if Region.wanted o (yielded ops a.tmps) = true then Oper.wpIn F n P o a w K Q else E := by
  rw [if_pos (by simp [Region.wanted, hg])]; exact h
theorem yield_op {k k' lp : Nat} {o : Oper} {a : Act} {w : World} {K : Act → World → Prop} {Q : Exit → Act → World → Prop} (x y z : Operand) (ts : Array TypeId) (ho : o.op = .call { callee := .value x, args := #[y, z], argTypes := ts }) (hx : a.eval x = .func (.yield lp) #[] #[]) (v u : Value) (hy : a.eval y = v) (hz : a.eval z = u) {R : Ending → World → Prop} (hY : YieldAt Fence.wide k' Try.prog lp #[v, u] w R) (h : ∀ r W', R r W' → ∃ b, r = .returned b ∧ K (a.put o.dst b) W') : o.wpIn Fence.wide k Try.prog a w K Q := by
  obtain ⟨fn, tmps, assign, body, hr, hR⟩ := hY
  refine ⟨fun _ _ => trivial, ?_⟩
  rw [Oper.semAt_plain _ _ _ (by rw [ho]; intro c hc; cases hc)]
  have he : (execOp a.eval o).run Try.prog w = .ok (.round lp fn tmps assign body) w := by
    unfold execOp
    simp only [ho, resolve, hx, List.map_toArray, List.map_cons, List.map_nil, hy, hz]
    simp [go_sem, hr]
  rw [he]
  refine ⟨(fun h => by cases h), RoundIn.mono (show RoundIn Fence.wide _ Try.prog lp fn tmps assign body w R from ⟨trivial, fun c cs _ => hR.2 c cs (fun d hd => by cases hd)⟩) ?_⟩
  intro r W' hr
  obtain ⟨b, rfl, hk⟩ := h r W' hr
  exact hk
end Go.Proofs.Ytbhhbkoikocjgaa
