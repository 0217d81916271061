/- Layer collide: laws in the round of a range over a function. -/
import Derived.RangeFuncNested
import Derived.RangeFuncBound
import Derived.RangeFuncCalls
import Derived.RangeFuncLeaves
import Derived.RangeFuncRecord
import Derived.Shelf.Abstract
import Derived.Shelf.RegionOpen
import Derived.WalkKit
import Derived.OwnWalkIn
import Derived.TacticsInMore
import Derived.LoopNIn
import Derived.LoopIn
import Derived.Test.YtgjnbpimldjkpaaCj
namespace Go.Proofs.Ytgjnbpimldjkpaa
open Go.RowKit Go.Shelf
set_option linter.unusedVariables false
set_option linter.unusedSimpArgs false

theorem callsIn_round {l n : Nat} {f : FuncId} {args : Array Value} {w : World} {R : Ending → World → Prop} (h : Calls Try.prog f args w R) : CallsIn (Fence.wide.inRound l) n Try.prog f args w R :=
  (callsIn_wide (n := n)).2 h
theorem rowsIn_round {l n : Nat} {row : String} {args : Array Value} {w : World} {R : Value → World → Prop} (h : Rows Try.prog row args w R) : RowsIn (Fence.wide.inRound l) n Try.prog row args w R := fun c cs _ => by
  obtain ⟨v, w', r, s⟩ := h c cs
  exact ⟨v, w', r, (stepsIn_wide (P := Try.prog)).2 s⟩
/-- An operation that is no defer does in a round what it does elsewhere. -/
theorem opIn {l n : Nat} {o : Oper} {a : Act} {w : World} {K : Act → World → Prop} {Q : Exit → Act → World → Prop} (hd : ∀ c, o.op ≠ .defer c) (h : o.wp Try.prog a w K Q) : o.wpIn (Fence.wide.inRound l) n Try.prog a w K Q := by
  refine ⟨fun _ _ => trivial, ?_⟩
  rw [Oper.semAt_plain _ _ _ hd]
  unfold Oper.wp at h
  generalize (execOp a.eval o).run Try.prog w = r at *
  cases r with
  | ok x w' =>
    cases x <;> simp only [Oper.upon, Oper.uponIn] at h ⊢ <;>
      first
        | exact h
        | exact ⟨(fun h' => by cases h'), callsIn_round h⟩
        | exact ⟨(fun h' => by cases h'), rowsIn_round h⟩
  | halt x w' => cases x <;> simp only [Oper.upon, Oper.uponIn] at h ⊢ <;> exact h
def noDefer (ops : Array Oper) : Bool := ops.all fun o => match o.op with | .defer _ => false | _ => true
theorem noDefer_get {ops : Array Oper} (h : noDefer ops = true) {i : Nat} {o : Oper} (hi : ops[i]? = some o) : ∀ c, o.op ≠ .defer c := by
  intro c hc
  have := (Array.all_eq_true_iff_forall_mem.1 h) o (Array.mem_of_getElem? hi)
  rw [hc] at this
  cases this
theorem wpOpIn_of {l n : Nat} {ops : Array Oper} (hd : noDefer ops = true) {Q : Exit → Act → World → Prop} {i : Nat} {K : Act → World → Prop} {a : Act} {w : World} (hno : ¬ LetsOut Q) (h : wpOp Try.prog ops Q i K a w) : wpOpIn (Fence.wide.inRound l) n Try.prog ops Q i K a w := by
  unfold wpOp at h
  unfold wpOpIn
  cases ho : ops[i]? with
  | none => simpa [ho] using h
  | some o =>
    simp only [ho] at h ⊢
    split
    · rename_i hw
      rw [if_pos hw] at h
      rcases h with h | h
      · exact opIn (noDefer_get hd ho) h
      · exact absurd h.2 hno
    · rename_i hw
      rw [if_neg hw] at h
      exact ⟨fun _ _ => trivial, h⟩
theorem wpAnyIn_of {l n : Nat} {ops : Array Oper} (hd : noDefer ops = true) {md : Region.Mode} {Q : Exit → Act → World → Prop} (hno : ¬ LetsOut Q) : ∀ (fuel : Nat) (listed : Array Bool) (a : Act) (w : World), wpAny Try.prog md ops Q fuel listed a w → wpAnyIn (Fence.wide.inRound l) n Try.prog md ops Q fuel listed a w
  | 0, _, _, _, h => h
  | fuel + 1, _, _, _, h => ⟨h.1, fun i hi => wpOpIn_mono (fun a' w' h' => wpAnyIn_of hd hno fuel _ a' w' h') (wpOpIn_of hd hno (h.2 i hi))⟩
/-- Only the normal way out. -/
def Q0 (Q : Exit → Act → World → Prop) : Exit → Act → World → Prop
  | .normal, a, w => Q .normal a w
  | _, _, _ => False
/-- A region that draws its order, in a round. -/
theorem region_round {l n id : Nat} {ops : Array Oper} {S : World → Prop} {Q : Exit → Act → World → Prop} {a : Act} {w : World} (hm : Try.prog.follows .mixedOrders = true) (hd : noDefer ops = true) (hS : S w.drew)
    (h : S w.drew → wpAnyH Try.prog .any ops (Q0 Q) S ops.size (Array.replicate ops.size false) a w.drew) : (Code.region id ops true).wpIn (Fence.wide.inRound l) n Try.prog Q a w := by
  refine wpIn_mono (Q := Q0 Q) (wpIn_region_any hm (wpAnyIn_of hd (by rintro ⟨_, _, h⟩; exact h) _ _ _ _ (wpAny_of_held _ _ _ _ (h hS)))) ?_
  intro e a w hq
  cases e <;> first | exact hq | exact hq.elim
/-- .. and outside of one. -/
theorem region_wide {n id : Nat} {ops : Array Oper} {S : World → Prop} {Q : Exit → Act → World → Prop} {a : Act} {w : World} (hm : Try.prog.follows .mixedOrders = true) (hS : S w.drew)
    (h : S w.drew → wpAnyH Try.prog .any ops (Q0 Q) S ops.size (Array.replicate ops.size false) a w.drew) : (Code.region id ops true).wpIn Fence.wide n Try.prog Q a w := by
  refine wpIn_mono (Q := Q0 Q) (wpIn_wide.2 (wp_region_held_drew hm hS h)) ?_
  intro e a w hq
  cases e <;> first | exact hq | exact hq.elim
/-- The laws of sums, in a round. -/
theorem li24 {l n : Nat} {ops : Array Oper} {rest : List Oper} {o : Oper} {a : Act} {w : World} {Q : Exit → Act → World → Prop} (hgd : o.guard = none) (x : Operand) (ho : o.op = .load 29 x)
    (b off : Nat) (hx : a.eval x = .pointer (some ⟨b, off, none⟩)) (X : List Int) (hX : X.length = 32) (hc : w.rangeAt b off (by8 X))
    (h : wpListIn (Fence.wide.inRound l) n Try.prog ops Q rest (a.put o.dst (.agg (h8 X))) w) : wpListIn (Fence.wide.inRound l) n Try.prog ops Q (o :: rest) a w :=
  wpListIn_plain hgd fun _ hK => opIn (by rw [ho]; intro c hc; cases hc) (wp_load_mid 29 x ho b off hx (by8 X) _ hc Try.underlying29 rfl (by rw [by8_len, hX]; exact size24) (hK _ _ h))
theorem si24 {l n : Nat} {ops : Array Oper} {rest : List Oper} {o : Oper} {a : Act} {w : World} {Q : Exit → Act → World → Prop} (hgd : o.guard = none) (x y : Operand) (ho : o.op = .store 29 x y)
    (g : Nat) (X Y : List Int) (hx : a.eval x = .pointer (some ⟨g, 0, none⟩)) (hy : a.eval y = .agg (h8 X)) (hX : X.length = 32) (hY : Y.length = 32) (hg : Arr w g 29 (h8 Y))
    (h : wpListIn (Fence.wide.inRound l) n Try.prog ops Q rest (a.put o.dst undef) (w.setRow g (h8 X))) : wpListIn (Fence.wide.inRound l) n Try.prog ops Q (o :: rest) a w :=
  wpListIn_plain hgd fun _ hK => opIn (by rw [ho]; intro c hc; cases hc) (wp_store_row 29 x y ho g (h8 X) hx hy 29 _ hg (s24h8 hX) (by rw [h8_size, h8_size, hX, hY]) (h8_one X) (hK _ _ h))
theorem si24n {l n : Nat} {ops : Array Oper} {rest : List Oper} {o : Oper} {a : Act} {Q : Exit → Act → World → Prop} (hgd : o.guard = none) (x y : Operand) (ho : o.op = .store 29 x y) (W : World) (g : Nat) (hgW : W.heap.size = g) {z : Array Value} (hz : z.size = 32)
    (X : List Int) (hx : a.eval x = .pointer (some ⟨g, 0, none⟩)) (hy : a.eval y = .agg (h8 X)) (hX : X.length = 32)
    (h : wpListIn (Fence.wide.inRound l) n Try.prog ops Q rest (a.put o.dst undef) (W.alloc (.cells (h8 X) 29))) : wpListIn (Fence.wide.inRound l) n Try.prog ops Q (o :: rest) a (W.alloc (.cells z 29)) := by
  subst hgW
  exact wpListIn_plain hgd fun _ hK => opIn (by rw [ho]; intro c hc; cases hc) (wp_store_row 29 x y ho W.heap.size (h8 X) hx hy 29 z (Arr.new W 29 z) (s24h8 hX) (by rw [hz, h8_size, hX]) (h8_one X) (hK _ _ (by rw [World.setRow_alloc_new]; exact h)))

/-- .. and outside of one. -/
theorem opInw {n : Nat} {o : Oper} {a : Act} {w : World} {K : Act → World → Prop} {Q : Exit → Act → World → Prop} (hd : ∀ c, o.op ≠ .defer c) (h : o.wp Try.prog a w K Q) : o.wpIn Fence.wide n Try.prog a w K Q := by
  refine ⟨fun _ _ => trivial, ?_⟩
  rw [Oper.semAt_plain _ _ _ hd]
  unfold Oper.wp at h
  generalize (execOp a.eval o).run Try.prog w = r at *
  cases r with
  | ok x w' =>
    cases x <;> simp only [Oper.upon, Oper.uponIn] at h ⊢ <;>
      first
        | exact h
        | exact ⟨(fun h' => by cases h'), (callsIn_wide (n := n - 1)).2 h⟩
        | exact ⟨(fun h' => by cases h'), (rowsIn_round (l := 0) h : RowsIn Fence.wide _ _ _ _ _ _)⟩
  | halt x w' => cases x <;> simp only [Oper.upon, Oper.uponIn] at h ⊢ <;> exact h
theorem li24w {n : Nat} {ops : Array Oper} {rest : List Oper} {o : Oper} {a : Act} {w : World} {Q : Exit → Act → World → Prop} (hgd : o.guard = none) (x : Operand) (ho : o.op = .load 29 x)
    (b off : Nat) (hx : a.eval x = .pointer (some ⟨b, off, none⟩)) (X : List Int) (hX : X.length = 32) (hc : w.rangeAt b off (by8 X))
    (h : wpListIn Fence.wide n Try.prog ops Q rest (a.put o.dst (.agg (h8 X))) w) : wpListIn Fence.wide n Try.prog ops Q (o :: rest) a w :=
  wpListIn_plain hgd fun _ hK => opInw (by rw [ho]; intro c hc; cases hc) (wp_load_mid 29 x ho b off hx (by8 X) _ hc Try.underlying29 rfl (by rw [by8_len, hX]; exact size24) (hK _ _ h))
theorem si24w {n : Nat} {ops : Array Oper} {rest : List Oper} {o : Oper} {a : Act} {w : World} {Q : Exit → Act → World → Prop} (hgd : o.guard = none) (x y : Operand) (ho : o.op = .store 29 x y)
    (g : Nat) (X Y : List Int) (hx : a.eval x = .pointer (some ⟨g, 0, none⟩)) (hy : a.eval y = .agg (h8 X)) (hX : X.length = 32) (hY : Y.length = 32) (hg : Arr w g 29 (h8 Y))
    (h : wpListIn Fence.wide n Try.prog ops Q rest (a.put o.dst undef) (w.setRow g (h8 X))) : wpListIn Fence.wide n Try.prog ops Q (o :: rest) a w :=
  wpListIn_plain hgd fun _ hK => opInw (by rw [ho]; intro c hc; cases hc) (wp_store_row 29 x y ho g (h8 X) hx hy 29 _ hg (s24h8 hX) (by rw [h8_size, h8_size, hX, hY]) (h8_one X) (hK _ _ h))
theorem si24nw {n : Nat} {ops : Array Oper} {rest : List Oper} {o : Oper} {a : Act} {Q : Exit → Act → World → Prop} (hgd : o.guard = none) (x y : Operand) (ho : o.op = .store 29 x y) (W : World) (g : Nat) (hgW : W.heap.size = g) {z : Array Value} (hz : z.size = 32)
    (X : List Int) (hx : a.eval x = .pointer (some ⟨g, 0, none⟩)) (hy : a.eval y = .agg (h8 X)) (hX : X.length = 32)
    (h : wpListIn Fence.wide n Try.prog ops Q rest (a.put o.dst undef) (W.alloc (.cells (h8 X) 29))) : wpListIn Fence.wide n Try.prog ops Q (o :: rest) a (W.alloc (.cells z 29)) := by
  subst hgW
  exact wpListIn_plain hgd fun _ hK => opInw (by rw [ho]; intro c hc; cases hc) (wp_store_row 29 x y ho W.heap.size (h8 X) hx hy 29 z (Arr.new W 29 z) (s24h8 hX) (by rw [hz, h8_size, hX]) (h8_one X) (hK _ _ (by rw [World.setRow_alloc_new]; exact h)))

/-- A range over a function with two loop variables that is called once, and always goes on. -/
theorem wp_range2 {g : Operand} {ts : Array Tmp} {assign body : Code} {Q : Exit → Act → World → Prop} {a : Act} {W0 : World} (gf : Nat) (lb : Array Value) (hg : a.eval g = .func (.func gf) #[] lb) (eg : ∀ args w, (callFunc gf args).run Try.prog w = .ok (.enter gf args) w)
    (I : World → Prop)
    (hcall : ∀ rc : Loop, rc.state = .ready → rc.pending = none → rc.params = ts → rc.tmps = a.tmps → rc.assign = assign → rc.body = body →
      CallsIn Fence.wide 2 Try.prog gf (#[.func (.yield (W0.heap.size + 1)) #[] #[]] ++ lb) ((W0.alloc (.deferred (some []))).alloc (.loop rc)) fun e W' => (∃ v, e = .returned v) ∧ I W' ∧ W'.heap[W0.heap.size + 1]? = some (.loop rc) ∧ W'.heap[W0.heap.size]? = some (.deferred (some [])))
    (hdone : ∀ W' o, I W' → W'.heap[W0.heap.size]? = some (.deferred (some [])) → Q .normal { a with defers := { target := .collected W0.heap.size, args := #[] } :: a.defers } (W'.putObj (W0.heap.size + 1) o)) :
    (Code.rangeFunc g ts assign body).wpIn Fence.wide 3 Try.prog Q a W0 := by
  refine wpIn_rangeFunc fun fn hfn => ?_
  have hent := run_enterLoop_outer (P := Try.prog) (w := W0) fn a.tmps ts assign body
  obtain ⟨rc, hrc⟩ : ∃ rc : Loop, rc = { state := .ready, pending := none, fn, tmps := a.tmps, params := ts, assign, body, defers := W0.heap.size } := ⟨_, rfl⟩
  rw [← hrc] at hent
  refine ⟨_, _, _, { target := .fn (.func gf) lb, args := #[.func (.yield (W0.heap.size + 1)) #[] #[]] }, (W0.alloc (.deferred (some []))).alloc (.loop rc), gf, #[.func (.yield (W0.heap.size + 1)) #[] #[]] ++ lb, (W0.alloc (.deferred (some []))).alloc (.loop rc), hent, ?_, fun _ _ => trivial, ?_, fun h => (by cases h), ?_⟩
  · simp only [resolve, hg]
    simp [go_sem]
  · simp [invoke, go_sem, eg]
  · refine (hcall rc (by rw [hrc]) (by rw [hrc]) (by rw [hrc]) (by rw [hrc]) (by rw [hrc]) (by rw [hrc])).mono ?_
    rintro e W2 ⟨⟨v, rfl⟩, hI, hl, hk⟩
    have hend := run_endLoop (P := Try.prog) hl (by rw [hrc]; simp)
    rw [show rc.pending = none by rw [hrc]] at hend
    exact ⟨none, _, hend, hdone W2 _ hI hk⟩
/-- One round. -/
theorem yield_at2 {l m : Nat} {t u : Tmp} {rc : Loop} {W : World} {R : Ending → World → Prop} (x y : Value) (hl : W.heap[l]? = some (.loop rc)) (hp : rc.params = #[t, u])
    (h : rc.assign.wpIn (Fence.wide.inRound l) m Try.prog (Exit.then (fun a₁ w₁ => ∃ w₂, (Instr.beginRound l).run Try.prog w₁ = .ok () w₂ ∧ rc.body.wpIn (Fence.wide.inRound l) m Try.prog (roundPost Try.prog l R) a₁ w₂) (fun _ _ _ => False)) { tmps := (rc.tmps.setIfInBounds t x).setIfInBounds u y, defers := [] } W) :
    YieldAt Fence.wide m Try.prog l #[x, y] W R :=
  ⟨_, _, _, _, run_yield hl (by rw [hp]; rfl), roundIn_of_wpIn trivial (by rw [hp]; simpa using h)⟩
theorem below_put {B : Nat} {a w : World} (h : Below B a w) {r : Nat} (hr : B ≤ r) (o : Obj) : Below B a (w.putObj r o) :=
  ⟨h.os, h.tape, h.output, by simpa using h.size, fun k hk => (World.putObj_heap_other (by omega)).trans (h.block k hk)⟩
theorem Arr.put {w : World} {g ty : Nat} {C : Array Value} (h : Arr w g ty C) {r : Nat} (o : Obj) (hne : g ≠ r) : Arr (w.putObj r o) g ty C := (World.putObj_heap_other hne).trans h
/-- Entries, in a round. -/
theorem li54 {l n : Nat} {ops : Array Oper} {rest : List Oper} {o : Oper} {a : Act} {w : World} {Q : Exit → Act → World → Prop} (hgd : o.guard = none) (x : Operand) (ho : o.op = .load 54 x)
    (b off : Nat) (hx : a.eval x = .pointer (some ⟨b, off, none⟩)) (e : En) (he : e.sm.length = 32) (hc : w.rangeAt b off e.cells)
    (h : wpListIn (Fence.wide.inRound l) n Try.prog ops Q rest (a.put o.dst (.agg e.arr)) w) : wpListIn (Fence.wide.inRound l) n Try.prog ops Q (o :: rest) a w :=
  wpListIn_plain hgd fun _ hK => opIn (by rw [ho]; intro c hc; cases hc) (wp_load_mid 54 x ho b off hx e.cells _ hc Try.underlying54 rfl (by rw [En.len he]; exact size54) (hK _ _ h))
theorem si54n {l n : Nat} {ops : Array Oper} {rest : List Oper} {o : Oper} {a : Act} {Q : Exit → Act → World → Prop} (hgd : o.guard = none) (x y : Operand) (ho : o.op = .store 54 x y) (W : World) (g : Nat) (hgW : W.heap.size = g) {z : Array Value} (hz : z.size = 33)
    (e : En) (hx : a.eval x = .pointer (some ⟨g, 0, none⟩)) (hy : a.eval y = .agg e.arr) (he : e.sm.length = 32)
    (h : wpListIn (Fence.wide.inRound l) n Try.prog ops Q rest (a.put o.dst undef) (W.alloc (.cells e.arr 54))) : wpListIn (Fence.wide.inRound l) n Try.prog ops Q (o :: rest) a (W.alloc (.cells z 54)) := by
  subst hgW
  exact wpListIn_plain hgd fun _ hK => opIn (by rw [ho]; intro c hc; cases hc) (wp_store_row 54 x y ho W.heap.size e.arr hx hy 54 z (Arr.new W 54 z) (s54 he) (by rw [hz, En.size he]) e.oneA (hK _ _ (by rw [World.setRow_alloc_new]; exact h)))
/-- A range over a function with two loop variables: it is called once; a round goes on, or returns out of it all. -/
theorem wp_range2x {g : Operand} {ts : Array Tmp} {assign body : Code} {Q : Exit → Act → World → Prop} {a : Act} {W0 : World} (gf : Nat) (lb : Array Value) (hg : a.eval g = .func (.func gf) #[] lb) (eg : ∀ args w, (callFunc gf args).run Try.prog w = .ok (.enter gf args) w)
    (I X : World → Prop)
    (hcall : ∀ rc : Loop, rc.state = .ready → rc.pending = none → rc.params = ts → rc.tmps = a.tmps → rc.assign = assign → rc.body = body →
      CallsIn Fence.wide 2 Try.prog gf (#[.func (.yield (W0.heap.size + 1)) #[] #[]] ++ lb) ((W0.alloc (.deferred (some []))).alloc (.loop rc)) fun e W' => (∃ v, e = .returned v) ∧ W'.heap[W0.heap.size]? = some (.deferred (some [])) ∧ ((I W' ∧ W'.heap[W0.heap.size + 1]? = some (.loop rc)) ∨ (X W' ∧ W'.heap[W0.heap.size + 1]? = some (.loop { rc with state := .done, pending := some .ret }))))
    (hdone : ∀ W' o, I W' → W'.heap[W0.heap.size]? = some (.deferred (some [])) → Q .normal { a with defers := { target := .collected W0.heap.size, args := #[] } :: a.defers } (W'.putObj (W0.heap.size + 1) o))
    (hstop : ∀ W' o, X W' → W'.heap[W0.heap.size]? = some (.deferred (some [])) → Q .ret { a with defers := { target := .collected W0.heap.size, args := #[] } :: a.defers } (W'.putObj (W0.heap.size + 1) o)) :
    (Code.rangeFunc g ts assign body).wpIn Fence.wide 3 Try.prog Q a W0 := by
  refine wpIn_rangeFunc fun fn hfn => ?_
  have hent := run_enterLoop_outer (P := Try.prog) (w := W0) fn a.tmps ts assign body
  obtain ⟨rc, hrc⟩ : ∃ rc : Loop, rc = { state := .ready, pending := none, fn, tmps := a.tmps, params := ts, assign, body, defers := W0.heap.size } := ⟨_, rfl⟩
  rw [← hrc] at hent
  refine ⟨_, _, _, { target := .fn (.func gf) lb, args := #[.func (.yield (W0.heap.size + 1)) #[] #[]] }, (W0.alloc (.deferred (some []))).alloc (.loop rc), gf, #[.func (.yield (W0.heap.size + 1)) #[] #[]] ++ lb, (W0.alloc (.deferred (some []))).alloc (.loop rc), hent, ?_, fun _ _ => trivial, ?_, fun h => (by cases h), ?_⟩
  · simp only [resolve, hg]
    simp [go_sem]
  · simp [invoke, go_sem, eg]
  · refine (hcall rc (by rw [hrc]) (by rw [hrc]) (by rw [hrc]) (by rw [hrc]) (by rw [hrc]) (by rw [hrc])).mono ?_
    rintro e W2 ⟨⟨v, rfl⟩, hk, ⟨hI, hl⟩ | ⟨hX, hl⟩⟩
    · have hend := run_endLoop (P := Try.prog) hl (by rw [hrc]; simp)
      rw [show rc.pending = none by rw [hrc]] at hend
      exact ⟨none, _, hend, hdone W2 _ hI hk⟩
    · have hend := run_endLoop (P := Try.prog) hl (by simp)
      exact ⟨some .ret, _, hend, wpIn_ret (hstop W2 _ hX hk)⟩
end Go.Proofs.Ytgjnbpimldjkpaa
