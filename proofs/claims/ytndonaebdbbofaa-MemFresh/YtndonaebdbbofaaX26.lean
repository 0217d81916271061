/- The law MemPlays. -/
import Derived.Test.YtndonaebdbbofaaX23
namespace Go.Proofs.Ytndonaebdbbofaa
open Go.RowKit
set_option maxRecDepth 100000
set_option linter.unusedVariables false
set_option linter.unusedSimpArgs false


theorem ME.block {w w' : World} {g d n m : Nat} {L : List Int} {gt ct gl cl : Nat} (h : ME w g d n m L gt ct gl cl) (hb : ∀ k, k = g ∨ k = gt ∨ k = gl → w'.heap[k]? = w.heap[k]?) : ME w' g d n m L gt ct gl cl :=
  let ⟨T, hM, hT⟩ := h.ex
  ⟨⟨T, hM.block hb, hT⟩, h.hd, h.hn⟩
theorem ME.lt {w : World} {g d n m : Nat} {L : List Int} {gt ct gl cl : Nat} (h : ME w g d n m L gt ct gl cl) : g < w.heap.size ∧ gt < w.heap.size ∧ gl < w.heap.size :=
  let ⟨_, hM, _⟩ := h.ex
  hM.lt
theorem ME.keep {w w' : World} {g d n m : Nat} {L : List Int} {gt ct gl cl : Nat} (h : ME w g d n m L gt ct gl cl) (hb : Below w.heap.size w w') : ME w' g d n m L gt ct gl cl :=
  h.block (fun k hk => hb.block k (by have := h.lt; rcases hk with rfl | rfl | rfl <;> omega))
theorem ME.len {w : World} {g d n m : Nat} {L : List Int} {gt ct gl cl : Nat} (h : ME w g d n m L gt ct gl cl) : L.length = n :=
  let ⟨_, hM, _⟩ := h.ex
  hM.hL.out
/-- A call of a script, by value. -/
def scA (c x y : Int) : Array Value := #[.int .u8 c, .int .u64 x, .int .u64 y]
theorem size32 : (Try.prog.info? 32).map (·.size) = some 3 := by kernel_rfl
theorem scA_one (c x y : Int) : (scA c x y).all (·.oneCell') = true := by simp [scA, Value.oneCell']
theorem ld32 {ops : Array Oper} {rest : List Oper} {o : Oper} {a : Act} {w : World} {Q : Exit → Act → World → Prop} (hgd : o.guard = none) (p : Operand) (ho : o.op = .load 32 p)
    (g off : Nat) (hx : a.eval p = .pointer (some ⟨g, off, none⟩)) (c x y : Int) (hc : w.rangeAt g off (Sc.cells ⟨c, x, y⟩))
    (h : wpList Try.prog ops Q rest (a.put o.dst (.agg (scA c x y))) w) : wpList Try.prog ops Q (o :: rest) a w :=
  wpList_load_mid hgd 32 p ho g off hx (Sc.cells ⟨c, x, y⟩) _ hc Try.underlying32 rfl size32 h
theorem st32n {ops : Array Oper} {rest : List Oper} {o : Oper} {a : Act} {Q : Exit → Act → World → Prop} (hgd : o.guard = none) (p q : Operand) (ho : o.op = .store 32 p q) (W : World) (g : Nat) (hgW : W.heap.size = g) {z : Array Value} (hz : z.size = 3)
    (c x y : Int) (hx : a.eval p = .pointer (some ⟨g, 0, none⟩)) (hy : a.eval q = .agg (scA c x y))
    (h : wpList Try.prog ops Q rest (a.put o.dst undef) (W.alloc (.cells (scA c x y) 32))) : wpList Try.prog ops Q (o :: rest) a (W.alloc (.cells z 32)) := by
  subst hgW
  exact wpList_store_new W z 32 hgd 32 p q ho (scA c x y) hx hy size32 (by rw [hz]; rfl) (scA_one c x y) h
/-- What stands in the round of a script: the memory, the law's own words, the call that is played. -/
structure PR (w : World) (g d n m : Nat) (L : List Int) (gt ct gl cl gw : Nat) (wr : World) : Prop where
  me : ME wr g d n m L gt ct gl cl
  mw : MW wr gw L
  bel : Below w.heap.size w wr
  u64 : ∀ k, U64 (L.getD k 0)
  h1 : w.heap.size ≤ g
  h2 : w.heap.size ≤ gt
  h3 : w.heap.size ≤ gl
  h4 : w.heap.size ≤ gw
  n1 : gw ≠ g
  n2 : gw ≠ gt
  n3 : gw ≠ gl
theorem PR.keep {w : World} {g d n m : Nat} {L : List Int} {gt ct gl cl gw : Nat} {wr w' : World} (h : PR w g d n m L gt ct gl cl gw wr) (hb : Below wr.heap.size wr w') : PR w g d n m L gt ct gl cl gw w' :=
  { h with me := h.me.keep hb, mw := h.mw.below hb h.mw.lt, bel := h.bel.trans (hb.mono h.bel.size) }
theorem u64_set {L : List Int} (h : ∀ k, U64 (L.getD k 0)) (i : Nat) {x : Int} (hx : U64 x) : ∀ k, U64 ((L.set i x).getD k 0) := by
  intro k
  by_cases e : i = k
  · subst e
    by_cases hi : i < L.length
    · rw [List.getD_eq_getElem?_getD, List.getElem?_set_self hi]; exact hx
    · rw [List.set_eq_of_length_le (by omega)]; exact h i
  · rw [List.getD_eq_getElem?_getD, List.getElem?_set_ne e, ← List.getD_eq_getElem?_getD]; exact h k
/-- The memory is set .. -/
theorem PR.chg {w : World} {g d n m : Nat} {L L2 : List Int} {gt ct gl cl gw : Nat} {wr w' : World} (h : PR w g d n m L gt ct gl cl gw wr) (hE : ME w' g d n m L2 gt ct gl cl) (hC : Chg (GS gt gl) wr w') : MW w' gw L ∧ Below w.heap.size w w' := by
  refine ⟨h.mw.block' (hC.block gw h.mw.lt (by rintro (e | e); exact h.n2 e; exact h.n3 e)), h.bel.trans (hC.below (fun i hi => ⟨by have := h.bel.size; omega, ?_⟩))⟩
  rintro (e | e)
  · have := h.h2; omega
  · have := h.h3; omega
/-- .. and the law's own words with it. -/
theorem PR.set {w : World} {g d n m i : Nat} {L : List Int} {gt ct gl cl gw : Nat} {wr w' : World} {y : Int} (h : PR w g d n m L gt ct gl cl gw wr) (hE : ME w' g d n m (L.set i y) gt ct gl cl) (hC : Chg (GS gt gl) wr w') (hy : U64 y) (hi : i < n) :
    PR w g d n m (L.set i y) gt ct gl cl gw (w'.setCell ⟨gw, i, none⟩ (.int .u64 y)) := by
  obtain ⟨hW, hB⟩ := h.chg hE hC
  refine { h with me := hE.block (fun k hk => Below.heap_setCell _ _ _ _ ?_), mw := hW.set (by rw [h.me.len]; exact hi) y, bel := hB.setCell (p := ⟨gw, i, none⟩) h.h4 _, u64 := u64_set h.u64 i hy }
  have := h.n1; have := h.n2; have := h.n3
  rcases hk with rfl | rfl | rfl
  · exact h.n1.symm
  · exact h.n2.symm
  · exact h.n3.symm
theorem PR.noset {w : World} {g d n m i : Nat} {L : List Int} {gt ct gl cl gw : Nat} {wr w' : World} {y : Int} (h : PR w g d n m L gt ct gl cl gw wr) (hE : ME w' g d n m (L.set i y) gt ct gl cl) (hC : Chg (GS gt gl) wr w') (hi : n ≤ i) :
    PR w g d n m L gt ct gl cl gw w' := by
  obtain ⟨hW, hB⟩ := h.chg hE hC
  rw [List.set_eq_of_length_le (by rw [h.me.len]; exact hi)] at hE
  exact { h with me := hE, mw := hW, bel := hB }
end Go.Proofs.Ytndonaebdbbofaa
