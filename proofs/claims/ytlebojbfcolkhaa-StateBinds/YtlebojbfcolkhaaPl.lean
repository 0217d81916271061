/- Layer state: what is told one after the other: slices' values. -/
import Derived.Test.YtlebojbfcolkhaaA21
import Derived.Test.YtlebojbfcolkhaaCi
import Derived.Test.YtlebojbfcolkhaaA15
namespace Go.Proofs.Ytlebojbfcolkhaa
open Go.RowKit Go.Shelf
set_option maxRecDepth 100000
set_option linter.unusedVariables false
set_option linter.unusedSimpArgs false
attribute [local go_sem] Oper.semAt_some

/-- The blocks below S0, and those that one owns, are as they were. -/
structure Sam (S0 : Nat) (own : Nat → Prop) (W W' : World) : Prop where
  os : W'.os = W.os
  tape : W'.tape = W.tape
  output : W'.output = W.output
  size : W.heap.size ≤ W'.heap.size
  block : ∀ b, b < W.heap.size → b < S0 ∨ own b → W'.heap[b]? = W.heap[b]?
theorem Sam.of {S0 : Nat} {own : Nat → Prop} {W W' : World} (h : Below W.heap.size W W') : Sam S0 own W W' := ⟨h.os, h.tape, h.output, h.size, fun b hb _ => h.block b hb⟩
theorem Sam.below {S0 : Nat} {own : Nat → Prop} {W W' : World} (h : Sam S0 own W W') (hs : S0 ≤ W.heap.size) : Below S0 W W' := ⟨h.os, h.tape, h.output, h.size, fun b hb => h.block b (by omega) (.inl hb)⟩
theorem Sam.lift {S0 S1 : Nat} {own : Nat → Prop} {W W' : World} (h : Sam S1 own W W') (hs : S0 ≤ S1) : Sam S0 own W W' := ⟨h.os, h.tape, h.output, h.size, fun b hb ho => h.block b hb (ho.imp (fun x => by omega) id)⟩
theorem Sam.trans {S0 : Nat} {own : Nat → Prop} {a b c : World} (h : Sam S0 own a b) (k : Sam S0 own b c) : Sam S0 own a c := ⟨k.os.trans h.os, k.tape.trans h.tape, k.output.trans h.output, Nat.le_trans h.size k.size, fun x hx ho => (k.block x (Nat.lt_of_lt_of_le hx h.size) ho).trans (h.block x hx ho)⟩
/-- Block b holds the entry's bytes. -/
def EB (e : En) (b : Nat) : Prop := 0 < e.n ∧ ∃ off, e.sp = some ⟨b, off, none⟩
theorem EB.cell {N : Nat} {W : World} {e : En} {b : Nat} (h : EnOK N W e) (hb : EB e b) : ∃ off x, W.cell? ⟨b, off, none⟩ = some (.int .u8 x) := by
  obtain ⟨h0, off, q⟩ := hb
  obtain ⟨b', off', q', -, hB⟩ := h.body.at0 h0
  rw [q] at q'; cases q'
  exact ⟨_, _, hB 0 h0⟩
/-- An iterator tells n entries. M: what it wants of the memory; T j e: what the entry j is; S0: all below belongs to others, and own what those own who are told. -/
def Tells (gf : Nat) (lb : Array Value) (S0 B0 : Nat) (M : World → Prop) (T : Nat → En → Prop) (n : Nat) : Prop :=
  ∀ (k lp : Nat) (J : Nat → (Nat → Prop) → World → Prop), (∀ j own W, J j own W → M W ∧ S0 ≤ W.heap.size ∧ ∀ b, own b → b < W.heap.size) → (∀ j own W W', J j own W → Sam S0 own W W' → J j own W') →
    (∀ j own W e, J j own W → j < n → EnOK W.heap.size W e → T j e → (∀ b, EB e b → b < B0 ∨ ¬ own b) → YieldAt Fence.wide (k - 1) Try.prog lp #[.agg e.arr] W fun r W' => r = .returned (.bool true) ∧ ∃ own', J (j + 1) own' W' ∧ (∀ b, own' b → own b ∨ W.heap.size ≤ b ∨ EB e b) ∧ (∀ b, S0 ≤ b → b < W.heap.size → ¬ own b → W'.heap[b]? = W.heap[b]?)) →
    ∀ W own, J 0 own W → CallsIn Fence.wide k Try.prog gf (#[.func (.yield lp) #[] #[]] ++ lb) W fun e W' => (∃ v, e = .returned v) ∧ ∃ own', J n own' W'
theorem li77w {n : Nat} {ops : Array Oper} {rest : List Oper} {o : Oper} {a : Act} {w : World} {Q : Exit → Act → World → Prop} (hgd : o.guard = none) (x : Operand) (ho : o.op = .load 77 x)
    (b off : Nat) (hx : a.eval x = .pointer (some ⟨b, off, none⟩)) (e : En) (he : e.sm.length = 32) (hc : w.rangeAt b off e.cells)
    (h : wpListIn Fence.wide n Try.prog ops Q rest (a.put o.dst (.agg e.arr)) w) : wpListIn Fence.wide n Try.prog ops Q (o :: rest) a w :=
  wpListIn_plain hgd fun _ hK => opInw (by rw [ho]; intro c hc; cases hc) (wp_load_mid 77 x ho b off hx e.cells _ hc Try.underlying77 rfl (by rw [En.len he]; exact size54) (hK _ _ h))
theorem si77nw {n : Nat} {ops : Array Oper} {rest : List Oper} {o : Oper} {a : Act} {Q : Exit → Act → World → Prop} (hgd : o.guard = none) (x y : Operand) (ho : o.op = .store 77 x y) (W : World) (g : Nat) (hgW : W.heap.size = g) {z : Array Value} (hz : z.size = 33)
    (e : En) (hx : a.eval x = .pointer (some ⟨g, 0, none⟩)) (hy : a.eval y = .agg e.arr) (he : e.sm.length = 32)
    (h : wpListIn Fence.wide n Try.prog ops Q rest (a.put o.dst undef) (W.alloc (.cells e.arr 77))) : wpListIn Fence.wide n Try.prog ops Q (o :: rest) a (W.alloc (.cells z 77)) := by
  subst hgW
  exact wpListIn_plain hgd fun _ hK => opInw (by rw [ho]; intro c hc; cases hc) (wp_store_row 77 x y ho W.heap.size e.arr hx hy 77 z (Arr.new W 77 z) (s54 he) (by rw [hz, En.size he]) e.oneA (hK _ _ (by rw [World.setRow_alloc_new]; exact h)))
/-- .. in a round. -/
theorem li77 {l n : Nat} {ops : Array Oper} {rest : List Oper} {o : Oper} {a : Act} {w : World} {Q : Exit → Act → World → Prop} (hgd : o.guard = none) (x : Operand) (ho : o.op = .load 77 x)
    (b off : Nat) (hx : a.eval x = .pointer (some ⟨b, off, none⟩)) (e : En) (he : e.sm.length = 32) (hc : w.rangeAt b off e.cells)
    (h : wpListIn (Fence.wide.inRound l) n Try.prog ops Q rest (a.put o.dst (.agg e.arr)) w) : wpListIn (Fence.wide.inRound l) n Try.prog ops Q (o :: rest) a w :=
  wpListIn_plain hgd fun _ hK => opIn (by rw [ho]; intro c hc; cases hc) (wp_load_mid 77 x ho b off hx e.cells _ hc Try.underlying77 rfl (by rw [En.len he]; exact size54) (hK _ _ h))
theorem si77n {l n : Nat} {ops : Array Oper} {rest : List Oper} {o : Oper} {a : Act} {Q : Exit → Act → World → Prop} (hgd : o.guard = none) (x y : Operand) (ho : o.op = .store 77 x y) (W : World) (g : Nat) (hgW : W.heap.size = g) {z : Array Value} (hz : z.size = 33)
    (e : En) (hx : a.eval x = .pointer (some ⟨g, 0, none⟩)) (hy : a.eval y = .agg e.arr) (he : e.sm.length = 32)
    (h : wpListIn (Fence.wide.inRound l) n Try.prog ops Q rest (a.put o.dst undef) (W.alloc (.cells e.arr 77))) : wpListIn (Fence.wide.inRound l) n Try.prog ops Q (o :: rest) a (W.alloc (.cells z 77)) := by
  subst hgW
  exact wpListIn_plain hgd fun _ hK => opIn (by rw [ho]; intro c hc; cases hc) (wp_store_row 77 x y ho W.heap.size e.arr hx hy 77 z (Arr.new W 77 z) (s54 he) (by rw [hz, En.size he]) e.oneA (hK _ _ (by rw [World.setRow_alloc_new]; exact h)))
set_option maxHeartbeats 400000 in
theorem values1_any (sp : Option Addr) (n cap : Nat) (w : World) :
    Calls Try.prog 83 #[.slice sp n cap] w fun e w' => e = .returned (.func (Fn.func 101) #[] #[.pointer (some ⟨w.heap.size, 0, none⟩)]) ∧ w' = w.alloc (.cells #[.slice sp n cap] 88) := by
  have hmf : ∀ (fn : Fn) (first cap : Array Value) (w : World), (Instr.makeFunc fn first cap).run Try.prog w = .ok (.func fn first cap) w := fun _ _ _ _ => rfl
  go_enter Try.func83, Try.ntmps83
  go_wp2
  go_ret
  exact ⟨rfl, rfl⟩
set_option maxHeartbeats 400000 in
theorem values2_any (sp : Option Addr) (n cap : Nat) (w : World) :
    Calls Try.prog 85 #[.slice sp n cap] w fun e w' => e = .returned (.func (Fn.func 104) #[] #[.pointer (some ⟨w.heap.size, 0, none⟩)]) ∧ w' = w.alloc (.cells #[.slice sp n cap] 63) := by
  have hmf : ∀ (fn : Fn) (first cap : Array Value) (w : World), (Instr.makeFunc fn first cap).run Try.prog w = .ok (.func fn first cap) w := fun _ _ _ _ => rfl
  go_enter Try.func85, Try.ntmps85
  go_wp2
  go_ret
  exact ⟨rfl, rfl⟩
set_option maxHeartbeats 400000 in
theorem pairs_any (sp : Option Addr) (n cap : Nat) (w : World) :
    Calls Try.prog 84 #[.slice sp n cap] w fun e w' => e = .returned (.func (Fn.func 102) #[] #[.pointer (some ⟨w.heap.size, 0, none⟩)]) ∧ w' = w.alloc (.cells #[.slice sp n cap] 88) := by
  have hmf : ∀ (fn : Fn) (first cap : Array Value) (w : World), (Instr.makeFunc fn first cap).run Try.prog w = .ok (.func fn first cap) w := fun _ _ _ _ => rfl
  go_enter Try.func84, Try.ntmps84
  go_wp2
  go_ret
  exact ⟨rfl, rfl⟩
set_option maxHeartbeats 400000 in
theorem inTurn_any (sp : Option Addr) (n cap : Nat) (w : World) :
    Calls Try.prog 82 #[.slice sp n cap] w fun e w' => e = .returned (.func (Fn.func 100) #[] #[.pointer (some ⟨w.heap.size, 0, none⟩)]) ∧ w' = w.alloc (.cells #[.slice sp n cap] 153) := by
  have hmf : ∀ (fn : Fn) (first cap : Array Value) (w : World), (Instr.makeFunc fn first cap).run Try.prog w = .ok (.func fn first cap) w := fun _ _ _ _ => rfl
  go_enter Try.func82, Try.ntmps82
  go_wp2
  go_ret
  exact ⟨rfl, rfl⟩
set_option maxHeartbeats 1000000 in
theorem values1_in (gc S0 B0 : Nat) (sp : Option Addr) (n cap : Nat) (es : List En) (hgc : gc < S0) (hB0 : B0 ≤ S0) (hn : n ≤ 1000) :
    Tells 101 #[.pointer (some ⟨gc, 0, none⟩)] S0 B0 (fun W => W.cell? ⟨gc, 0, none⟩ = some (.slice sp n cap) ∧ ES B0 W sp n cap es) (fun j e => es[j]? = some e) n := by
  intro k lp J hJM hJB hY W own0 h0
  refine callsIn_of_wp Try.func101 rfl trivial ?_ rfl
  simp only [Try.ntmps101, List.size_toArray, List.length_cons, List.length_nil, Nat.reduceAdd, Nat.reduceSub, Array.replicate_succ, Array.replicate_zero, List.push_toArray, List.append_toArray, List.nil_append, List.cons_append]
  obtain ⟨⟨c1, hE0⟩, hsz, -⟩ := hJM 0 own0 W h0
  have hl := hE0.len
  clear hE0
  gi_wp2
  gi_loopw [7] (fun d wr => ∃ (j : Nat) (own : Nat → Prop), d = .int .i64 (j : Int) ∧ j ≤ n ∧ J j own wr) (fun d _ => n - (intOf d).toNat)
  case atStart => exact ⟨0, own0, rfl, by omega, h0⟩
  case round =>
    obtain ⟨j, own, rfl, hj, hJj⟩ := hrel
    clear h0
    obtain ⟨⟨-, hE⟩, hszr, -⟩ := hJM j own wr hJj
    by_cases hlt : j < n
    · have hI : (j : Int) < n := by omega
      obtain ⟨g, off, rfl, hgN, hR⟩ := hE.at0 (by omega)
      obtain ⟨e, he⟩ : ∃ e, es[j]? = some e := ⟨es[j]'(by rw [← hl.out]; exact hlt), List.getElem?_eq_getElem _⟩
      have heo := hE.ok e (List.mem_of_getElem? he)
      have he32 := heo.s32
      have hRe := hR j e he
      have A1 := Arr.new wr 77 e.arr
      have hb1 := alloc_bel' wr (.cells e.arr 77)
      have hJ1 := hJB j own wr _ hJj (Sam.of hb1)
      obtain ⟨fn, tmps, assign, body, hy, hR⟩ := hY j own _ e hJ1 hlt ((heo.below (hb1.mono (by omega))).mono (by simp; omega)) he (fun b ⟨hb0, off, q⟩ => by
        obtain ⟨b', off', q', hb', -⟩ := heo.body.at0 hb0
        rw [q] at q'; cases q'
        exact .inl hb')
      clear he
      gi_wp2_with (first
        | (refine li77w (by rfl) _ (by rfl) g (off + j * 33) (by rfl) e he32 hRe ?_)
        | (refine si77nw (by rfl) _ _ (by rfl) wr wr.heap.size rfl (by rfl) e (by rfl) (by rfl) he32 ?_)
        | (refine li77w (by rfl) _ (by rfl) wr.heap.size 0 (by rfl) e he32 (rangeE A1) ?_))
      refine ⟨fun h => (by cases h), hR.mono ?_⟩
      rintro r W3 ⟨rfl, own3, hJ3, -⟩
      gi_wp2
      go_roundw
      case rel => exact ⟨j + 1, own3, by go_num, by omega, hJ3⟩
      case measure => simp [intOf]; omega
    · obtain rfl : j = n := by omega
      have hI : ¬ (j : Int) < j := by omega
      gi_wp2
      go_end0
      exact ⟨⟨_, rfl⟩, own, hJj⟩
set_option maxHeartbeats 1000000 in
theorem values2_in (gc S0 B0 : Nat) (sp : Option Addr) (n cap : Nat) (es : List En) (hgc : gc < S0) (hB0 : B0 ≤ S0) (hn : n ≤ 1000) :
    Tells 104 #[.pointer (some ⟨gc, 0, none⟩)] S0 B0 (fun W => W.cell? ⟨gc, 0, none⟩ = some (.slice sp n cap) ∧ ES B0 W sp n cap es) (fun j e => es[j]? = some e) n := by
  intro k lp J hJM hJB hY W own0 h0
  refine callsIn_of_wp Try.func104 rfl trivial ?_ rfl
  simp only [Try.ntmps104, List.size_toArray, List.length_cons, List.length_nil, Nat.reduceAdd, Nat.reduceSub, Array.replicate_succ, Array.replicate_zero, List.push_toArray, List.append_toArray, List.nil_append, List.cons_append]
  obtain ⟨⟨c1, hE0⟩, hsz, -⟩ := hJM 0 own0 W h0
  have hl := hE0.len
  clear hE0
  gi_wp2
  gi_loopw [7] (fun d wr => ∃ (j : Nat) (own : Nat → Prop), d = .int .i64 (j : Int) ∧ j ≤ n ∧ J j own wr) (fun d _ => n - (intOf d).toNat)
  case atStart => exact ⟨0, own0, rfl, by omega, h0⟩
  case round =>
    obtain ⟨j, own, rfl, hj, hJj⟩ := hrel
    clear h0
    obtain ⟨⟨-, hE⟩, hszr, -⟩ := hJM j own wr hJj
    by_cases hlt : j < n
    · have hI : (j : Int) < n := by omega
      obtain ⟨g, off, rfl, hgN, hR⟩ := hE.at0 (by omega)
      obtain ⟨e, he⟩ : ∃ e, es[j]? = some e := ⟨es[j]'(by rw [← hl.out]; exact hlt), List.getElem?_eq_getElem _⟩
      have heo := hE.ok e (List.mem_of_getElem? he)
      have he32 := heo.s32
      have hRe := hR j e he
      have A1 := Arr.new wr 77 e.arr
      have hb1 := alloc_bel' wr (.cells e.arr 77)
      have hJ1 := hJB j own wr _ hJj (Sam.of hb1)
      obtain ⟨fn, tmps, assign, body, hy, hR⟩ := hY j own _ e hJ1 hlt ((heo.below (hb1.mono (by omega))).mono (by simp; omega)) he (fun b ⟨hb0, off, q⟩ => by
        obtain ⟨b', off', q', hb', -⟩ := heo.body.at0 hb0
        rw [q] at q'; cases q'
        exact .inl hb')
      clear he
      gi_wp2_with (first
        | (refine li77w (by rfl) _ (by rfl) g (off + j * 33) (by rfl) e he32 hRe ?_)
        | (refine si77nw (by rfl) _ _ (by rfl) wr wr.heap.size rfl (by rfl) e (by rfl) (by rfl) he32 ?_)
        | (refine li77w (by rfl) _ (by rfl) wr.heap.size 0 (by rfl) e he32 (rangeE A1) ?_))
      refine ⟨fun h => (by cases h), hR.mono ?_⟩
      rintro r W3 ⟨rfl, own3, hJ3, -⟩
      gi_wp2
      go_roundw
      case rel => exact ⟨j + 1, own3, by go_num, by omega, hJ3⟩
      case measure => simp [intOf]; omega
    · obtain rfl : j = n := by omega
      have hI : ¬ (j : Int) < j := by omega
      gi_wp2
      go_end0
      exact ⟨⟨_, rfl⟩, own, hJj⟩
end Go.Proofs.Ytlebojbfcolkhaa
