/- Layer collide: entries in memory; collides. -/
import Derived.Test.YtgjnbpimldjkpaaCa
namespace Go.Proofs.Ytgjnbpimldjkpaa
open Go.RowKit
set_option linter.unusedVariables false
set_option linter.unusedSimpArgs false

/-- An entry: its bytes and where they lie, and its sum. -/
structure En where
  sp : Option Addr
  n : Nat
  cap : Nat
  bs : List Int
  sm : List Int
def En.cells (e : En) : List Value := .slice e.sp e.n e.cap :: by8 e.sm
def En.arr (e : En) : Array Value := e.cells.toArray
structure EnOK (N : Nat) (w : World) (e : En) : Prop where
  body : BS N w e.sp e.n e.cap e.bs
  s32 : e.sm.length = 32
theorem EnOK.below {N : Nat} {w w' : World} {e : En} (h : EnOK N w e) (hb : Below N w w') : EnOK N w' e := ⟨h.body.below hb, h.s32⟩
theorem EnOK.mono {N N' : Nat} {w : World} {e : En} (h : EnOK N w e) (hN : N ≤ N') : EnOK N' w e := ⟨h.body.mono hN, h.s32⟩
theorem EnOK.here {N : Nat} {w : World} {e : En} (h : EnOK N w e) : EnOK w.heap.size w e := ⟨h.body.here, h.s32⟩
theorem En.len {e : En} (h : e.sm.length = 32) : e.cells.length = 33 := by simp [En.cells, by8_len, h]
theorem En.size {e : En} (h : e.sm.length = 32) : e.arr.size = 33 := by simp [En.arr, En.len h]
theorem En.one (e : En) : ∀ v ∈ e.cells, v.oneCell' = true := by
  intro v hv
  rcases List.mem_cons.1 hv with rfl | h
  · rfl
  · exact by8_one _ v h
theorem En.oneA (e : En) : e.arr.all (·.oneCell') = true := all_oneCell_toArray e.one
/-- Entries one behind the other, in blocks below N. -/
structure ES (N : Nat) (w : World) (sp : Option Addr) (n cap : Nat) (es : List En) : Prop where
  len : Hid (n = es.length)
  nil : sp = none → n = 0 ∧ cap = 0
  le : n ≤ cap
  big : cap ≤ 9223372036854775807
  small : n ≤ 140737488355328
  at0 : 0 < n → ∃ g off, sp = some ⟨g, off, none⟩ ∧ g < N ∧ ∀ i e, es[i]? = some e → w.rangeAt g (off + i * 33) e.cells
  ok : ∀ e ∈ es, EnOK N w e
theorem ES.below {N : Nat} {w w' : World} {sp : Option Addr} {n cap : Nat} {es : List En} (h : ES N w sp n cap es) (hb : Below N w w') : ES N w' sp n cap es :=
  ⟨h.len, h.nil, h.le, h.big, h.small, fun h0 => let ⟨b, off, e, hbN, hB⟩ := h.at0 h0; ⟨b, off, e, hbN, fun i X hX => range_below (hB i X hX) hb hbN⟩, fun e he => (h.ok e he).below hb⟩
theorem ES.mono {N N' : Nat} {w : World} {sp : Option Addr} {n cap : Nat} {es : List En} (h : ES N w sp n cap es) (hN : N ≤ N') : ES N' w sp n cap es :=
  ⟨h.len, h.nil, h.le, h.big, h.small, fun h0 => let ⟨b, off, e, hb, hB⟩ := h.at0 h0; ⟨b, off, e, by omega, hB⟩, fun e he => (h.ok e he).mono hN⟩
theorem ES.here {N : Nat} {w : World} {sp : Option Addr} {n cap : Nat} {es : List En} (h : ES N w sp n cap es) : ES w.heap.size w sp n cap es :=
  ⟨h.len, h.nil, h.le, h.big, h.small, fun h0 => by
    obtain ⟨b, off, e, hbN, hB⟩ := h.at0 h0
    refine ⟨b, off, e, ?_, hB⟩
    have hl : 0 < es.length := by rw [← h.len.out]; exact h0
    exact block_lt_of_cell (hB 0 es[0] (List.getElem?_eq_getElem hl) 0 _ rfl), fun e he => (h.ok e he).here⟩
theorem ES.nil0 (N : Nat) (w : World) : ES N w none 0 0 [] := ⟨rfl, fun _ => ⟨rfl, rfl⟩, Nat.le_refl _, by omega, by omega, fun h => absurd h (by omega), fun e h => by cases h⟩

theorem size54 : (Try.prog.info? 54).map (·.size) = some 33 := by kernel_rfl
theorem s54 {e : En} (h : e.sm.length = 32) : (Try.prog.info? 54).map (·.size) = some e.arr.size := by rw [En.size h]; exact size54
theorem rangeE {w : World} {g ty : Nat} {e : En} (h : Arr w g ty e.arr) : w.rangeAt g 0 e.cells := fun j v hv => by
  rw [Nat.zero_add, h.cell]; simpa [En.arr] using hv
theorem range_c0 {w : World} {g o : Nat} {e : En} (h : w.rangeAt g o e.cells) : w.cell? ⟨g, o, none⟩ = some (.slice e.sp e.n e.cap) := by simpa using h 0 _ rfl
theorem range_sm {w : World} {g o : Nat} {e : En} (h : w.rangeAt g o e.cells) : w.rangeAt g (o + 1) (by8 e.sm) := fun j v hv => by
  rw [Nat.add_assoc, Nat.add_comm 1 j]
  exact h (j + 1) v (by simpa [En.cells] using hv)
/-- An entry out of memory. -/
theorem ld54 {ops : Array Oper} {rest : List Oper} {o : Oper} {a : Act} {w : World} {Q : Exit → Act → World → Prop} (hgd : o.guard = none) (x : Operand) (ho : o.op = .load 54 x)
    (b off : Nat) (hx : a.eval x = .pointer (some ⟨b, off, none⟩)) (e : En) (he : e.sm.length = 32) (hc : w.rangeAt b off e.cells)
    (h : wpList Try.prog ops Q rest (a.put o.dst (.agg e.arr)) w) : wpList Try.prog ops Q (o :: rest) a w :=
  wpList_load_mid hgd 54 x ho b off hx e.cells _ hc Try.underlying54 rfl (by rw [En.len he]; exact size54) h
/-- .. into the newest block. -/
theorem st54n {ops : Array Oper} {rest : List Oper} {o : Oper} {a : Act} {Q : Exit → Act → World → Prop} (hgd : o.guard = none) (x y : Operand) (ho : o.op = .store 54 x y) (W : World) (g : Nat) (hgW : W.heap.size = g) {z : Array Value} (hz : z.size = 33)
    (e : En) (hx : a.eval x = .pointer (some ⟨g, 0, none⟩)) (hy : a.eval y = .agg e.arr) (he : e.sm.length = 32)
    (h : wpList Try.prog ops Q rest (a.put o.dst undef) (W.alloc (.cells e.arr 54))) : wpList Try.prog ops Q (o :: rest) a (W.alloc (.cells z 54)) := by
  subst hgW
  exact wpList_store_new W z 54 hgd 54 x y ho e.arr hx hy (s54 he) (by rw [hz, En.size he]) e.oneA h
/-- Do they collide? -/
def hitE (e f : En) : Bool := decide (e.sm = f.sm) && !decide (e.bs = f.bs)
theorem ld24g {ops : Array Oper} {rest : List Oper} {o : Oper} {a : Act} {w : World} {Q : Exit → Act → World → Prop} (hgd : Region.wanted o (yielded ops a.tmps) = true) (x : Operand) (ho : o.op = .load 29 x)
    (b off : Nat) (hx : a.eval x = .pointer (some ⟨b, off, none⟩)) (X : List Int) (hX : X.length = 32) (hc : w.rangeAt b off (by8 X))
    (h : wpList Try.prog ops Q rest (a.put o.dst (.agg (h8 X))) w) : wpList Try.prog ops Q (o :: rest) a w :=
  wpList_want hgd fun _ hK => wp_load_mid 29 x ho b off hx (by8 X) _ hc Try.underlying29 rfl (by rw [by8_len, hX]; exact size24) (hK _ _ h)

set_option maxRecDepth 100000 in
set_option maxHeartbeats 400000 in
theorem collides_any (e f : En) (N : Nat) (w : World) (he : EnOK N w e) (hf : EnOK N w f) (hN : N ≤ w.heap.size) :
    Calls Try.prog 24 #[.agg e.arr, .agg f.arr] w fun r w' => r = .returned (.bool (hitE e f)) ∧ Below w.heap.size w w' := by
  have A0 := (Arr.new w 54 e.arr).alloc (.cells f.arr 54)
  have A1 := Arr.new (w.alloc (.cells e.arr 54)) 54 f.arr
  rw [World.size_alloc] at A1
  have hb : Below w.heap.size w ((w.alloc (.cells e.arr 54)).alloc (.cells f.arr 54)) := (alloc_bel' w _).alloc (by simp) _
  have r0 := range_sm (rangeE A0)
  have r1 := range_sm (rangeE A1)
  have c0 := range_c0 (rangeE A0)
  have c1 := range_c0 (rangeE A1)
  have b0 := (he.body.below (hb.mono hN))
  have b1 := (hf.body.below (hb.mono hN))
  have s0 := he.s32
  have s1 := hf.s32
  have heq := run_eq24 s0 s1
  by_cases h : e.sm = f.sm
  · rw [decide_eq_true h] at heq
    have hh : hitE e f = !decide (e.bs = f.bs) := by simp [hitE, h]
    rw [hh]
    clear h hh
    go_enter Try.func24, Try.ntmps24
    go_wp2_with (first
      | (refine ld24 (by rfl) _ (by rfl) w.heap.size (0 + 1) (by rfl) e.sm s0 r0 ?_)
      | (refine ld24 (by rfl) _ (by rfl) (w.heap.size + 1) (0 + 1) (by rfl) f.sm s1 r1 ?_)
      | (go_at_call 35; go_must (refine (equal_any _ _ _ _ _ _ _ _ _ _ _ b0 b1).mono ?_; rintro q w2 ⟨rfl, rfl⟩)))
    go_ret
    exact ⟨rfl, hb⟩
  · rw [decide_eq_false h] at heq
    have hh : hitE e f = false := by simp [hitE, h]
    rw [hh]
    clear h hh
    go_enter Try.func24, Try.ntmps24
    go_wp2_with (first
      | (refine ld24 (by rfl) _ (by rfl) w.heap.size (0 + 1) (by rfl) e.sm s0 r0 ?_)
      | (refine ld24 (by rfl) _ (by rfl) (w.heap.size + 1) (0 + 1) (by rfl) f.sm s1 r1 ?_))
    go_ret
    exact ⟨rfl, hb⟩
end Go.Proofs.Ytgjnbpimldjkpaa
