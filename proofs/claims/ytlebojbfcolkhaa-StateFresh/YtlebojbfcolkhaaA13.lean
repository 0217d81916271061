/- Cb, Cd, Cf. -/
import Derived.Test.YtlebojbfcolkhaaA10
import Derived.Deep.RegionHeld3
import Derived.Laws.Tables
import Derived.Great.BuildSlice
/- Layer collide: entries in memory; collides. -/
namespace Go.Proofs.Ytlebojbfcolkhaa
open Go.RowKit
set_option maxRecDepth 100000
set_option linter.unusedVariables false
set_option linter.unusedSimpArgs false

/-- An entry: its bytes and where they lie, and its sum. -/
structure En where
  sp : Option Addr
  n : Nat
  cap : Nat
  bs : List Int
  sm : List Int
def En.cells (e : En) : List Value := .slice e.sp e.n e.cap :: by8 e.sm
def En.arr (e : En) : Array Value := e.cells.toArray
structure EnOK (N : Nat) (w : World) (e : En) : Prop where
  body : BSR N w e.sp e.n e.cap e.bs
  s32 : e.sm.length = 32
theorem EnOK.below {N : Nat} {w w' : World} {e : En} (h : EnOK N w e) (hb : Below N w w') : EnOK N w' e := ⟨h.body.below hb, h.s32⟩
theorem EnOK.mono {N N' : Nat} {w : World} {e : En} (h : EnOK N w e) (hN : N ≤ N') : EnOK N' w e := ⟨h.body.mono hN, h.s32⟩
theorem EnOK.here {N : Nat} {w : World} {e : En} (h : EnOK N w e) : EnOK w.heap.size w e := ⟨h.body.here, h.s32⟩
theorem En.len {e : En} (h : e.sm.length = 32) : e.cells.length = 33 := by simp [En.cells, by8_len, h]
theorem En.size {e : En} (h : e.sm.length = 32) : e.arr.size = 33 := by simp [En.arr, En.len h]
theorem En.one (e : En) : ∀ v ∈ e.cells, v.oneCell' = true := by
  intro v hv
  rcases List.mem_cons.1 hv with rfl | h
  · rfl
  · exact by8_one _ v h
theorem En.oneA (e : En) : e.arr.all (·.oneCell') = true := all_oneCell_toArray e.one
/-- Entries one behind the other, in blocks below N. -/
structure ES (N : Nat) (w : World) (sp : Option Addr) (n cap : Nat) (es : List En) : Prop where
  len : Hid (n = es.length)
  nil : sp = none → n = 0 ∧ cap = 0
  le : n ≤ cap
  big : cap ≤ 9223372036854775807
  small : n ≤ 140737488355328
  at0 : 0 < n → ∃ g off, sp = some ⟨g, off, none⟩ ∧ g < N ∧ ∀ i e, es[i]? = some e → w.rangeAt g (off + i * 33) e.cells
  ok : ∀ e ∈ es, EnOK N w e
theorem ES.below {N : Nat} {w w' : World} {sp : Option Addr} {n cap : Nat} {es : List En} (h : ES N w sp n cap es) (hb : Below N w w') : ES N w' sp n cap es :=
  ⟨h.len, h.nil, h.le, h.big, h.small, fun h0 => let ⟨b, off, e, hbN, hB⟩ := h.at0 h0; ⟨b, off, e, hbN, fun i X hX => range_below (hB i X hX) hb hbN⟩, fun e he => (h.ok e he).below hb⟩
theorem ES.mono {N N' : Nat} {w : World} {sp : Option Addr} {n cap : Nat} {es : List En} (h : ES N w sp n cap es) (hN : N ≤ N') : ES N' w sp n cap es :=
  ⟨h.len, h.nil, h.le, h.big, h.small, fun h0 => let ⟨b, off, e, hb, hB⟩ := h.at0 h0; ⟨b, off, e, by omega, hB⟩, fun e he => (h.ok e he).mono hN⟩
theorem ES.here {N : Nat} {w : World} {sp : Option Addr} {n cap : Nat} {es : List En} (h : ES N w sp n cap es) : ES w.heap.size w sp n cap es :=
  ⟨h.len, h.nil, h.le, h.big, h.small, fun h0 => by
    obtain ⟨b, off, e, hbN, hB⟩ := h.at0 h0
    refine ⟨b, off, e, ?_, hB⟩
    have hl : 0 < es.length := by rw [← h.len.out]; exact h0
    exact block_lt_of_cell (hB 0 es[0] (List.getElem?_eq_getElem hl) 0 _ rfl), fun e he => (h.ok e he).here⟩
theorem ES.nil0 (N : Nat) (w : World) : ES N w none 0 0 [] := ⟨rfl, fun _ => ⟨rfl, rfl⟩, Nat.le_refl _, by omega, by omega, fun h => absurd h (by omega), fun e h => by cases h⟩

theorem size54 : (Try.prog.info? 77).map (·.size) = some 33 := by kernel_rfl
theorem s54 {e : En} (h : e.sm.length = 32) : (Try.prog.info? 77).map (·.size) = some e.arr.size := by rw [En.size h]; exact size54
theorem rangeE {w : World} {g ty : Nat} {e : En} (h : Arr w g ty e.arr) : w.rangeAt g 0 e.cells := fun j v hv => by
  rw [Nat.zero_add, h.cell]; simpa [En.arr] using hv
theorem range_c0 {w : World} {g o : Nat} {e : En} (h : w.rangeAt g o e.cells) : w.cell? ⟨g, o, none⟩ = some (.slice e.sp e.n e.cap) := by simpa using h 0 _ rfl
theorem range_sm {w : World} {g o : Nat} {e : En} (h : w.rangeAt g o e.cells) : w.rangeAt g (o + 1) (by8 e.sm) := fun j v hv => by
  rw [Nat.add_assoc, Nat.add_comm 1 j]
  exact h (j + 1) v (by simpa [En.cells] using hv)
/-- An entry out of memory. -/
theorem ld54 {ops : Array Oper} {rest : List Oper} {o : Oper} {a : Act} {w : World} {Q : Exit → Act → World → Prop} (hgd : o.guard = none) (x : Operand) (ho : o.op = .load 77 x)
    (b off : Nat) (hx : a.eval x = .pointer (some ⟨b, off, none⟩)) (e : En) (he : e.sm.length = 32) (hc : w.rangeAt b off e.cells)
    (h : wpList Try.prog ops Q rest (a.put o.dst (.agg e.arr)) w) : wpList Try.prog ops Q (o :: rest) a w :=
  wpList_load_mid hgd 77 x ho b off hx e.cells _ hc Try.underlying77 rfl (by rw [En.len he]; exact size54) h
/-- .. into the newest block. -/
theorem st54n {ops : Array Oper} {rest : List Oper} {o : Oper} {a : Act} {Q : Exit → Act → World → Prop} (hgd : o.guard = none) (x y : Operand) (ho : o.op = .store 77 x y) (W : World) (g : Nat) (hgW : W.heap.size = g) {z : Array Value} (hz : z.size = 33)
    (e : En) (hx : a.eval x = .pointer (some ⟨g, 0, none⟩)) (hy : a.eval y = .agg e.arr) (he : e.sm.length = 32)
    (h : wpList Try.prog ops Q rest (a.put o.dst undef) (W.alloc (.cells e.arr 77))) : wpList Try.prog ops Q (o :: rest) a (W.alloc (.cells z 77)) := by
  subst hgW
  exact wpList_store_new W z 77 hgd 77 x y ho e.arr hx hy (s54 he) (by rw [hz, En.size he]) e.oneA h
/-- Do they collide? -/
def hitE (e f : En) : Bool := decide (e.sm = f.sm) && !decide (e.bs = f.bs)
end Go.Proofs.Ytlebojbfcolkhaa
/- Layer collide: Find. -/
namespace Go.Proofs.Ytlebojbfcolkhaa
open Go.RowKit
set_option maxRecDepth 100000
set_option linter.unusedVariables false
set_option linter.unusedSimpArgs false

/-- Do the entries i and j collide? -/
def hit (es : List En) (i j : Nat) : Bool := match es[i]?, es[j]? with
  | some e, some f => hitE e f
  | _, _ => false
theorem hit_some {es : List En} {i j : Nat} {e f : En} (h : es[i]? = some e) (h' : es[j]? = some f) : hit es i j = hitE e f := by simp [hit, h, h']
theorem hit_lt {es : List En} {i j : Nat} (h : hit es i j = true) : ∃ e f, es[i]? = some e ∧ es[j]? = some f ∧ e.sm = f.sm ∧ e.bs ≠ f.bs := by
  unfold hit at h
  split at h
  · rename_i e f h1 h2
    refine ⟨e, f, h1, h2, ?_⟩
    simpa [hitE] using h
  · cases h
/-- What is found. -/
def Fnd (es : List En) (a b : Int) (c : Bool) : Prop :=
  (c = true ∧ ∃ i j : Nat, a = i ∧ b = j ∧ i < j ∧ j < es.length ∧ hit es i j = true ∧ (∀ j', j' < j → ∀ i', i' < j' → hit es i' j' = false) ∧ ∀ i', i' < i → hit es i' j = false)
  ∨ (c = false ∧ a = 0 ∧ b = 0 ∧ ∀ j, j < es.length → ∀ i, i < j → hit es i j = false)
theorem Fnd.one {es : List En} {a b a' b' : Int} {c c' : Bool} (h : Fnd es a b c) (h' : Fnd es a' b' c') : a' = a ∧ b' = b ∧ c' = c := by
  rcases h with ⟨rfl, i, j, rfl, rfl, h1, h2, h3, h4, h5⟩ | ⟨rfl, rfl, rfl, h1⟩
  · rcases h' with ⟨rfl, i', j', rfl, rfl, k1, k2, k3, k4, k5⟩ | ⟨rfl, rfl, rfl, k1⟩
    · have hj : j' = j := by
        rcases Nat.lt_trichotomy j' j with h | h | h
        · rw [h4 j' h i' k1] at k3; cases k3
        · exact h
        · rw [k4 j h i h1] at h3; cases h3
      subst hj
      have hi : i' = i := by
        rcases Nat.lt_trichotomy i' i with h | h | h
        · rw [h5 i' h] at k3; cases k3
        · exact h
        · rw [k5 i h] at h3; cases h3
      subst hi
      exact ⟨rfl, rfl, rfl⟩
    · rw [k1 j h2 i h1] at h3; cases h3
  · rcases h' with ⟨rfl, i', j', rfl, rfl, k1, k2, k3, k4, k5⟩ | ⟨rfl, rfl, rfl, k1⟩
    · rw [h1 j' k2 i' k1] at k3; cases k3
    · exact ⟨rfl, rfl, rfl⟩
/-- What Find answers. -/
def FPost (es : List En) (w : World) (r : Ending) (w' : World) : Prop := ∃ (a b : Int) (c : Bool), r = .returned (.tuple #[.int .i64 a, .int .i64 b, .bool c]) ∧ Fnd es a b c ∧ Below w.heap.size w w'
theorem y54 {ops : Array Oper} {S : World → Prop} {op : Oper} {a : Act} (hw : Region.wanted op (yielded ops a.tmps) = true) (x : Operand) (ho : op.op = .load 77 x)
    (b o : Nat) (hx : a.eval x = .pointer (some ⟨b, o, none⟩)) (e : En) (he : e.sm.length = 32) (hS : ∀ w, S w → w.rangeAt b o e.cells) : YieldsIf Try.prog ops S op (.agg e.arr) a :=
  yieldsIf_load_mid hw 77 x ho b o hx e.cells _ hS Try.underlying77 rfl (by rw [En.len he]; exact size54)
theorem y24 {ops : Array Oper} {S : World → Prop} {op : Oper} {a : Act} (hw : Region.wanted op (yielded ops a.tmps) = true) (x : Operand) (ho : op.op = .load 24 x)
    (b o : Nat) (hx : a.eval x = .pointer (some ⟨b, o, none⟩)) (X : List Int) (hX : X.length = 32) (hS : ∀ w, S w → w.rangeAt b o (by8 X)) : YieldsIf Try.prog ops S op (.agg (h8 X)) a :=
  yieldsIf_load_mid hw 24 x ho b o hx (by8 X) _ hS Try.underlying24 rfl (by rw [by8_len, hX]; exact size24)
theorem bel_put {B r : Nat} {a w : World} (h : Below B a w) (o : Obj) (hr : B ≤ r) : Below B a (w.putObj r o) :=
  h.trans ⟨rfl, rfl, rfl, by simp [World.putObj], fun k hk => by simp [World.putObj, Array.getElem?_setIfInBounds, show r ≠ k by omega]⟩

end Go.Proofs.Ytlebojbfcolkhaa
/- Layer collide: built entries and climbers; pairOf. -/
namespace Go.Proofs.Ytlebojbfcolkhaa
open Go.RowKit
set_option maxRecDepth 100000
set_option linter.unusedVariables false
set_option linter.unusedSimpArgs false

/-- A list of 32 is that. -/
theorem list32 {P : List Int → Prop} (h : ∀ x0 x1 x2 x3 x4 x5 x6 x7 x8 x9 x10 x11 x12 x13 x14 x15 x16 x17 x18 x19 x20 x21 x22 x23 x24 x25 x26 x27 x28 x29 x30 x31 : Int, P [x0, x1, x2, x3, x4, x5, x6, x7, x8, x9, x10, x11, x12, x13, x14, x15, x16, x17, x18, x19, x20, x21, x22, x23, x24, x25, x26, x27, x28, x29, x30, x31]) (X : List Int) (hX : X.length = 32) : P X := by
  match X, hX with
  | [x0, x1, x2, x3, x4, x5, x6, x7, x8, x9, x10, x11, x12, x13, x14, x15, x16, x17, x18, x19, x20, x21, x22, x23, x24, x25, x26, x27, x28, x29, x30, x31], _ => exact h x0 x1 x2 x3 x4 x5 x6 x7 x8 x9 x10 x11 x12 x13 x14 x15 x16 x17 x18 x19 x20 x21 x22 x23 x24 x25 x26 x27 x28 x29 x30 x31
set_option maxRecDepth 100000 in
theorem built54 (sp : Option Addr) (n cap : Nat) (X : List Int) (hX : X.length = 32) (bs : List Int) : Try.prog.built 77 [(0, .slice sp n cap), (1, .agg (h8 X))] = some (En.arr ⟨sp, n, cap, bs, X⟩) :=
  list32 (P := fun X => Try.prog.built 77 [(0, .slice sp n cap), (1, .agg (h8 X))] = some (En.arr ⟨sp, n, cap, bs, X⟩)) (fun x0 x1 x2 x3 x4 x5 x6 x7 x8 x9 x10 x11 x12 x13 x14 x15 x16 x17 x18 x19 x20 x21 x22 x23 x24 x25 x26 x27 x28 x29 x30 x31 => by kernel_rfl) X hX
set_option maxRecDepth 100000 in
theorem built54z (sp : Option Addr) (n cap : Nat) (bs : List Int) : Try.prog.built 77 [(0, .slice sp n cap)] = some (En.arr ⟨sp, n, cap, bs, Z32⟩) := by kernel_rfl
/-- What a climber's cells are. -/
def clm (m : Int) (X : List Int) : List Value := .func (Fn.func 79) #[] #[] :: .int .i64 m :: by8 X
/-- .. as an array. -/
def clA (m : Int) (X : List Int) : Array Value := (clm m X).toArray
theorem clm_len {m : Int} {X : List Int} (hX : X.length = 32) : (clm m X).length = 34 := by simp [clm, by8_len, hX]
theorem clm_one (m : Int) (X : List Int) : ∀ v ∈ clm m X, v.oneCell' = true := by
  intro v hv
  rcases List.mem_cons.1 hv with rfl | h
  · rfl
  · rcases List.mem_cons.1 h with rfl | h
    · rfl
    · exact by8_one _ v h
set_option maxRecDepth 100000 in
theorem built64 (m : Int) (X : List Int) (hX : X.length = 32) : Try.prog.built 151 [(0, .func (Fn.func 79) #[] #[]), (1, .int .i64 m), (2, .agg (h8 X))] = some (clA m X) :=
  list32 (P := fun X => Try.prog.built 151 [(0, .func (Fn.func 79) #[] #[]), (1, .int .i64 m), (2, .agg (h8 X))] = some (clA m X)) (fun x0 x1 x2 x3 x4 x5 x6 x7 x8 x9 x10 x11 x12 x13 x14 x15 x16 x17 x18 x19 x20 x21 x22 x23 x24 x25 x26 x27 x28 x29 x30 x31 => by kernel_rfl) X hX
theorem wp_bdT {o : Oper} {a : Act} {w : World} {K : Act → World → Prop} {Q : Exit → Act → World → Prop} (t : TypeId) (parts : Array (Nat × Operand)) (ho : o.op = .build t parts) {ps : List (Nat × Value)} (hp : parts.toList.map (fun p => (p.1, a.eval p.2)) = ps) {C : Array Value} (hb : Try.prog.built t ps = some C)
    (h : K (a.put o.dst (.agg C)) w) : o.wp Try.prog a w K Q := by
  have e : (parts.map fun (i, x) => (i, a.eval x)).toList = ps := by rw [Array.toList_map]; exact hp
  refine wp_build t parts ho (by rw [e, hb]; rfl) ?_
  rw [e, hb]; exact h
theorem bdT {ops : Array Oper} {rest : List Oper} {o : Oper} {a : Act} {w : World} {Q : Exit → Act → World → Prop} (hg : o.guard = none) (t : TypeId) (parts : Array (Nat × Operand)) (ho : o.op = .build t parts) {ps : List (Nat × Value)} (hp : parts.toList.map (fun p => (p.1, a.eval p.2)) = ps) {C : Array Value} (hb : Try.prog.built t ps = some C)
    (h : wpList Try.prog ops Q rest (a.put o.dst (.agg C)) w) : wpList Try.prog ops Q (o :: rest) a w :=
  wpList_plain hg fun _ hK => wp_bdT t parts ho hp hb (hK _ _ h)

/-- The bytes of a pair are told. -/
def BPo (L : List Int) (m : Nat) (w : World) (e : Ending) (w' : World) : Prop := ∃ sp cap, e = .returned (.slice sp m cap) ∧ BSR w'.heap.size w' sp m cap L ∧ (∀ g off, sp = some ⟨g, off, none⟩ → w.heap.size ≤ g) ∧ Below w.heap.size w w'
set_option maxRecDepth 100000 in
set_option maxHeartbeats 600000 in
theorem pairOf_any (X Y : List Int) (w : World) (hX : X.length = 32) (hY : Y.length = 32) (bX : Bts X) (bY : Bts Y) : Calls Try.prog 113 #[.agg (h8 X), .agg (h8 Y)] w (BPo (1 :: (X ++ Y)) 65 w) := by
  obtain ⟨i0, hi, hz0, hz1, hz2⟩ := info_parts info5
  have HX := Hid.mk' hX
  have HY := Hid.mk' hY
  have hbt := Hid.mk' (Bts.one (bX.app bY))
  clear hX hY
  go_enter Try.func113, Try.ntmps113
  go_wp2_with (first
    | (at_make; go_must (refine wpList_make_own _ (by rfl) (.const (.int .i64 0)) (.const (.int .i64 65)) 59 (by rfl) (w.heap.size + 2) 5 i0 (.int .u8 0) 1 Try.underlying59 hi hz0 hz1 .i64 .i64 _ 65 (by rfl) (by rfl) (by omega) (by rw [hz2]; omega) (Nat.le_trans (by omega) maxLen_ge) (by simp) ?_; intro w1 hown1 hg1; have hown1 : w1.ownsRow (w.heap.size + 2) 5 1 (.slice (some ⟨w.heap.size + 2, 0, none⟩) 0 65) 0 [] := (by simpa using hown1); have hs1 : w.heap.size + 2 ≤ w1.heap.size := (by have := hg1.size; simpa using this); have hX1 : Arr w1 w.heap.size 24 (h8 X) := ((Arr.new w 24 _).alloc _).grown hg1 (by simp); have hY1 : Arr w1 (w.heap.size + 1) 24 (h8 Y) := (show Arr ((w.alloc _).alloc _) (w.heap.size + 1) 24 (h8 Y) from (by simpa using Arr.new (w.alloc (.cells (h8 X) 24)) 24 (h8 Y))).grown hg1 (by simp); have hB1 : Below w.heap.size w w1 := (((Below.refl _ _).alloc (Nat.le_refl _) _).alloc (by simp) _).grown hg1 (by simp; omega) (by simp)))
    | (at_builtin; refine append_bytes (by rfl) (.tmp 7) (.tmp 8) (by rfl) (w.heap.size + 2) _ 0 [] (by rfl) (hown1.alloc _) (some ⟨w1.heap.size, 0, none⟩) 1 1 [1] (by rfl) (by rfl) (fun h => by cases h) (Arr.sl (Arr.new w1 5 _)) (by omega) (by simp; omega) ?_; intro v2 w2 hown2 hg2; have hX2 := (hX1.alloc _).grown hg2 (ne_own hown1 (by omega)); have hY2 := (hY1.alloc _).grown hg2 (ne_own hown1 (by omega)); have hB2 := (hB1.alloc (by omega) _).grown hg2 (by simp; omega) (fun k e => by have := own_ge hown1 k e; omega); have hs2 : w.heap.size + 2 ≤ w2.heap.size := (by have := hg2.size; simp at this; omega))
    | (at_builtin; refine append_bytes (by rfl) (.tmp 10) (.tmp 11) (by rfl) (w.heap.size + 2) _ 1 [1] (by rfl) hown2 (some ⟨w.heap.size, 0, none⟩) 32 32 X (by rfl) HX.out.symm (fun h => by cases h) (Arr.sl hX2) (by omega) hs2 ?_; intro v3 w3 hown3 hg3; have hY3 := hY2.grown hg3 (ne_own hown2 (by omega)); have hB3 := hB2.grown hg3 (by omega) (fun k e => by have := own_ge hown2 k e; omega); have hs3 : w.heap.size + 2 ≤ w3.heap.size := Nat.le_trans hs2 hg3.size)
    | (at_builtin; refine append_bytes (by rfl) (.tmp 13) (.tmp 14) (by rfl) (w.heap.size + 2) _ 33 ([1] ++ X) (by rfl) hown3 (some ⟨w.heap.size + 1, 0, none⟩) 32 32 Y (by rfl) HY.out.symm (fun h => by cases h) (Arr.sl hY3) (by omega) hs3 ?_; intro v4 w4 hown4 hg4; have hB4 := hB3.grown hg4 (by omega) (fun k e => by have := own_ge hown3 k e; omega); obtain ⟨sp4, cap4, rfl, hb4, hg4⟩ := own_bs hown4 hbt.out (by omega)))
  go_ret
  exact ⟨sp4, cap4, rfl, hb4, fun g off e => by have := (hg4 g off e).1; omega, hB4⟩
end Go.Proofs.Ytlebojbfcolkhaa
