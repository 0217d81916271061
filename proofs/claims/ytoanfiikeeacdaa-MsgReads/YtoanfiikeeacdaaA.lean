/- Layer msg: what every text wants: blocks, bytes, sums of the layers below. -/
import Derived.Test.YtoanfiikeeacdaaRows
import Derived.BigQuiet
import Derived.BigRegion
import Derived.ChangeKeysEq
import Derived.ChangeOld
import Derived.Deep.DeepCutAuto
import Derived.Deep.DrawnRows
import Derived.Deep.MidRow
import Derived.Deep.QuietTactic
import Derived.Deep.RegionHeld3
import Derived.Deep.RegionLaw
import Derived.Deep.RegionWith
import Derived.Deep.WholeRow
import Derived.Great.BuildSlice
import Derived.Great.FillDense
import Derived.Laws.AppendOwnNone
import Derived.Laws.BitsLemmas
import Derived.Laws.BytesArg
import Derived.Laws.CopyOwn
import Derived.Laws.OwnMore
import Derived.Laws.ResultCell
import Derived.Lib.SlBytesConst
import Derived.Maps.AppendAt
import Derived.OpenShut
import Derived.ProofKit
import Derived.ShutString
import Derived.SizedLaws
import Derived.WalkKit
import Derived.WalkLawsBesides
import Derived.WalkSpells
namespace Go.Proofs.Ytoanfiikeeacdaa
open Go.RowKit
set_option maxRecDepth 100000
set_option linter.unusedVariables false
set_option linter.unusedSimpArgs false

def Row (w : World) (b n : Nat) (f : Nat → Int) : Prop := ∀ t, t < n → w.cell? ⟨b, t, none⟩ = some (.int .u32 (f t))
/-- Block g holds the cells C, and may be written. -/
def Arr (w : World) (g : Nat) (ty : TypeId) (C : Array Value) : Prop := w.heap[g]? = some (.cells C ty (0, 0))
theorem Arr.cell {w : World} {g ty : Nat} {C : Array Value} (h : Arr w g ty C) (j : Nat) : w.cell? ⟨g, j, none⟩ = C[j]? := by
  unfold Arr at h; simp [World.cell?, h]
theorem Arr.frozen {w : World} {g ty : Nat} {C : Array Value} (h : Arr w g ty C) (j : Nat) : w.frozen? ⟨g, j, none⟩ = false := by
  unfold Arr at h; simp [World.frozen?, h]
theorem Arr.lt {w : World} {g ty : Nat} {C : Array Value} (h : Arr w g ty C) : g < w.heap.size := by
  unfold Arr at h; exact (Array.getElem?_eq_some_iff.1 h).1
theorem Arr.set {w : World} {g ty : Nat} {C : Array Value} (h : Arr w g ty C) (j : Nat) (v : Value) : Arr (w.setCell ⟨g, j, none⟩ v) g ty (C.setIfInBounds j v) := by
  unfold Arr at h ⊢; simp [World.setCell, Array.getElem?_modify, h]
theorem Arr.setOther {w : World} {g ty : Nat} {C : Array Value} (h : Arr w g ty C) {a : Addr} (v : Value) (ha : g ≠ a.block) : Arr (w.setCell a v) g ty C := by
  unfold Arr at h ⊢; rw [Below.heap_setCell _ _ _ _ ha]; exact h
theorem Arr.drew {w : World} {g ty : Nat} {C : Array Value} (h : Arr w g ty C) : Arr w.drew g ty C := h
theorem Arr.drewN {w : World} {g ty : Nat} {C : Array Value} (h : Arr w g ty C) (n : Nat) : Arr (w.drewN n) g ty C := h
theorem Arr.alloc {w : World} {g ty : Nat} {C : Array Value} (h : Arr w g ty C) (o : Obj) : Arr (w.alloc o) g ty C := by
  have := h.lt; unfold Arr at h ⊢; rw [Below.heap_alloc _ _ _ this]; exact h
theorem Arr.new (w : World) (ty : Nat) (C : Array Value) : Arr (w.alloc (.cells C ty)) w.heap.size ty C := by
  show (w.heap.push _)[w.heap.size]? = _; rw [Array.getElem?_push_size]
theorem Arr.below {w w' : World} {g ty B : Nat} {C : Array Value} (h : Arr w g ty C) (hb : Below B w w') (hg : g < B) : Arr w' g ty C := by
  unfold Arr at h ⊢; rw [hb.block g hg]; exact h
theorem Arr.setRow {w : World} {g ty : Nat} {C : Array Value} (h : Arr w g ty C) (D : Array Value) : Arr (w.setRow g D) g ty D := setRow_heap w g C D ty (0, 0) h
theorem Arr.setRowOther {w : World} {g ty k : Nat} {C : Array Value} (h : Arr w g ty C) (D : Array Value) (hk : g ≠ k) : Arr (w.setRow k D) g ty C := by
  unfold Arr at h ⊢; rw [setRow_other w k g D hk]; exact h
theorem below_setRow {B : Nat} {a w : World} (h : Below B a w) {g : Nat} (hg : B ≤ g) (D : Array Value) : Below B a (w.setRow g D) :=
  h.trans ⟨rfl, rfl, rfl, by simp, fun k hk => setRow_other w g k D (by omega)⟩
theorem wpList_store_arr {P : Program} {ops : Array Oper} {rest : List Oper} {o : Oper} {a : Act} {w : World} {Q : Exit → Act → World → Prop} (hgd : o.guard = none) (ty : TypeId) (x y : Operand) (ho : o.op = .store ty x y)
    (g : Nat) (cells : Array Value) (hx : a.eval x = .pointer (some ⟨g, 0, none⟩)) (hy : a.eval y = .agg cells)
    (t : TypeId) (old : Array Value) (hg : Arr w g t old) (hi : (P.info? ty).map (·.size) = some cells.size)
    (hold : old.size = cells.size) (h1 : cells.all (·.oneCell') = true)
    (h : wpList P ops Q rest (a.put o.dst undef) (w.setRow g cells)) : wpList P ops Q (o :: rest) a w :=
  wpList_plain hgd fun _ hK => wp_store_row ty x y ho g cells hx hy t old hg hi hold h1 (hK _ _ h)
theorem wpList_store_new {P : Program} {ops : Array Oper} {rest : List Oper} {o : Oper} {a : Act} {Q : Exit → Act → World → Prop} (w1 : World) (z : Array Value) (t : TypeId) (hgd : o.guard = none) (ty : TypeId) (x y : Operand) (ho : o.op = .store ty x y)
    (cells : Array Value) (hx : a.eval x = .pointer (some ⟨w1.heap.size, 0, none⟩)) (hy : a.eval y = .agg cells)
    (hi : (P.info? ty).map (·.size) = some cells.size)
    (hold : z.size = cells.size) (h1 : cells.all (·.oneCell') = true)
    (h : wpList P ops Q rest (a.put o.dst undef) (w1.alloc (.cells cells t))) : wpList P ops Q (o :: rest) a (w1.alloc (.cells z t)) :=
  wpList_store_arr hgd ty x y ho w1.heap.size cells hx hy t z (Arr.new w1 t z) hi hold h1 (by rw [World.setRow_alloc_new]; exact h)
theorem one_ints {C : Array Value} {n : Nat} {k : IntKind} {f : Nat → Int} (hs : C.size = n) (h : ∀ t, t < n → C[t]? = some (.int k (f t))) : C.all (·.oneCell') = true := by
  refine Array.all_eq_true_iff_forall_mem.2 fun v hv => ?_
  obtain ⟨j, hj, rfl⟩ := Array.mem_iff_getElem.1 hv
  have := h j (by omega)
  rw [Array.getElem?_eq_getElem hj] at this
  rw [Option.some.inj this]; rfl
theorem size24 : (Try.prog.info? 25).map (·.size) = some 32 := by kernel_rfl
attribute [local go_sem ↓] Go.wp_at_zero Go.wp_at_succ

def Bytes (w : World) (b off n : Nat) (B : Nat → Int) : Prop := ∀ t, t < n → w.cell? ⟨b, off + t, none⟩ = some (.int .u8 (B t))
theorem set_step {C : Array Value} {f : Nat → Value} {k n : Nat} (hs : C.size = n) (hk : k < n) (h : ∀ t, t < k → C[t]? = some (f t)) :
    ∀ t, t < k + 1 → (C.setIfInBounds k (f k))[t]? = some (f t) := by
  intro t ht
  rw [Array.getElem?_setIfInBounds]
  by_cases e : k = t
  · subst e; simp [hs, hk]
  · rw [if_neg e]; exact h t (by omega)
theorem Arr.row {w : World} {g ty : Nat} {C : Array Value} (h : Arr w g ty C) {n : Nat} {f : Nat → Int} (hf : ∀ t, t < n → C[t]? = some (.int .u32 (f t))) : Row w g n f := fun t ht => (h.cell t).trans (hf t ht)
theorem Row.below {w w' : World} {b n B : Nat} {f : Nat → Int} (h : Row w b n f) (hb : Below B w w') (hlt : b < B) : Row w' b n f := fun t ht => (hb.cell (p := ⟨b, t, none⟩) hlt).trans (h t ht)
theorem Row.alloc {w : World} {b n : Nat} {f : Nat → Int} (h : Row w b n f) (hlt : b < w.heap.size) (o : Obj) : Row (w.alloc o) b n f := fun t ht => by
  rw [World.cell?_alloc_lt _ _ _ hlt]; exact h t ht
/-- What a slice of bytes reads: nil and empty ones too. -/
def Sl (w : World) (sp : Option Addr) (len : Nat) (B : Nat → Int) : Prop := 0 < len → ∃ b off, sp = some ⟨b, off, none⟩ ∧ Bytes w b off len B
theorem info5 : (Try.prog.info? 5).map (fun i => (i.zero, i.size, i.bytes)) = some (some (.int .u8 0), 1, 1) := by kernel_rfl
theorem size5 : (Try.prog.info? 5).map (·.size) = some 1 := by kernel_rfl
/-- The bytes of a slice as cells. -/
def cellsB (B : Nat → Int) (r : Nat) : List Value := (List.range r).map fun t => .int .u8 (B t)
theorem cellsB_len (B : Nat → Int) (r : Nat) : (cellsB B r).length = r := by simp [cellsB]
theorem cellsB_get {B : Nat → Int} {r t : Nat} (h : t < r) : (cellsB B r)[t]? = some (.int .u8 (B t)) := by simp [cellsB, h]
theorem Sl.pos {w : World} {sp : Option Addr} {r : Nat} {B : Nat → Int} (h : Sl w sp r B) (h0 : 0 < (cellsB B r).length) :
    ∃ ad, sp = some ad ∧ ∀ j v, (cellsB B r)[j]? = some v → w.cell? (ad.add j) = some v := by
  rw [cellsB_len] at h0
  obtain ⟨b, off, rfl, hB⟩ := h h0
  refine ⟨_, rfl, fun j v hv => ?_⟩
  have hj : j < r := by have := (List.getElem?_eq_some_iff.1 hv).1; rwa [cellsB_len] at this
  rw [cellsB_get hj] at hv
  rw [Addr.add_mid, hB j hj]; exact hv
theorem Sl.alloc {w : World} {sp : Option Addr} {r : Nat} {B : Nat → Int} (h : Sl w sp r B) (o : Obj) : Sl (w.alloc o) sp r B := fun h0 => by
  obtain ⟨b, off, rfl, hB⟩ := h h0
  exact ⟨b, off, rfl, fun t ht => by rw [World.cell?_alloc_lt _ _ _ (block_lt_of_cell (hB t ht))]; exact hB t ht⟩
theorem Sl.below {w w' : World} {sp : Option Addr} {r : Nat} {B : Nat → Int} (h : Sl w sp r B) (hb : Below w.heap.size w w') : Sl w' sp r B := fun h0 => by
  obtain ⟨b, off, rfl, hB⟩ := h h0
  exact ⟨b, off, rfl, fun t ht => by rw [hb.cell (p := ⟨b, off + t, none⟩) (block_lt_of_cell (hB t ht))]; exact hB t ht⟩
theorem Hid.mk' {p : Prop} (h : p) : Hid p := h
theorem Arr.got {w : World} {g ty : Nat} {C : Array Value} (h : Arr w g ty C) {j : Nat} (hj : j < C.size) : ∃ v, w.cell? ⟨g, j, none⟩ = some v :=
  ⟨C[j], by rw [h.cell, Array.getElem?_eq_getElem hj]⟩
/-- An array written by a rule. -/
def arr (n : Nat) (f : Nat → Value) : Array Value := ((List.range n).map f).toArray
theorem arr_size (n : Nat) (f : Nat → Value) : (arr n f).size = n := by simp [arr]
theorem arr_get {n : Nat} {f : Nat → Value} {t : Nat} (h : t < n) : (arr n f)[t]? = some (f t) := by simp [arr, h]
theorem arr_eq {C : Array Value} {n : Nat} {f : Nat → Value} (hs : C.size = n) (h : ∀ t, t < n → C[t]? = some (f t)) : C = arr n f := by
  apply Array.ext_getElem?
  intro i
  by_cases hi : i < n
  · rw [h i hi, arr_get hi]
  · rw [Array.getElem?_eq_none (by omega), Array.getElem?_eq_none (by rw [arr_size]; omega)]
def u8s (n : Nat) (f : Nat → Int) : Array Value := arr n fun t => .int .u8 (f t)
theorem index24 (C : Array Value) (f : Nat → Int) (hC : ∀ t, t < 32 → C[t]? = some (.int .u8 (f t))) (k : Nat) (hk : k < 32) (w : World) :
    (Instr.index 25 (.agg C) (.int .i64 k)).run Try.prog w = .ok (.int .u8 (f k)) w := by
  have e : C[k]? = some (.int .u8 (f k)) := hC k hk
  simp [Instr.index, asIntOf, run_underlying Try.underlying25, Try.sizeOf5, part, Try.isAgg5, hk, e]
theorem Arr.spare {W : World} {g t o n : Nat} {D : Array Value} (h : Arr W g t D) (hn : o + n ≤ D.size) : ∀ j, j < n → (W.cell? ⟨g, o + j, none⟩).isSome = true ∧ W.frozen? ⟨g, o + j, none⟩ = false := fun j hj =>
  ⟨by rw [h.cell, Array.getElem?_eq_getElem (by omega)]; rfl, h.frozen _⟩
theorem u8s_size (n : Nat) (f : Nat → Int) : (u8s n f).size = n := arr_size _ _
theorem u8s_get {n : Nat} {f : Nat → Int} {t : Nat} (h : t < n) : (u8s n f)[t]? = some (.int .u8 (f t)) := arr_get h
/-- Bytes as cells. -/
def by8 (L : List Int) : List Value := L.map (Value.int .u8)
theorem by8_len (L : List Int) : (by8 L).length = L.length := by simp [by8]
theorem by8_app (L M : List Int) : by8 (L ++ M) = by8 L ++ by8 M := by simp [by8]
theorem by8_one (L : List Int) : ∀ v ∈ by8 L, v.oneCell' = true := by
  intro v hv; simp only [by8, List.mem_map] at hv; obtain ⟨t, -, rfl⟩ := hv; rfl
/-- Byte t. -/
def bat (L : List Int) (t : Nat) : Int := L.getD t 0
theorem by8_get {L : List Int} {t : Nat} (h : t < L.length) : (by8 L)[t]? = some (.int .u8 (bat L t)) := by
  simp [by8, bat, List.getElem?_eq_getElem h]
/-- What a slice of bytes reads. -/
def SlL (w : World) (sp : Option Addr) (L : List Int) : Prop := Sl w sp L.length (bat L)
theorem Arr.sl {w : World} {g ty : Nat} {L : List Int} (h : Arr w g ty (by8 L).toArray) : SlL w (some ⟨g, 0, none⟩) L := fun _ => ⟨g, 0, rfl, fun t ht => by
  rw [Nat.zero_add, h.cell]; simpa using by8_get ht⟩
theorem own_ge {w : World} {base e s n : Nat} {v : Value} {xs : List Value} (h : w.ownsRow base e s v n xs) : ∀ k, v.ownBlock = some k → base ≤ k := by
  intro k hk
  obtain ⟨-, h | ⟨g, cap, cur, rfl, hg, -⟩⟩ := h
  · obtain ⟨rfl, -⟩ := h; simp [Value.ownBlock] at hk
  · simp [Value.ownBlock] at hk; omega
/-- What an own slice that is not empty looks like. -/
theorem own_slice {w : World} {base n : Nat} {v : Value} {L : List Int} (h : w.ownsRow base 5 1 v n (by8 L)) (h0 : 0 < n) :
    ∃ g cap, v = .slice (some ⟨g, 0, none⟩) n cap ∧ Hid (n = L.length) ∧ n ≤ cap ∧ base ≤ g ∧ Bytes w g 0 L.length (bat L) ∧ (∃ cur : Array Value, Arr w g 5 cur ∧ cur.size = cap) := by
  obtain ⟨hl, h | ⟨g, cap, cur, rfl, hg, hh, hn, -, hc, ht⟩⟩ := h
  · omega
  · rw [by8_len, Nat.mul_one] at hl
    subst hl
    refine ⟨g, cap, rfl, show _ = _ from rfl, hn, hg, fun t htl => ?_, cur, hh, by simpa using hc⟩
    rw [Nat.zero_add, cell_of_row w g t cur 5 (0, 0) hh, ← Array.getElem?_toList, ← List.getElem?_take_of_lt (show t < L.length * 1 by omega), ht, by8_get htl]
theorem maxLen_ge : 140737488355328 ≤ maxLen := by unfold maxLen; omega
/-- append of bytes onto a slice of the call's own: the operation. -/
theorem wp_append_bytes {o : Oper} {a : Act} {w : World} {K : Act → World → Prop} {Q : Exit → Act → World → Prop} (s x : Operand)
    (ho : o.op = .call { callee := .builtin .append, args := #[s, x], argTypes := #[28, 28] })
    (base : Nat) (v : Value) (n : Nat) (L : List Int) (hs : a.eval s = v) (hown : w.ownsRow base 5 1 v n (by8 L))
    (sp : Option Addr) (m c : Nat) (M : List Int) (hx : a.eval x = .slice sp m c) (hm : m = M.length) (hnil : sp = none → m = 0 ∧ c = 0) (hS : SlL w sp M) (hb : n + m ≤ 140737488355328) (hbase : base ≤ w.heap.size)
    (h : ∀ v' w', w'.ownsRow base 5 1 v' (n + m) (by8 (L ++ M)) → w.grownBy w' v.ownBlock → K (a.put o.dst v') w') : o.wp Try.prog a w K Q := by
  obtain ⟨i0, hi, hz0, hz1, hz2⟩ := info_parts info5
  subst hm
  cases sp with
  | none =>
    obtain ⟨h1, rfl⟩ := hnil rfl
    obtain rfl : M = [] := List.eq_nil_of_length_eq_zero h1
    have hrun := run_append_owned_none (P := Try.prog) (w := w) base 28 o.type 5 i0 1 Try.underlying28 hi v n _ hown
    unfold Oper.wp
    simp only [List.length_nil] at hx
    simp [execOp, ho, resolve, invoke, builtin, hs, hx, hrun, Result.andThen]
    exact h v w (by simpa using hown) ⟨rfl, rfl, rfl, Nat.le_refl _, fun _ _ _ => rfl⟩
  | some ad =>
    refine wp_append_own w s x 28 ho base 5 i0 (.int .u8 0) 1 1 Try.underlying28 hi hz0 hz1 hz2 rfl (by omega) v n _ hs hown ad M.length c (by8 M) hx (by rw [by8_len]; omega) ?_ (by8_one M) (Nat.le_trans hb maxLen_ge) (by omega) hbase ?_
    · intro j u hj
      have hjl : j < M.length := by have := (List.getElem?_eq_some_iff.1 hj).1; rwa [by8_len] at this
      obtain ⟨b, off, e, hB⟩ := hS (by omega)
      obtain rfl := Option.some.inj e
      rw [by8_get hjl] at hj
      rw [Addr.add_mid, hB j hjl]; exact hj
    · intro v' w' h1 h2 _
      exact h v' w' (by rw [by8_app]; exact h1) h2
theorem wpList_want {P : Program} {ops : Array Oper} {rest : List Oper} {o : Oper} {a : Act} {w : World} {Q : Exit → Act → World → Prop} (hw : Region.wanted o (yielded ops a.tmps) = true)
    (h : ∀ K : Act → World → Prop, (∀ a w, wpList P ops Q rest a w → K a w) → o.wp P a w K Q) : wpList P ops Q (o :: rest) a w :=
  wpList_step fun K hK => by rw [if_pos hw]; exact h K hK
theorem step_want {P : Program} {ops : Array Oper} {o : Oper} {a : Act} {w : World} {K : Act → World → Prop} {Q : Exit → Act → World → Prop} {E : Prop} (hg : o.guard = none) (h : Oper.wp P o a w K Q) :
    if Region.wanted o (yielded ops a.tmps) = true then Oper.wp P o a w K Q else E := by
  rw [if_pos (by simp [Region.wanted, hg])]; exact h
/-- .. in a region's list, guarded or not. -/
theorem append_bytes {ops : Array Oper} {rest : List Oper} {o : Oper} {a : Act} {w : World} {Q : Exit → Act → World → Prop} (hgd : Region.wanted o (yielded ops a.tmps) = true) (s x : Operand)
    (ho : o.op = .call { callee := .builtin .append, args := #[s, x], argTypes := #[28, 28] })
    (base : Nat) (v : Value) (n : Nat) (L : List Int) (hs : a.eval s = v) (hown : w.ownsRow base 5 1 v n (by8 L))
    (sp : Option Addr) (m c : Nat) (M : List Int) (hx : a.eval x = .slice sp m c) (hm : m = M.length) (hnil : sp = none → m = 0 ∧ c = 0) (hS : SlL w sp M) (hb : n + m ≤ 140737488355328) (hbase : base ≤ w.heap.size)
    (h : ∀ v' w', w'.ownsRow base 5 1 v' (n + m) (by8 (L ++ M)) → w.grownBy w' v.ownBlock → wpList Try.prog ops Q rest (a.put o.dst v') w') : wpList Try.prog ops Q (o :: rest) a w :=
  wpList_want hgd fun _ hK => wp_append_bytes s x ho base v n L hs hown sp m c M hx hm hnil hS hb hbase fun v' w' h1 h2 => hK _ _ (h v' w' h1 h2)
/-- .. in a region that draws its order. -/
theorem step_append_bytes {ops : Array Oper} {o : Oper} {a : Act} {w : World} {K : Act → World → Prop} {Q : Exit → Act → World → Prop} {E : Prop} (hgd : o.guard = none) (s x : Operand)
    (ho : o.op = .call { callee := .builtin .append, args := #[s, x], argTypes := #[28, 28] })
    (base : Nat) (v : Value) (n : Nat) (L : List Int) (hs : a.eval s = v) (hown : w.ownsRow base 5 1 v n (by8 L))
    (sp : Option Addr) (m c : Nat) (M : List Int) (hx : a.eval x = .slice sp m c) (hm : m = M.length) (hnil : sp = none → m = 0 ∧ c = 0) (hS : SlL w sp M) (hb : n + m ≤ 140737488355328) (hbase : base ≤ w.heap.size)
    (h : ∀ v' w', w'.ownsRow base 5 1 v' (n + m) (by8 (L ++ M)) → w.grownBy w' v.ownBlock → K (a.put o.dst v') w') :
    if Region.wanted o (yielded ops a.tmps) = true then Oper.wp Try.prog o a w K Q else E :=
  step_want hgd (wp_append_bytes s x ho base v n L hs hown sp m c M hx hm hnil hS hb hbase h)
/-- A whole array out of its block, guarded or not. -/
theorem load_arr {ops : Array Oper} {rest : List Oper} {o : Oper} {a : Act} {w : World} {Q : Exit → Act → World → Prop} (hgd : Region.wanted o (yielded ops a.tmps) = true) (ty : TypeId) (x : Operand) (ho : o.op = .load ty x)
    (g : Nat) (hx : a.eval x = .pointer (some ⟨g, 0, none⟩)) (t : TypeId) (C : Array Value) (n e : Nat) (hg : Arr w g t C)
    (hu : Try.prog.underlying ty = some (.array n e)) (hi : (Try.prog.info? ty).map (·.size) = some C.size)
    (h : wpList Try.prog ops Q rest (a.put o.dst (.agg C)) w) : wpList Try.prog ops Q (o :: rest) a w :=
  wpList_want hgd fun _ hK => wp_load_row ty x ho g hx t C (0, 0) _ hg hu rfl hi (hK _ _ h)
theorem own : ownKnob Try.prog.godebug = none := by kernel_rfl
theorem Sl.grown {w w' : World} {sp : Option Addr} {r : Nat} {B : Nat → Int} {row : Option Nat} (h : Sl w sp r B) (hg : w.grownBy w' row) (hr : ∀ b off, sp = some ⟨b, off, none⟩ → 0 < r → some b ≠ row) : Sl w' sp r B := fun h0 => by
  obtain ⟨b, off, rfl, hB⟩ := h h0
  refine ⟨b, off, rfl, fun t ht => ?_⟩
  rw [World.cell?_of_block (w := w) (a := ⟨b, off + t, none⟩) (hg.block b (block_lt_of_cell (hB t ht)) (hr b off rfl h0))]
  exact hB t ht
theorem Arr.grown {w w' : World} {g ty : Nat} {C : Array Value} {row : Option Nat} (h : Arr w g ty C) (hg : w.grownBy w' row) (hr : some g ≠ row) : Arr w' g ty C := by
  have := hg.block g h.lt hr
  unfold Arr at h ⊢; rw [this]; exact h
theorem Sl.lt {w : World} {b off r : Nat} {B : Nat → Int} (h : Sl w (some ⟨b, off, none⟩) r B) (h0 : 0 < r) : b < w.heap.size := by
  obtain ⟨b', off', e, hB⟩ := h h0
  cases e
  exact block_lt_of_cell (hB 0 h0)
theorem ne_own {w : World} {base e s n b : Nat} {v : Value} {xs : List Value} (h : w.ownsRow base e s v n xs) (hb : b < base) : some b ≠ v.ownBlock := fun h' => by
  have := own_ge h b h'.symm; omega
theorem Arr.new3 (w : World) (o1 o2 : Obj) (ty : Nat) (C : Array Value) : Arr (((w.alloc o1).alloc o2).alloc (.cells C ty)) (w.heap.size + 2) ty C := by
  simpa using Arr.new ((w.alloc o1).alloc o2) ty C
/-- A sum by value. -/
def h8 (X : List Int) : Array Value := (by8 X).toArray
theorem h8_size (X : List Int) : (h8 X).size = X.length := by simp [h8, by8_len]
theorem Bytes.below {w w' : World} {b off n : Nat} {B : Nat → Int} (h : Bytes w b off n B) (hb : Below w.heap.size w w') : Bytes w' b off n B := fun t ht => by
  rw [hb.cell (p := ⟨b, off + t, none⟩) (block_lt_of_cell (h t ht))]; exact h t ht
theorem Bytes.grownLit {w w' : World} {b off n c l : Nat} {B : Nat → Int} {o : Obj} (h : Bytes w b off n B) (hg : (w.alloc o).grownBy w' (Value.slice (some ⟨w.heap.size, 0, none⟩) l c).ownBlock) : Bytes w' b off n B := fun t ht => by
  have hb := block_lt_of_cell (h t ht)
  simp only at hb
  rw [World.cell?_of_block (w := w.alloc o) (a := ⟨b, off + t, none⟩) (hg.block b (by simp; omega) (by simp [Value.ownBlock]; omega)), World.cell?_alloc_lt _ _ _ hb]
  exact h t ht
theorem Arr.bel {w w' : World} {g ty : Nat} {C : Array Value} (h : Arr w g ty C) (hb : Below w.heap.size w w') : Arr w' g ty C := h.below hb h.lt
theorem s24h8 {X : List Int} (h : X.length = 32) : (Try.prog.info? 25).map (·.size) = some (h8 X).size := by rw [h8_size, h]; exact size24
theorem conv_bytes (sp : Option Addr) (n cap : Nat) (L : List Int) (w : World) (hn : n = L.length) (hnil : sp = none → n = 0 ∧ cap = 0) (hS : SlL w sp L) :
    (convert 28 9 (.slice sp n cap)).run Try.prog w = .ok (.string (strOfNums L)) w := by
  subst hn
  cases sp with
  | none =>
    obtain ⟨h1, rfl⟩ := hnil rfl
    obtain rfl : L = [] := List.eq_nil_of_length_eq_zero h1
    exact run_convert_bytes_nil w 28 5 Try.underlying28 Try.underlying5 0 0 9 Try.underlying9
  | some ad =>
    by_cases h0 : 0 < L.length
    · obtain ⟨b, off, e, hB⟩ := hS h0
      obtain rfl := Option.some.inj e
      exact run_convert_bytes_arg w 28 5 Try.underlying28 Try.underlying5 b off L.length cap L rfl hB 9 Try.underlying9
    · obtain rfl : L = [] := List.eq_nil_of_length_eq_zero (by omega)
      rw [run_convert_bytes_string w 28 9 5 _ _ cap Try.underlying28 Try.underlying5 Try.underlying9]
      have hl : (loadCells ad 0).run Try.prog w = .ok ((([] : List Int).map (Value.int .u8)).toArray) w := by simp [loadCells, loadCellsFrom]
      have := run_bytesToString w ad 0 cap [] hl
      exact this
theorem yields_arr {ops : Array Oper} {S : World → Prop} {op : Oper} {a : Act} (hw : Region.wanted op (yielded ops a.tmps) = true) (ty : TypeId) (x : Operand) (ho : op.op = .load ty x)
    (g : Nat) (hx : a.eval x = .pointer (some ⟨g, 0, none⟩)) (C : Array Value) {n e : Nat} (hS : ∀ w, S w → Arr w g ty C)
    (hu : Try.prog.underlying ty = some (.array n e)) (hi : (Try.prog.info? ty).map (·.size) = some C.size) : YieldsIf Try.prog ops S op (.agg C) a :=
  .inl ⟨hw, fun w hw' => by
    unfold execOp
    simp only [ho, hx, Instr.loadAt, Instr.sureAddr, Sem.run_bind, Sem.run_pure, Result.andThen_ok, run_loadVar_row w g ty ty C (0, 0) _ (hS w hw') hu rfl hi]⟩
theorem Bytes.take {w : World} {b off : Nat} {L M : List Int} (h : Bytes w b off (L ++ M).length (bat (L ++ M))) : Bytes w b off L.length (bat L) := fun t ht => by
  rw [h t (by simp; omega)]; simp [bat, List.getElem?_append_left ht]
theorem Bytes.back {w : World} {b : Nat} {L M : List Int} (h : Bytes w b 0 (L ++ M).length (bat (L ++ M))) {t : Nat} (ht : t < M.length) : w.cell? ⟨b, L.length + t, none⟩ = some (.int .u8 (bat M t)) := by
  have := h (L.length + t) (by simp; omega)
  rw [Nat.zero_add] at this
  rw [this]
  simp only [bat, List.getD_eq_getElem?_getD]
  rw [List.getElem?_append_right (by omega), Nat.add_sub_cancel_left]
/-- The zero sum. -/
def Z32 : List Int := List.replicate 32 0
theorem alloc_bel' (w : World) (o : Obj) : Below w.heap.size w (w.alloc o) := (Below.refl _ _).alloc (Nat.le_refl _) o
theorem h8_get {X : List Int} {t : Nat} (h : t < X.length) : (h8 X)[t]? = some (.int .u8 (bat X t)) := by
  simpa [h8] using by8_get h
theorem h8_one (X : List Int) : (h8 X).all (·.oneCell') = true := all_oneCell_toArray (by8_one X)
theorem h8_list (X : List Int) : (h8 X).toList = by8 X := rfl
theorem h8_Z : h8 Z32 = #[.int .u8 0, .int .u8 0, .int .u8 0, .int .u8 0, .int .u8 0, .int .u8 0, .int .u8 0, .int .u8 0, .int .u8 0, .int .u8 0, .int .u8 0, .int .u8 0, .int .u8 0, .int .u8 0, .int .u8 0, .int .u8 0, .int .u8 0, .int .u8 0, .int .u8 0, .int .u8 0, .int .u8 0, .int .u8 0, .int .u8 0, .int .u8 0, .int .u8 0, .int .u8 0, .int .u8 0, .int .u8 0, .int .u8 0, .int .u8 0, .int .u8 0, .int .u8 0] := rfl
theorem eqItems_two (w : World) (d : Nat) (C D : Array Value) (f g : Nat → Int) :
    ∀ is : List Nat, (∀ i ∈ is, C[i]? = some (.int .u8 (f i))) → (∀ i ∈ is, D[i]? = some (.int .u8 (g i))) → (Op.eqItems (d + 1) 5 1 C D is).run Try.prog w = .ok (is.all fun i => f i == g i) w
  | [], _, _ => by simp [Op.eqItems]
  | i :: is, h, h' => by
    have hi := h i (by simp)
    have hi' := h' i (by simp)
    have ih := eqItems_two w d C D f g is (fun j hj => h j (by simp [hj])) (fun j hj => h' j (by simp [hj]))
    have ha := @Try.isAgg5
    by_cases he : f i = g i
    · simp [Op.eqItems, part, ha, hi, hi', run_equalIn_int w d 5 .u8 .u8 _ _ Try.underlying5, ih, he]
    · simp [Op.eqItems, part, ha, hi, hi', run_equalIn_int w d 5 .u8 .u8 _ _ Try.underlying5, ih, he]
theorem bat_ext {X Y : List Int} (hX : X.length = 32) (hY : Y.length = 32) : ((List.range 32).all fun i => bat X i == bat Y i) = decide (X = Y) := by
  rw [Bool.eq_iff_iff]
  simp only [List.all_eq_true, List.mem_range, beq_iff_eq, decide_eq_true_eq]
  constructor
  · intro h
    apply List.ext_getElem (by omega)
    intro i h1 h2
    have := h i (by omega)
    simpa [bat, List.getD_eq_getElem?_getD, List.getElem?_eq_getElem, h1, h2] using this
  · rintro rfl i _; rfl
theorem run_eqIn24 {X Y : List Int} (hX : X.length = 32) (hY : Y.length = 32) (w : World) : (Op.equalIn 10000 25 (.agg (h8 X)) (.agg (h8 Y))).run Try.prog w = .ok (decide (X = Y)) w := by
  obtain ⟨i0, hi, -⟩ := info_parts info5
  have hc : Try.prog.cellsOf 5 = 1 := by kernel_rfl
  rw [run_equalIn_array w 9999 _ _ Try.underlying25 hi, hc, eqItems_two w 9998 _ _ (bat X) (bat Y) (List.range 32) (fun i h => h8_get (by rw [hX]; simpa using h)) (fun i h => h8_get (by rw [hY]; simpa using h)), bat_ext hX hY]
theorem run_eq24 {X Y : List Int} (hX : X.length = 32) (hY : Y.length = 32) (w : World) : (binOp .eql 25 (.agg (h8 X)) (.agg (h8 Y))).run Try.prog w = .ok (.bool (decide (X = Y))) w := by
  rw [run_eql_struct, run_eqIn24 hX hY]; rfl
theorem range_below {w w' : World} {B b o : Nat} {cs : List Value} (h : w.rangeAt b o cs) (hb : Below B w w') (hlt : b < B) : w'.rangeAt b o cs := fun j v hv => (hb.cell (p := ⟨b, o + j, none⟩) hlt).trans (h j v hv)
theorem Arr.range {w : World} {g ty : Nat} {X : List Int} (h : Arr w g ty (h8 X)) : w.rangeAt g 0 (by8 X) := fun j v hv => by
  rw [Nat.zero_add, h.cell]; simpa [h8] using hv
/-- A slice of sums. -/
structure HS (N : Nat) (w : World) (sp : Option Addr) (n cap : Nat) (ls : List (List Int)) : Prop where
  len : Hid (n = ls.length)
  nil : sp = none → n = 0 ∧ cap = 0
  le : n ≤ cap
  big : cap ≤ 9223372036854775807
  small : n ≤ 140737488355328
  at0 : 0 < n → ∃ g off, sp = some ⟨g, off, none⟩ ∧ g < N ∧ ∀ i X, ls[i]? = some X → w.rangeAt g (off + i * 32) (by8 X)
  l32 : ∀ X ∈ ls, X.length = 32
theorem HS.mono {N N' : Nat} {w : World} {sp : Option Addr} {n cap : Nat} {ls : List (List Int)} (h : HS N w sp n cap ls) (hN : N ≤ N') : HS N' w sp n cap ls :=
  ⟨h.len, h.nil, h.le, h.big, h.small, fun h0 => let ⟨b, off, e, hb, hB⟩ := h.at0 h0; ⟨b, off, e, by omega, hB⟩, h.l32⟩
theorem HS.below {N : Nat} {w w' : World} {sp : Option Addr} {n cap : Nat} {ls : List (List Int)} (h : HS N w sp n cap ls) (hb : Below N w w') : HS N w' sp n cap ls :=
  ⟨h.len, h.nil, h.le, h.big, h.small, fun h0 => let ⟨b, off, e, hbN, hB⟩ := h.at0 h0; ⟨b, off, e, hbN, fun i X hX => range_below (hB i X hX) hb hbN⟩, h.l32⟩
theorem HS.here {N : Nat} {w : World} {sp : Option Addr} {n cap : Nat} {ls : List (List Int)} (h : HS N w sp n cap ls) : HS w.heap.size w sp n cap ls :=
  ⟨h.len, h.nil, h.le, h.big, h.small, fun h0 => by
    obtain ⟨b, off, e, hbN, hB⟩ := h.at0 h0
    refine ⟨b, off, e, ?_, hB⟩
    have hl : 0 < ls.length := by rw [← h.len.out]; exact h0
    have hX := hB 0 ls[0] (List.getElem?_eq_getElem hl)
    have h32 := h.l32 ls[0] (List.getElem_mem hl)
    exact block_lt_of_cell (hX 0 _ (by8_get (by omega))), h.l32⟩
theorem HS.nil0 (N : Nat) (w : World) : HS N w none 0 0 [] := ⟨rfl, fun _ => ⟨rfl, rfl⟩, Nat.le_refl _, by omega, by omega, fun h => absurd h (by omega), fun X h => by cases h⟩
/-- A sum out of memory. -/
theorem ld24 {ops : Array Oper} {rest : List Oper} {o : Oper} {a : Act} {w : World} {Q : Exit → Act → World → Prop} (hgd : o.guard = none) (x : Operand) (ho : o.op = .load 25 x)
    (b off : Nat) (hx : a.eval x = .pointer (some ⟨b, off, none⟩)) (X : List Int) (hX : X.length = 32) (hc : w.rangeAt b off (by8 X))
    (h : wpList Try.prog ops Q rest (a.put o.dst (.agg (h8 X))) w) : wpList Try.prog ops Q (o :: rest) a w :=
  wpList_load_mid hgd 25 x ho b off hx (by8 X) _ hc Try.underlying25 rfl (by rw [by8_len, hX]; exact size24) h
/-- A sum into a block of its own. -/
theorem st24 {ops : Array Oper} {rest : List Oper} {o : Oper} {a : Act} {w : World} {Q : Exit → Act → World → Prop} (hgd : o.guard = none) (x y : Operand) (ho : o.op = .store 25 x y)
    (g : Nat) (X Y : List Int) (hx : a.eval x = .pointer (some ⟨g, 0, none⟩)) (hy : a.eval y = .agg (h8 X)) (hX : X.length = 32) (hY : Y.length = 32) (hg : Arr w g 25 (h8 Y))
    (h : wpList Try.prog ops Q rest (a.put o.dst undef) (w.setRow g (h8 X))) : wpList Try.prog ops Q (o :: rest) a w :=
  wpList_store_arr hgd 25 x y ho g (h8 X) hx hy 25 _ hg (s24h8 hX) (by rw [h8_size, h8_size, hX, hY]) (h8_one X) h
/-- .. into the newest block. -/
theorem st24n {ops : Array Oper} {rest : List Oper} {o : Oper} {a : Act} {Q : Exit → Act → World → Prop} (hgd : o.guard = none) (x y : Operand) (ho : o.op = .store 25 x y) (W : World) (g : Nat) (hgW : W.heap.size = g) {z : Array Value} (hz : z.size = 32)
    (X : List Int) (hx : a.eval x = .pointer (some ⟨g, 0, none⟩)) (hy : a.eval y = .agg (h8 X)) (hX : X.length = 32)
    (h : wpList Try.prog ops Q rest (a.put o.dst undef) (W.alloc (.cells (h8 X) 25))) : wpList Try.prog ops Q (o :: rest) a (W.alloc (.cells z 25)) := by
  subst hgW
  exact wpList_store_new W z 25 hgd 25 x y ho (h8 X) hx hy (s24h8 hX) (by rw [hz, h8_size, hX]) (h8_one X) h
/-- What is returned out of a block. -/
theorem res24 {f : Func} {w : World} {tmps : Array Value} {g t : Nat} {X : List Int} (hf : f.results = #[.cell t 25]) (hp : tmps.getD t undef = .pointer (some ⟨g, 0, none⟩)) (hX : X.length = 32) (hA : Arr w g 25 (h8 X)) :
    (results f tmps).run Try.prog w = .ok (.agg (h8 X)) w := results_cell_row hf _ _ g 25 _ (0, 0) _ hp hA Try.underlying25 rfl (s24h8 hX)
theorem own_same {w w' : World} {base n e s : Nat} {v : Value} {xs : List Value} (h : w.ownsRow base e s v n xs) (hk : ∀ k, v.ownBlock = some k → w'.heap[k]? = w.heap[k]?) : w'.ownsRow base e s v n xs := by
  refine ⟨h.1, ?_⟩
  rcases h.2 with hn | ⟨g, cap, cur, rfl, hb0, hgg, rest⟩
  · exact .inl hn
  · exact .inr ⟨g, cap, cur, rfl, hb0, by rw [hk g rfl]; exact hgg, rest⟩
/-- All are bytes. -/
def Bts (L : List Int) : Prop := ∀ x ∈ L, 0 ≤ x ∧ x ≤ 255
theorem Bts.nil : Bts [] := by simp [Bts]
theorem Bts.app {L M : List Int} (h : Bts L) (h' : Bts M) : Bts (L ++ M) := by
  intro x hx; rcases List.mem_append.1 hx with h1 | h1
  · exact h x h1
  · exact h' x h1
theorem Bts.one {L : List Int} (h : Bts L) : Bts (1 :: L) := by
  intro x hx; rcases List.mem_cons.1 hx with rfl | h1
  · omega
  · exact h x h1
theorem Bytes.belowB {w w' : World} {b off n B : Nat} {f : Nat → Int} (h : Bytes w b off n f) (hb : Below B w w') (hlt : b < B) : Bytes w' b off n f := fun t ht => (hb.cell (p := ⟨b, off + t, none⟩) hlt).trans (h t ht)
/-- A slice of bytes in blocks below N. -/
structure BS (N : Nat) (w : World) (sp : Option Addr) (n cap : Nat) (L : List Int) : Prop where
  len : Hid (n = L.length)
  nil : sp = none → n = 0 ∧ cap = 0
  le : n ≤ cap
  big : cap ≤ 9223372036854775807
  small : n ≤ 140737488355000
  at0 : 0 < n → ∃ b off, sp = some ⟨b, off, none⟩ ∧ b < N ∧ Bytes w b off n (bat L)
  bts : Bts L
theorem BS.mono {N N' : Nat} {w : World} {sp : Option Addr} {n cap : Nat} {L : List Int} (h : BS N w sp n cap L) (hN : N ≤ N') : BS N' w sp n cap L :=
  ⟨h.len, h.nil, h.le, h.big, h.small, fun h0 => let ⟨b, off, e, hb, hB⟩ := h.at0 h0; ⟨b, off, e, by omega, hB⟩, h.bts⟩
theorem BS.below {N : Nat} {w w' : World} {sp : Option Addr} {n cap : Nat} {L : List Int} (h : BS N w sp n cap L) (hb : Below N w w') : BS N w' sp n cap L :=
  ⟨h.len, h.nil, h.le, h.big, h.small, fun h0 => let ⟨b, off, e, hbN, hB⟩ := h.at0 h0; ⟨b, off, e, hbN, hB.belowB hb hbN⟩, h.bts⟩
theorem BS.here {N : Nat} {w : World} {sp : Option Addr} {n cap : Nat} {L : List Int} (h : BS N w sp n cap L) : BS w.heap.size w sp n cap L :=
  ⟨h.len, h.nil, h.le, h.big, h.small, fun h0 => let ⟨b, off, e, hbN, hB⟩ := h.at0 h0; ⟨b, off, e, block_lt_of_cell (hB 0 h0), hB⟩, h.bts⟩
theorem BS.sl {N : Nat} {w : World} {sp : Option Addr} {n cap : Nat} {L : List Int} (h : BS N w sp n cap L) : SlL w sp L := fun h0 => by
  have e := h.len.out
  obtain ⟨b, off, e1, -, hB⟩ := h.at0 (by omega)
  exact ⟨b, off, e1, by rw [← e]; exact hB⟩
theorem BS.nil0 (N : Nat) (w : World) : BS N w none 0 0 [] := ⟨rfl, fun _ => ⟨rfl, rfl⟩, Nat.le_refl _, by omega, by omega, fun h => absurd h (by omega), Bts.nil⟩
/-- .. where no block of it is turned. -/
theorem BS.grown {N : Nat} {w w' : World} {sp : Option Addr} {n cap g : Nat} {L : List Int} (h : BS N w sp n cap L) (hg : w.grownBy w' (some g)) (hne : ∀ b off, sp = some ⟨b, off, none⟩ → b ≠ g) : BS N w' sp n cap L :=
  ⟨h.len, h.nil, h.le, h.big, h.small, fun h0 => by
    obtain ⟨b, off, e, hbN, hB⟩ := h.at0 h0
    refine ⟨b, off, e, hbN, fun t ht => ?_⟩
    rw [World.cell?_of_block (w := w) (a := ⟨b, off + t, none⟩) (hg.block b (block_lt_of_cell (hB t ht)) (fun e' => hne b off e (Option.some.inj e')))]
    exact hB t ht, h.bts⟩
/-- What an own slice looks like. -/
theorem own_bs {w : World} {base n : Nat} {v : Value} {L : List Int} (h : w.ownsRow base 5 1 v n (by8 L)) (hL : Bts L) (hs : n ≤ 140737488355000) :
    ∃ sp cap, v = .slice sp n cap ∧ BS w.heap.size w sp n cap L ∧ (∀ g off, sp = some ⟨g, off, none⟩ → base ≤ g ∧ off = 0) := by
  obtain ⟨hl, h | ⟨g, cap, cur, rfl, hg, hh, hn, hm, hc, ht⟩⟩ := h
  · obtain ⟨rfl, rfl⟩ := h
    rw [by8_len] at hl
    refine ⟨none, 0, rfl, ⟨show _ = _ by omega, fun _ => ⟨rfl, rfl⟩, by omega, by omega, by omega, fun h0 => by omega, hL⟩, fun g off e => by cases e⟩
  · rw [by8_len, Nat.mul_one] at hl
    refine ⟨_, cap, rfl, ⟨show _ = _ by omega, (fun e => by cases e), hn, by unfold maxLen at hm; omega, hs, fun h0 => ⟨g, 0, rfl, (Array.getElem?_eq_some_iff.1 hh).1, fun t htl => ?_⟩, hL⟩, fun g' off e => by cases e; exact ⟨hg, rfl⟩⟩
    rw [Nat.zero_add, cell_of_row w g t cur 5 (0, 0) hh, ← Array.getElem?_toList, ← List.getElem?_take_of_lt (show t < n * 1 by omega), ht, by8_get (by omega)]
theorem str_inj {L M : List Int} (hL : Bts L) (hM : Bts M) (h : (strOfNums L).toList = (strOfNums M).toList) : L = M := by
  have h1 : (L.map fun n => UInt8.ofNat n.toNat) = M.map fun n => UInt8.ofNat n.toNat := by
    rw [← strOfNums_data, ← strOfNums_data, ← ByteArray.toList_eq, ← ByteArray.toList_eq, h]
  have hl : L.length = M.length := by simpa using congrArg List.length h1
  refine List.ext_getElem hl fun i h2 h3 => ?_
  have h4 : (L.map fun n => UInt8.ofNat n.toNat)[i]? = (M.map fun n => UInt8.ofNat n.toNat)[i]? := by rw [h1]
  rw [List.getElem?_map, List.getElem?_map, List.getElem?_eq_getElem h2, List.getElem?_eq_getElem h3] at h4
  simp only [Option.map_some, Option.some.injEq] at h4
  have a := hL _ (List.getElem_mem h2)
  have b := hM _ (List.getElem_mem h3)
  have h5 := congrArg UInt8.toNat h4
  simp only [UInt8.toNat_ofNat'] at h5
  omega
theorem str_eq {L M : List Int} (hL : Bts L) (hM : Bts M) : ((strOfNums L).toList == (strOfNums M).toList) = decide (L = M) := by
  by_cases h : L = M
  · subst h; simp
  · rw [decide_eq_false h]
    exact beq_eq_false_iff_ne.2 fun e => h (str_inj hL hM e)
set_option maxRecDepth 100000 in
set_option maxHeartbeats 400000 in
theorem same01_any (sp sp' : Option Addr) (n n' cap cap' : Nat) (L M : List Int) (N N' : Nat) (w : World) (hS : BS N w sp n cap L) (hS' : BS N' w sp' n' cap' M) :
    Calls Try.prog 10 #[.slice sp n cap, .slice sp' n' cap'] w fun e w' => e = .returned (.bool (decide (L = M))) ∧ w' = w := by
  have c1 := conv_bytes sp n cap L w hS.len.out hS.nil hS.sl
  have c2 := conv_bytes sp' n' cap' M w hS'.len.out hS'.nil hS'.sl
  have E := Hid.mk' (str_eq hS.bts hS'.bts)
  go_enter Try.func10, Try.ntmps10
  go_wp2
  go_ret
  exact ⟨by rw [← E.out]; rfl, rfl⟩
theorem own_lt {w : World} {base e s n b : Nat} {v : Value} {xs : List Value} (h : w.ownsRow base e s v n xs) (hb : v.ownBlock = some b) : b < w.heap.size := by
  rcases h.2 with ⟨rfl, -⟩ | ⟨g, cap, cur, rfl, -, hgg, -⟩
  · simp [Value.ownBlock] at hb
  · simp [Value.ownBlock] at hb; subst hb; exact (Array.getElem?_eq_some_iff.1 hgg).1
/-- A number in eight bytes. -/
def e8 (n : Int) : List Int := (List.range 8).map fun j => n / 2 ^ (56 - 8 * j) % 256
theorem e8_len (n : Int) : (e8 n).length = 8 := by simp [e8]
theorem e8_bts (n : Int) : Bts (e8 n) := by
  intro x hx
  simp only [e8, List.mem_map] at hx
  obtain ⟨j, -, rfl⟩ := hx
  omega
theorem Bts.zero {L : List Int} (h : Bts L) : Bts (0 :: L) := by
  intro x hx; rcases List.mem_cons.1 hx with rfl | h1
  · omega
  · exact h x h1
theorem Z32_bts : Bts Z32 := by
  intro x hx; simp only [Z32, List.mem_replicate] at hx; omega
theorem own_mono {w : World} {base base' e s n : Nat} {v : Value} {xs : List Value} (h : w.ownsRow base e s v n xs) (hb : base' ≤ base) : w.ownsRow base' e s v n xs :=
  ⟨h.1, h.2.imp id (fun ⟨g, cap, cur, q, hg, r⟩ => ⟨g, cap, cur, q, Nat.le_trans hb hg, r⟩)⟩
theorem e8_take {n : Int} {j : Nat} (hj : j < 8) : (e8 n).take (j + 1) = (e8 n).take j ++ [n / 2 ^ (56 - 8 * j) % 256] := by
  rw [List.take_add_one]
  congr 1
  simp [e8, hj]
theorem range_sl {w : World} {g o : Nat} {L : List Int} (h : w.rangeAt g o (by8 L)) : SlL w (some ⟨g, o, none⟩) L := fun _ => ⟨g, o, rfl, fun t ht => h t _ (by8_get ht)⟩
theorem s24u8 (f : Nat → Int) : (Try.prog.info? 25).map (·.size) = some (u8s 32 f).size := by rw [u8s_size]; exact size24
theorem u8s_one (n : Nat) (f : Nat → Int) : (u8s n f).all (·.oneCell') = true := one_ints (u8s_size n f) (fun _ h => u8s_get h)
set_option maxHeartbeats 1000000 in
theorem eight_any (n : Int) (w : World) :
    Calls Try.prog 17 #[.int .u64 n] w fun e w' => ∃ v', e = .returned v' ∧ w'.ownsRow w.heap.size 5 1 v' 8 (by8 (e8 n)) ∧ Below w.heap.size w w' := by
  go_enter Try.func17, Try.ntmps17
  go_wp2_with fail
  go_loopw [3, 4] (fun u q wr => ∃ j : Nat, q = .int .i64 (7 - (j : Int)) ∧ j ≤ 8 ∧ wr.ownsRow w.heap.size 5 1 u j (by8 ((e8 n).take j)) ∧ Below w.heap.size w wr) (fun _ q _ => (intOf q + 1).toNat)
  case atStart => exact ⟨0, rfl, by omega, World.ownsRow_nil _ _ _ _, Below.refl _ _⟩
  case round =>
    obtain ⟨j, rfl, hj, hou, hbl⟩ := hrel
    have hsz := hbl.size
    by_cases hlt : j < 8
    · obtain ⟨i, hi⟩ : ∃ i, i = 7 - j := ⟨_, rfl⟩
      rw [show (7 - (j : Int)) = (i : Int) by omega]
      have hs0 : (0 : Int) ≤ (i : Int) := by omega
      have hs1 : (i : Int) ≤ 7 := by omega
      have hw1 : IntKind.i64.wrap (8 * (i : Int)) = 8 * i := by rw [IntKind.wrap_i64]; omega
      have hw2 : (8 * (i : Int)) % 18446744073709551616 = 8 * i := by omega
      have hw3 : (8 * (i : Int)).toNat = 8 * i := by omega
      have het : Hid ((e8 n).take (j + 1) = (e8 n).take j ++ [n / 2 ^ (8 * i) % 256]) := Hid.mk' (by rw [e8_take hlt, show 56 - 8 * j = 8 * i by omega])
      have hij : Hid ((i : Int) - 1 = 7 - ((j + 1 : Nat) : Int)) := Hid.mk' (by omega)
      clear hi
      go_wp2_with (at_builtin; go_must (refine append_bytes (by rfl) (.tmp 9) (.tmp 16) (by rfl) w.heap.size _ j ((e8 n).take j) (by rfl) (hou.alloc _) (some ⟨wr.heap.size, 0, none⟩) 1 1 [n / 2 ^ (8 * i) % 256] (by rfl) (by rfl) (fun h => by cases h) (Arr.sl (Arr.new wr 5 _)) (by omega) (by simp; omega) ?_; intro v2 w2 hown2 hg2; have hB2 := (hbl.alloc hsz _).grown hg2 (by simp; omega) (fun k e => own_ge hou k e)))
      go_roundw
      case rel => exact ⟨j + 1, congrArg (Value.int .i64) hij.out, by omega, by rw [het.out]; exact hown2, hB2⟩
      case measure => first | (simp [intOf]; omega) | simp [intOf]
    · obtain rfl : j = 8 := by omega
      have e8' : Hid ((e8 n).take 8 = e8 n) := Hid.mk' (List.take_of_length_le (by rw [e8_len]; exact Nat.le_refl _))
      go_wp2_with fail
      go_ret
      exact ⟨_, rfl, by rw [← e8'.out]; exact hou, hbl⟩
theorem run_sz {t n : Nat} (h : (Try.prog.info? t).map (·.size) = some n) (w : World) : (sizeOf t).run Try.prog w = .ok n w := by
  cases hq : Try.prog.info? t with
  | none => rw [hq] at h; cases h
  | some i =>
    rw [hq] at h
    have hz : i.size = n := by simpa using h
    simp [sizeOf, typeInfo, hq, hz]
theorem isAgg24' (w : World) : (isAgg 25).run Try.prog w = .ok true w := by
  unfold isAgg
  rw [Sem.run_bind, run_underlying Try.underlying25 w]
  rfl
theorem isAgg22' (w : World) : (isAgg 23).run Try.prog w = .ok false w := by
  unfold isAgg
  rw [Sem.run_bind, run_underlying Try.underlying23 w]
  rfl
theorem part22 {C : Array Value} {k : Nat} {v : Value} (h : C[k]? = some v) (w : World) : (part 23 C k).run Try.prog w = .ok v w := by
  simp only [part, Sem.run_bind, isAgg22', Result.andThen_ok, h]
  rfl
/-- The fields, one after the other. -/
theorem run_eqInD24 {X Y : List Int} (d : Nat) (hX : X.length = 32) (hY : Y.length = 32) (w : World) : (Op.equalIn (d + 3) 25 (.agg (h8 X)) (.agg (h8 Y))).run Try.prog w = .ok (decide (X = Y)) w := by
  obtain ⟨i0, hi, -⟩ := info_parts info5
  have hc : Try.prog.cellsOf 5 = 1 := by kernel_rfl
  rw [run_equalIn_array w (d + 2) _ _ Try.underlying25 hi, hc, eqItems_two w (d + 1) _ _ (bat X) (bat Y) (List.range 32) (fun i h => h8_get (by rw [hX]; simpa using h)) (fun i h => h8_get (by rw [hY]; simpa using h)), bat_ext hX hY]
theorem eqf_step {d : Nat} {xs ys : Array Value} {f : Field} {fs : List Field} {u v : Value} {r s : Bool} {w : World} (hn : ¬ f.name = "_") (h1 : (part f.type xs f.offset).run Try.prog w = .ok u w) (h2 : (part f.type ys f.offset).run Try.prog w = .ok v w) (h3 : (Op.equalIn d f.type u v).run Try.prog w = .ok r w)
    (h4 : (Op.eqFields d xs ys fs).run Try.prog w = .ok s w) : (Op.eqFields d xs ys (f :: fs)).run Try.prog w = .ok (r && s) w := by
  simp only [Op.eqFields, hn, ne_eq, not_false_eq_true, if_true, Sem.run_bind, h1, h2, h3, Result.andThen_ok]
  cases r
  · simp
  · simpa using h4
theorem eqf_nil {d : Nat} {xs ys : Array Value} {w : World} : (Op.eqFields d xs ys []).run Try.prog w = .ok true w := by simp [Op.eqFields]
/-- Nothing in it is greater than the reach. -/
def Small {H : Type} (t : TypeId) (d : DataW H) : Prop := ∀ n ∈ d.weights Try.prog t, n ≤ reachBytes
/-- Word j of a sum, of its first m bytes. -/
def wacc (H : Nat → Int) (j : Nat) : Nat → Int
  | 0 => 0
  | m + 1 => wacc H j m * 256 + H (8 * j + m)
/-- .. behind k bytes in all. -/
def wpart (H : Nat → Int) (k j : Nat) : Int := wacc H j (min (k - 8 * j) 8)
def u64s (n : Nat) (f : Nat → Int) : Array Value := arr n fun t => .int .u64 (f t)
theorem u64s_size (n : Nat) (f : Nat → Int) : (u64s n f).size = n := arr_size _ _
theorem u64s_get {n : Nat} {f : Nat → Int} {t : Nat} (h : t < n) : (u64s n f)[t]? = some (.int .u64 (f t)) := arr_get h
theorem u64s_one (n : Nat) (f : Nat → Int) : (u64s n f).all (·.oneCell') = true := one_ints (u64s_size n f) (fun _ h => u64s_get h)
theorem size30 : (Try.prog.info? 54).map (·.size) = some 4 := by kernel_rfl
theorem s30u (f : Nat → Int) : (Try.prog.info? 54).map (·.size) = some (u64s 4 f).size := by rw [u64s_size]; exact size30
def wordsOf (H : Nat → Int) : Array Value := u64s 4 fun j => wacc H j 8
theorem wacc_range {H : Nat → Int} (hH : ∀ t, t < 32 → 0 ≤ H t ∧ H t ≤ 255) {j : Nat} (hj : j < 4) : ∀ m, m ≤ 8 → 0 ≤ wacc H j m ∧ wacc H j m < 256 ^ m
  | 0, _ => by simp [wacc]
  | m + 1, h => by
    have ih := wacc_range hH hj m (by omega)
    have hb := hH (8 * j + m) (by omega)
    have e : (256 : Int) ^ (m + 1) = 256 ^ m * 256 := by rw [Int.pow_succ]
    simp only [wacc, e]; omega
theorem or8 (x b : Int) (hx : 0 ≤ x) (hx2 : x < 72057594037927936) (hb : 0 ≤ b) (hb2 : b ≤ 255) : bits .or .u64 (x * 256) b = x * 256 + b := by
  obtain ⟨k, rfl⟩ : ∃ k : Nat, x = k := ⟨x.toNat, by omega⟩
  obtain ⟨j, rfl⟩ : ∃ j : Nat, b = j := ⟨b.toNat, by omega⟩
  have h1 : (BitVec.ofInt 64 ((k : Int) * 256)).toNat = k * 256 := by
    rw [show ((k : Int) * 256) = ((k * 256 : Nat) : Int) by omega, BitVec.ofInt_natCast, BitVec.toNat_ofNat]; omega
  have h2 : (BitVec.ofInt 64 (j : Int)).toNat = j := by
    rw [BitVec.ofInt_natCast, BitVec.toNat_ofNat]; omega
  have h3 : k * 256 ||| j = k * 256 + j := by
    have := Nat.two_pow_add_eq_or_of_lt (i := 8) (b := j) (by omega) k
    rw [Nat.mul_comm] at this; exact this.symm
  show IntKind.u64.wrap ((BitVec.ofInt 64 ((k : Int) * 256) ||| BitVec.ofInt 64 (j : Int)).toNat : Int) = _
  rw [BitVec.toNat_or, h1, h2, h3]
  simp only [IntKind.wrap, IntKind.bits, IntKind.signed]
  simp; omega
theorem wrap64_of {x : Int} (h : 0 ≤ x) (h2 : x < 18446744073709551616) : IntKind.u64.wrap x = x := by
  simp only [IntKind.wrap, IntKind.bits, IntKind.signed]; simp; omega
theorem words_val {H : Nat → Int} (hH : ∀ t, t < 32 → 0 ≤ H t ∧ H t ≤ 255) {k : Nat} (hk : k < 32) :
    bits .or .u64 (IntKind.u64.wrap (wpart H k (k / 8) * 256)) (IntKind.u64.wrap (H k)) = wpart H (k + 1) (k / 8) := by
  have e1 : wpart H k (k / 8) = wacc H (k / 8) (k % 8) := by unfold wpart; congr 1; omega
  have e2 : wpart H (k + 1) (k / 8) = wacc H (k / 8) (k % 8 + 1) := by unfold wpart; congr 1; omega
  have e3 : 8 * (k / 8) + k % 8 = k := by omega
  have hr := wacc_range hH (show k / 8 < 4 by omega) (k % 8) (by omega)
  have hp : (256 : Int) ^ (k % 8) ≤ 72057594037927936 := by
    have : k % 8 < 8 := Nat.mod_lt _ (by omega)
    generalize k % 8 = m at this
    match m, this with
    | 0, _ => decide
    | 1, _ => decide
    | 2, _ => decide
    | 3, _ => decide
    | 4, _ => decide
    | 5, _ => decide
    | 6, _ => decide
    | 7, _ => decide
  have hb := hH k hk
  rw [e1, e2, wacc, e3, wrap64_of (by omega) (by omega), wrap64_of (by omega) (by omega), or8 _ _ (by omega) (by omega) hb.1 hb.2]
theorem words_other {H : Nat → Int} {k j : Nat} (h : j ≠ k / 8) : wpart H (k + 1) j = wpart H k j := by
  unfold wpart; congr 1; omega
theorem words_step {C : Array Value} {H : Nat → Int} {k : Nat} (hH : ∀ t, t < 32 → 0 ≤ H t ∧ H t ≤ 255) (hk : k < 32) (hs : C.size = 4) (h : ∀ j, j < 4 → C[j]? = some (.int .u64 (wpart H k j))) (v : Value) :
    ∀ j, j < 4 → ((C.setIfInBounds (k / 8) v).setIfInBounds (k / 8) (.int .u64 (bits .or .u64 (IntKind.u64.wrap (wpart H k (k / 8) * 256)) (IntKind.u64.wrap (H k)))))[j]? = some (.int .u64 (wpart H (k + 1) j)) := by
  intro j hj
  rw [words_val hH hk, Array.getElem?_setIfInBounds]
  by_cases e : k / 8 = j
  · subst e; simp [hs, hj]
  · rw [if_neg e, Array.getElem?_setIfInBounds, if_neg e, h j hj, words_other (Ne.symm e)]
set_option maxHeartbeats 1000000 in
theorem words_any (C0 : Array Value) (H : Nat → Int) (w : World) (hs : C0.size = 32) (hC0 : ∀ t, t < 32 → C0[t]? = some (.int .u8 (H t))) (hH : ∀ t, t < 32 → 0 ≤ H t ∧ H t ≤ 255) :
    Calls Try.prog 22 #[.agg C0] w fun e w' => e = .returned (.agg (wordsOf H)) ∧ Below w.heap.size w w' := by
  have s24 : (Try.prog.info? 25).map (·.size) = some C0.size := by rw [hs]; exact size24
  have hA0 : ∀ o1 o2, Arr (((w.alloc (.cells C0 25)).alloc o1).alloc o2) w.heap.size 25 C0 := fun o1 o2 => ((Arr.new w 25 C0).alloc o1).alloc o2
  go_enter Try.func22, Try.ntmps22
  go_wp2_with (refine wpList_load_row (by rfl) 25 (.tmp 1) (by rfl) w.heap.size (by rfl) 25 C0 (0, 0) _ (hA0 _ _) Try.underlying25 rfl s24 ?_)
  go_loopw [7] (fun i wr => ∃ (k : Nat) (C Z : Array Value), k ≤ 32 ∧ i = .int .i64 k ∧ Arr wr (w.heap.size + 1) 54 Z ∧ Z.size = 4 ∧ Arr wr (w.heap.size + 1 + 1) 54 C ∧ C.size = 4 ∧ (∀ j, j < 4 → C[j]? = some (.int .u64 (wpart H k j))) ∧ Below w.heap.size w wr)
    (fun i _ => 32 - (intOf i).toNat)
  case atStart => exact ⟨0, _, _, by omega, rfl, by simpa using (Arr.new (w.alloc _) 54 _).alloc _, rfl, by simpa using Arr.new ((w.alloc _).alloc _) 54 _, rfl, fun j hj => by (match j, hj with | 0, _ => rfl | 1, _ => rfl | 2, _ => rfl | 3, _ => rfl), (((Below.refl _ _).alloc (by simp) _).alloc (by simp) _).alloc (by simp; omega) _⟩
  case round =>
    clear hA0
    obtain ⟨k, C, Z, hk, rfl, hZ, hZs, hC, hCs, hw, hbl⟩ := hrel
    have HW := Hid.mk' hw
    clear hw
    by_cases hlt : k < 32
    · have h3 : (k : Int) < 32 := by omega
      have h4 : (0 : Int) ≤ k := by omega
      have hix := index24 C0 H hC0 k hlt
      have c0 : wr.cell? ⟨w.heap.size + 1 + 1, k / 8, none⟩ = some (.int .u64 (wpart H k (k / 8))) := (hC.cell _).trans (HW.out _ (by omega))
      have f0 := hC.frozen (k / 8)
      go_wp2
      go_roundw
      case rel =>
        exact ⟨k + 1, _, Z, by omega, by go_num, (hZ.setOther _ (by simp)).setOther _ (by simp), hZs, (hC.set _ _).set _ _, by simp [hCs], words_step hH hlt hCs HW.out _, (hbl.setCell (by simp; omega) _).setCell (by simp; omega) _⟩
      case measure => simp [intOf]; omega
    · obtain rfl : k = 32 := by omega
      have hCe : C = wordsOf H := arr_eq hCs (fun j hj => by rw [HW.out j hj]; unfold wpart; rw [show min (32 - 8 * j) 8 = 8 by omega])
      subst hCe
      go_wp2_with (first
        | (refine wpList_load_row (by rfl) 54 (.tmp 3) (by rfl) (w.heap.size + 1 + 1) (by rfl) 54 (wordsOf H) (0, 0) _ hC Try.underlying54 rfl (s30u _) ?_)
        | (refine wpList_store_arr (by rfl) 54 (.tmp 2) (.tmp 26) (by rfl) (w.heap.size + 1) (wordsOf H) (by rfl) (by rfl) 54 _ hZ (s30u _) (by rw [hZs]; exact (u64s_size _ _).symm) (u64s_one _ _) ?_))
      exact bodyPost_ret (v := .agg (wordsOf H)) (results_cell_row Try.results22 _ _ (w.heap.size + 1) 54 _ (0, 0) _ rfl (hZ.setRow _) Try.underlying54 rfl (s30u _)) rfl ⟨rfl, below_setRow hbl (by omega) _⟩
/-- Byte t of the sum of four words. -/
def fromB (W : Nat → Int) (t : Nat) : Int := W (t / 8) / 2 ^ (56 - 8 * (t % 8)) % 256
set_option maxHeartbeats 1000000 in
theorem from_any (C0 : Array Value) (W : Nat → Int) (w : World) (hC0 : ∀ t, t < 4 → C0[t]? = some (.int .u64 (W t))) :
    Calls Try.prog 23 #[.agg C0] w fun e w' => e = .returned (.agg (u8s 32 (fromB W))) ∧ Below w.heap.size w w' := by
  go_enter Try.func23, Try.ntmps23
  go_wp2
  go_loopw [5] (fun i wr => ∃ (k : Nat) (C Z : Array Value), k ≤ 32 ∧ i = .int .i64 k ∧ Arr wr w.heap.size 54 C0 ∧ Arr wr (w.heap.size + 1) 25 Z ∧ Z.size = 32 ∧ Arr wr (w.heap.size + 1 + 1) 25 C ∧ C.size = 32 ∧ (∀ t, t < k → C[t]? = some (.int .u8 (fromB W t))) ∧ Below w.heap.size w wr)
    (fun i _ => 32 - (intOf i).toNat)
  case atStart => exact ⟨0, _, _, by omega, rfl, ((Arr.new w 54 C0).alloc _).alloc _, by simpa using (Arr.new (w.alloc _) 25 _).alloc _, rfl, by simpa using Arr.new ((w.alloc _).alloc _) 25 _, rfl, fun j hj => by omega, (((Below.refl _ _).alloc (by simp) _).alloc (by simp) _).alloc (by simp; omega) _⟩
  case round =>
    obtain ⟨k, C, Z, hk, rfl, hX, hZ, hZs, hC, hCs, hw, hbl⟩ := hrel
    have HW := Hid.mk' hw
    clear hw
    by_cases hlt : k < 32
    · have h3 : (k : Int) < 32 := by omega
      have h4 : (0 : Int) ≤ k := by omega
      have c0 : wr.cell? ⟨w.heap.size, k / 8, none⟩ = some (.int .u64 (W (k / 8))) := (hX.cell _).trans (hC0 _ (by omega))
      obtain ⟨v1, c1⟩ := hC.got (j := k) (by omega)
      have f0 := hC.frozen k
      go_wp2
      go_roundw
      case rel =>
        have q := set_step (f := fun t => .int .u8 (fromB W t)) hCs (by omega) HW.out
        exact ⟨k + 1, _, Z, by omega, by go_num, hX.setOther _ (by simp; omega), hZ.setOther _ (by simp), hZs, hC.set _ _, by simp [hCs], q, hbl.setCell (by simp; omega) _⟩
      case measure => simp [intOf]; omega
    · obtain rfl : k = 32 := by omega
      have hCe : C = u8s 32 (fromB W) := arr_eq hCs HW.out
      subst hCe
      go_wp2_with (first
        | (refine wpList_load_row (by rfl) 25 (.tmp 3) (by rfl) (w.heap.size + 1 + 1) (by rfl) 25 (u8s 32 (fromB W)) (0, 0) _ hC Try.underlying25 rfl (s24u8 _) ?_)
        | (refine wpList_store_arr (by rfl) 25 (.tmp 2) (.tmp 21) (by rfl) (w.heap.size + 1) (u8s 32 (fromB W)) (by rfl) (by rfl) 25 _ hZ (s24u8 _) (by rw [hZs]; exact (u8s_size _ _).symm) (u8s_one _ _) ?_))
      exact bodyPost_ret (v := .agg (u8s 32 (fromB W))) (results_cell_row Try.results23 _ _ (w.heap.size + 1) 25 _ (0, 0) _ rfl (hZ.setRow _) Try.underlying25 rfl (s24u8 _)) rfl ⟨rfl, below_setRow hbl (by omega) _⟩
/-! There and back. -/
theorem from_words {H : Nat → Int} (hH : ∀ t, t < 32 → 0 ≤ H t ∧ H t ≤ 255) {t : Nat} (ht : t < 32) : fromB (fun j => wacc H j 8) t = H t := by
  unfold fromB
  have e : 8 * (t / 8) + t % 8 = t := by omega
  have hj : t / 8 < 4 := by omega
  have hr : t % 8 < 8 := Nat.mod_lt _ (by omega)
  have b0 := hH (8 * (t / 8) + 0) (by omega)
  have b1 := hH (8 * (t / 8) + 1) (by omega)
  have b2 := hH (8 * (t / 8) + 2) (by omega)
  have b3 := hH (8 * (t / 8) + 3) (by omega)
  have b4 := hH (8 * (t / 8) + 4) (by omega)
  have b5 := hH (8 * (t / 8) + 5) (by omega)
  have b6 := hH (8 * (t / 8) + 6) (by omega)
  have b7 := hH (8 * (t / 8) + 7) (by omega)
  conv => rhs; rw [← e]
  generalize t / 8 = j at *
  generalize t % 8 = r at *
  simp only [wacc]
  match r, hr with
  | 0, _ => omega
  | 1, _ => omega
  | 2, _ => omega
  | 3, _ => omega
  | 4, _ => omega
  | 5, _ => omega
  | 6, _ => omega
  | 7, _ => omega
theorem words_from_aux {W : Nat → Int} {j : Nat} (h0 : 0 ≤ W j) (h1 : W j < 18446744073709551616) : ∀ m, m ≤ 8 → wacc (fromB W) j m = W j / 2 ^ (64 - 8 * m)
  | 0, _ => by simp only [wacc]; omega
  | m + 1, h => by
    have ih := words_from_aux h0 h1 m (by omega)
    have e1 : (8 * j + m) / 8 = j := by omega
    have e2 : (8 * j + m) % 8 = m := by omega
    simp only [wacc, ih, fromB, e1, e2]
    have e3 : 64 - 8 * m = (56 - 8 * m) + 8 := by omega
    have e4 : 64 - 8 * (m + 1) = 56 - 8 * m := by omega
    rw [e3, e4, Int.pow_add, ← Int.ediv_ediv_of_nonneg (by exact Int.le_of_lt (Int.pow_pos (by omega)))]
    generalize W j / 2 ^ (56 - 8 * m) = y
    omega
theorem words_from {W : Nat → Int} {j : Nat} (h0 : 0 ≤ W j) (h1 : W j < 18446744073709551616) : wacc (fromB W) j 8 = W j := by
  rw [words_from_aux h0 h1 8 (by omega)]; simp
set_option maxHeartbeats 1000000 in
theorem refFrom_any (C0 : Array Value) (W : Nat → Int) (w : World) (hC0 : ∀ t, t < 4 → C0[t]? = some (.int .u64 (W t))) :
    Calls Try.prog 21 #[.agg C0] w fun e w' => e = .returned (.agg (u8s 32 (fromB W))) ∧ Below w.heap.size w w' := by
  go_enter Try.func21, Try.ntmps21
  go_wp2
  go_loopw [4] (fun i wr => ∃ (k : Nat) (C Z : Array Value), k ≤ 32 ∧ i = .int .i64 k ∧ Arr wr w.heap.size 54 C0 ∧ Arr wr (w.heap.size + 1) 25 Z ∧ Z.size = 32 ∧ Arr wr (w.heap.size + 1 + 1) 25 C ∧ C.size = 32 ∧ (∀ t, t < k → C[t]? = some (.int .u8 (fromB W t))) ∧ Below w.heap.size w wr)
    (fun i _ => 32 - (intOf i).toNat)
  case atStart => exact ⟨0, _, _, by omega, rfl, ((Arr.new w 54 C0).alloc _).alloc _, by simpa using (Arr.new (w.alloc _) 25 _).alloc _, rfl, by simpa using Arr.new ((w.alloc _).alloc _) 25 _, rfl, fun j hj => by omega, (((Below.refl _ _).alloc (by simp) _).alloc (by simp) _).alloc (by simp; omega) _⟩
  case round =>
    obtain ⟨k, C, Z, hk, rfl, hX, hZ, hZs, hC, hCs, hw, hbl⟩ := hrel
    have HW := Hid.mk' hw
    clear hw
    by_cases hlt : k < 32
    · have h3 : (k : Int) < 32 := by omega
      have h4 : (0 : Int) ≤ k := by omega
      have c0 : wr.cell? ⟨w.heap.size, k / 8, none⟩ = some (.int .u64 (W (k / 8))) := (hX.cell _).trans (hC0 _ (by omega))
      obtain ⟨v1, c1⟩ := hC.got (j := k) (by omega)
      have f0 := hC.frozen k
      go_wp2
      go_roundw
      case rel =>
        have q := set_step (f := fun t => .int .u8 (fromB W t)) hCs (by omega) HW.out
        exact ⟨k + 1, _, Z, by omega, by go_num, hX.setOther _ (by simp; omega), hZ.setOther _ (by simp), hZs, hC.set _ _, by simp [hCs], q, hbl.setCell (by simp; omega) _⟩
      case measure => simp [intOf]; omega
    · obtain rfl : k = 32 := by omega
      have hCe : C = u8s 32 (fromB W) := arr_eq hCs HW.out
      subst hCe
      go_wp2_with (first
        | (refine wpList_load_row (by rfl) 25 (.tmp 3) (by rfl) (w.heap.size + 1 + 1) (by rfl) 25 (u8s 32 (fromB W)) (0, 0) _ hC Try.underlying25 rfl (s24u8 _) ?_)
        | (refine wpList_store_arr (by rfl) 25 (.tmp 2) (.tmp 22) (by rfl) (w.heap.size + 1) (u8s 32 (fromB W)) (by rfl) (by rfl) 25 _ hZ (s24u8 _) (by rw [hZs]; exact (u8s_size _ _).symm) (u8s_one _ _) ?_))
      exact bodyPost_ret (v := .agg (u8s 32 (fromB W))) (results_cell_row Try.results21 _ _ (w.heap.size + 1) 25 _ (0, 0) _ rfl (hZ.setRow _) Try.underlying25 rfl (s24u8 _)) rfl ⟨rfl, below_setRow hbl (by omega) _⟩
end Go.Proofs.Ytoanfiikeeacdaa
