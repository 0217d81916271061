/- Layer rlp, tools: rows of memory, slices of bytes, append onto a slice of the call's own. -/
import Derived.Test.YtbjlmekafnpllabRa
import Derived.WalkSpells
import Derived.WalkLawsBesides
import Derived.Deep.QuietTactic
import Derived.BigQuiet
import Derived.Deep.WholeRow
import Derived.Laws.CopyOwn
import Derived.Laws.AppendOwnNone
import Derived.Defers
import Derived.Recover
import Derived.Carry
import Derived.Deep.MidRow
import Derived.Lib.SlBytesConst
namespace Go.Proofs.Ytbjlmekafnpllab
open Go.RowKit
set_option linter.unusedVariables false
set_option linter.unusedSimpArgs false

theorem Hid.mk' {p : Prop} (h : p) : Hid p := h
/-- Block g holds the cells C, and may be written. -/
def Arr (w : World) (g : Nat) (ty : TypeId) (C : Array Value) : Prop := w.heap[g]? = some (.cells C ty (0, 0))
theorem Arr.cell {w : World} {g ty : Nat} {C : Array Value} (h : Arr w g ty C) (j : Nat) : w.cell? ⟨g, j, none⟩ = C[j]? := by
  unfold Arr at h; simp [World.cell?, h]
theorem Arr.frozen {w : World} {g ty : Nat} {C : Array Value} (h : Arr w g ty C) (j : Nat) : w.frozen? ⟨g, j, none⟩ = false := by
  unfold Arr at h; simp [World.frozen?, h]
theorem Arr.lt {w : World} {g ty : Nat} {C : Array Value} (h : Arr w g ty C) : g < w.heap.size := by
  unfold Arr at h; exact (Array.getElem?_eq_some_iff.1 h).1
theorem Arr.set {w : World} {g ty : Nat} {C : Array Value} (h : Arr w g ty C) (j : Nat) (v : Value) : Arr (w.setCell ⟨g, j, none⟩ v) g ty (C.setIfInBounds j v) := by
  unfold Arr at h ⊢; simp [World.setCell, Array.getElem?_modify, h]
theorem Arr.setOther {w : World} {g ty : Nat} {C : Array Value} (h : Arr w g ty C) {a : Addr} (v : Value) (ha : g ≠ a.block) : Arr (w.setCell a v) g ty C := by
  unfold Arr at h ⊢; rw [Below.heap_setCell _ _ _ _ ha]; exact h
theorem Arr.drew {w : World} {g ty : Nat} {C : Array Value} (h : Arr w g ty C) : Arr w.drew g ty C := h
theorem Arr.drewN {w : World} {g ty : Nat} {C : Array Value} (h : Arr w g ty C) (n : Nat) : Arr (w.drewN n) g ty C := h
theorem Arr.alloc {w : World} {g ty : Nat} {C : Array Value} (h : Arr w g ty C) (o : Obj) : Arr (w.alloc o) g ty C := by
  have := h.lt; unfold Arr at h ⊢; rw [Below.heap_alloc _ _ _ this]; exact h
theorem Arr.new (w : World) (ty : Nat) (C : Array Value) : Arr (w.alloc (.cells C ty)) w.heap.size ty C := by
  show (w.heap.push _)[w.heap.size]? = _; rw [Array.getElem?_push_size]
theorem Arr.below {w w' : World} {g ty B : Nat} {C : Array Value} (h : Arr w g ty C) (hb : Below B w w') (hg : g < B) : Arr w' g ty C := by
  unfold Arr at h ⊢; rw [hb.block g hg]; exact h
theorem Arr.setRow {w : World} {g ty : Nat} {C : Array Value} (h : Arr w g ty C) (D : Array Value) : Arr (w.setRow g D) g ty D := setRow_heap w g C D ty (0, 0) h
theorem Arr.setRowOther {w : World} {g ty k : Nat} {C : Array Value} (h : Arr w g ty C) (D : Array Value) (hk : g ≠ k) : Arr (w.setRow k D) g ty C := by
  unfold Arr at h ⊢; rw [setRow_other w k g D hk]; exact h
theorem below_row {B : Nat} {a w : World} (h : Below B a w) {g : Nat} (hg : B ≤ g) (D : Array Value) : Below B a (w.setRow g D) :=
  h.trans ⟨rfl, rfl, rfl, by simp, fun k hk => setRow_other w g k D (by omega)⟩
theorem wpList_store_arr {P : Program} {ops : Array Oper} {rest : List Oper} {o : Oper} {a : Act} {w : World} {Q : Exit → Act → World → Prop} (hgd : o.guard = none) (ty : TypeId) (x y : Operand) (ho : o.op = .store ty x y)
    (g : Nat) (cells : Array Value) (hx : a.eval x = .pointer (some ⟨g, 0, none⟩)) (hy : a.eval y = .agg cells)
    (t : TypeId) (old : Array Value) (hg : Arr w g t old) (hi : (P.info? ty).map (·.size) = some cells.size)
    (hold : old.size = cells.size) (h1 : cells.all (·.oneCell') = true)
    (h : wpList P ops Q rest (a.put o.dst undef) (w.setRow g cells)) : wpList P ops Q (o :: rest) a w :=
  wpList_plain hgd fun _ hK => wp_store_row ty x y ho g cells hx hy t old hg hi hold h1 (hK _ _ h)

/-- The bytes of a range of a block. -/
def Bytes (w : World) (b off n : Nat) (B : Nat → Int) : Prop := ∀ t, t < n → w.cell? ⟨b, off + t, none⟩ = some (.int .u8 (B t))
/-- Bytes as cells. -/
def by8 (L : List Int) : List Value := L.map (Value.int .u8)
theorem by8_len (L : List Int) : (by8 L).length = L.length := by simp [by8]
theorem by8_app (L M : List Int) : by8 (L ++ M) = by8 L ++ by8 M := by simp [by8]
theorem by8_one (L : List Int) : ∀ v ∈ by8 L, v.oneCell' = true := by
  intro v hv; simp only [by8, List.mem_map] at hv; obtain ⟨t, -, rfl⟩ := hv; rfl
theorem by8_get {L : List Int} {t : Nat} (h : t < L.length) : (by8 L)[t]? = some (.int .u8 (bat L t)) := by
  simp [by8, bat, List.getElem?_eq_getElem h]
/-- What a slice of bytes reads. -/
def SlL (w : World) (sp : Option Addr) (L : List Int) : Prop := 0 < L.length → ∃ b off, sp = some ⟨b, off, none⟩ ∧ Bytes w b off L.length (bat L)

/-- A slice of bytes in blocks below N. -/
structure BS (N : Nat) (w : World) (sp : Option Addr) (n cap : Nat) (L : List Int) : Prop where
  len : Hid (n = L.length)
  nil : sp = none → n = 0 ∧ cap = 0
  le : n ≤ cap
  big : cap ≤ 9223372036854775807
  small : n ≤ 140737488355328
  at0 : 0 < n → ∃ b off, sp = some ⟨b, off, none⟩ ∧ b < N ∧ Bytes w b off n (bat L)
  bts : Bts L
theorem BS.mono {N N' : Nat} {w : World} {sp : Option Addr} {n cap : Nat} {L : List Int} (h : BS N w sp n cap L) (hN : N ≤ N') : BS N' w sp n cap L :=
  ⟨h.len, h.nil, h.le, h.big, h.small, fun h0 => let ⟨b, off, e, hb, hB⟩ := h.at0 h0; ⟨b, off, e, by omega, hB⟩, h.bts⟩
theorem Bytes.below {w w' : World} {b off n B : Nat} {f : Nat → Int} (h : Bytes w b off n f) (hb : Below B w w') (hlt : b < B) : Bytes w' b off n f := fun t ht => (hb.cell (p := ⟨b, off + t, none⟩) hlt).trans (h t ht)
theorem BS.below {N : Nat} {w w' : World} {sp : Option Addr} {n cap : Nat} {L : List Int} (h : BS N w sp n cap L) (hb : Below N w w') : BS N w' sp n cap L :=
  ⟨h.len, h.nil, h.le, h.big, h.small, fun h0 => let ⟨b, off, e, hbN, hB⟩ := h.at0 h0; ⟨b, off, e, hbN, hB.below hb hbN⟩, h.bts⟩
/-- As to blocks: those that are there. -/
theorem BS.here {N : Nat} {w : World} {sp : Option Addr} {n cap : Nat} {L : List Int} (h : BS N w sp n cap L) : BS w.heap.size w sp n cap L :=
  ⟨h.len, h.nil, h.le, h.big, h.small, fun h0 => let ⟨b, off, e, hbN, hB⟩ := h.at0 h0; ⟨b, off, e, block_lt_of_cell (hB 0 h0), hB⟩, h.bts⟩
theorem BS.sl {N : Nat} {w : World} {sp : Option Addr} {n cap : Nat} {L : List Int} (h : BS N w sp n cap L) : SlL w sp L := fun h0 => by
  have e := h.len.out
  obtain ⟨b, off, e1, -, hB⟩ := h.at0 (by omega)
  exact ⟨b, off, e1, by rw [← e]; exact hB⟩

theorem info5 : (Try.prog.info? 5).map (fun i => (i.zero, i.size, i.bytes)) = some (some (.int .u8 0), 1, 1) := by kernel_rfl
theorem size5 : (Try.prog.info? 5).map (·.size) = some 1 := by kernel_rfl
theorem maxLen_ge : 140737488355328 ≤ maxLen := by unfold maxLen; omega
theorem own_ge {w : World} {base e s n : Nat} {v : Value} {xs : List Value} (h : w.ownsRow base e s v n xs) : ∀ k, v.ownBlock = some k → base ≤ k := by
  intro k hk
  obtain ⟨-, h | ⟨g, cap, cur, rfl, hg, -⟩⟩ := h
  · obtain ⟨rfl, -⟩ := h; simp [Value.ownBlock] at hk
  · simp [Value.ownBlock] at hk; omega

/-- append of bytes onto a slice of the call's own: the operation. -/
theorem wp_append_bytes {o : Oper} {a : Act} {w : World} {K : Act → World → Prop} {Q : Exit → Act → World → Prop} (s x : Operand)
    (ho : o.op = .call { callee := .builtin .append, args := #[s, x], argTypes := #[23, 23] })
    (base : Nat) (v : Value) (n : Nat) (L : List Int) (hs : a.eval s = v) (hown : w.ownsRow base 5 1 v n (by8 L))
    (sp : Option Addr) (m c : Nat) (M : List Int) (hx : a.eval x = .slice sp m c) (hm : m = M.length) (hnil : sp = none → m = 0 ∧ c = 0) (hS : SlL w sp M) (hb : n + m ≤ 140737488355328) (hbase : base ≤ w.heap.size)
    (h : ∀ v' w', w'.ownsRow base 5 1 v' (n + m) (by8 (L ++ M)) → w.grownBy w' v.ownBlock → K (a.put o.dst v') w') : o.wp Try.prog a w K Q := by
  obtain ⟨i0, hi, hz0, hz1, hz2⟩ := info_parts info5
  subst hm
  cases sp with
  | none =>
    obtain ⟨h1, rfl⟩ := hnil rfl
    obtain rfl : M = [] := List.eq_nil_of_length_eq_zero h1
    have hrun := run_append_owned_none (P := Try.prog) (w := w) base 23 o.type 5 i0 1 Try.underlying23 hi v n _ hown
    unfold Oper.wp
    simp only [List.length_nil] at hx
    simp [execOp, ho, resolve, invoke, builtin, hs, hx, hrun, Result.andThen]
    exact h v w (by simpa using hown) ⟨rfl, rfl, rfl, Nat.le_refl _, fun _ _ _ => rfl⟩
  | some ad =>
    refine wp_append_own w s x 23 ho base 5 i0 (.int .u8 0) 1 1 Try.underlying23 hi hz0 hz1 hz2 rfl (by omega) v n _ hs hown ad M.length c (by8 M) hx (by rw [by8_len]; omega) ?_ (by8_one M) (Nat.le_trans hb maxLen_ge) (by omega) hbase ?_
    · intro j u hj
      have hjl : j < M.length := by have := (List.getElem?_eq_some_iff.1 hj).1; rwa [by8_len] at this
      obtain ⟨b, off, e, hB⟩ := hS (by omega)
      obtain rfl := Option.some.inj e
      rw [by8_get hjl] at hj
      rw [Addr.add_mid, hB j hjl]; exact hj
    · intro v' w' h1 h2 _
      exact h v' w' (by rw [by8_app]; exact h1) h2

theorem wpList_want {P : Program} {ops : Array Oper} {rest : List Oper} {o : Oper} {a : Act} {w : World} {Q : Exit → Act → World → Prop} (hw : Region.wanted o (yielded ops a.tmps) = true)
    (h : ∀ K : Act → World → Prop, (∀ a w, wpList P ops Q rest a w → K a w) → o.wp P a w K Q) : wpList P ops Q (o :: rest) a w :=
  wpList_step fun K hK => by rw [if_pos hw]; exact h K hK
/-- .. in a region's list, guarded or not. -/
theorem append_bytes {ops : Array Oper} {rest : List Oper} {o : Oper} {a : Act} {w : World} {Q : Exit → Act → World → Prop} (hgd : Region.wanted o (yielded ops a.tmps) = true) (s x : Operand)
    (ho : o.op = .call { callee := .builtin .append, args := #[s, x], argTypes := #[23, 23] })
    (base : Nat) (v : Value) (n : Nat) (L : List Int) (hs : a.eval s = v) (hown : w.ownsRow base 5 1 v n (by8 L))
    (sp : Option Addr) (m c : Nat) (M : List Int) (hx : a.eval x = .slice sp m c) (hm : m = M.length) (hnil : sp = none → m = 0 ∧ c = 0) (hS : SlL w sp M) (hb : n + m ≤ 140737488355328) (hbase : base ≤ w.heap.size)
    (h : ∀ v' w', w'.ownsRow base 5 1 v' (n + m) (by8 (L ++ M)) → w.grownBy w' v.ownBlock → wpList Try.prog ops Q rest (a.put o.dst v') w') : wpList Try.prog ops Q (o :: rest) a w :=
  wpList_want hgd fun _ hK => wp_append_bytes s x ho base v n L hs hown sp m c M hx hm hnil hS hb hbase fun v' w' h1 h2 => hK _ _ (h v' w' h1 h2)

/-- What an own slice looks like. -/
theorem own_bs {w : World} {base n : Nat} {v : Value} {L : List Int} (h : w.ownsRow base 5 1 v n (by8 L)) (hL : Bts L) (hs : n ≤ 140737488355328) :
    ∃ sp cap, v = .slice sp n cap ∧ BS w.heap.size w sp n cap L ∧ (∀ g off, sp = some ⟨g, off, none⟩ → base ≤ g ∧ off = 0) := by
  obtain ⟨hl, h | ⟨g, cap, cur, rfl, hg, hh, hn, hm, hc, ht⟩⟩ := h
  · obtain ⟨rfl, rfl⟩ := h
    rw [by8_len] at hl
    refine ⟨none, 0, rfl, ⟨show _ = _ by omega, fun _ => ⟨rfl, rfl⟩, by omega, by omega, by omega, fun h0 => by omega, hL⟩, fun g off e => by cases e⟩
  · rw [by8_len, Nat.mul_one] at hl
    refine ⟨_, cap, rfl, ⟨show _ = _ by omega, (fun e => by cases e), hn, by unfold maxLen at hm; omega, hs, fun h0 => ⟨g, 0, rfl, (Array.getElem?_eq_some_iff.1 hh).1, fun t htl => ?_⟩, hL⟩, fun g' off e => by cases e; exact ⟨hg, rfl⟩⟩
    rw [Nat.zero_add, cell_of_row w g t cur 5 (0, 0) hh, ← Array.getElem?_toList, ← List.getElem?_take_of_lt (show t < n * 1 by omega), ht, by8_get (by omega)]
end Go.Proofs.Ytbjlmekafnpllab
