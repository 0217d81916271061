/- Tj, Tk, Tl, Tm, Ma, Mb, Tt, Ca, Cb, Cc, Cg, Co, La, ZTn. -/
import Derived.Test.YtnjbmffgbgbjmaaX03
import Derived.Test.YtnjbmffgbgbjmaaX02
import Derived.Test.YtnjbmffgbgbjmaaX05
import Derived.BigQuiet
import Derived.BigRegion
import Derived.ChangeKeysEq
import Derived.Deep.DeepCutAuto
import Derived.Deep.DrawnRows
import Derived.Deep.QuietTactic
import Derived.Deep.RegionHeld3
import Derived.Deep.RegionLaw
import Derived.Deep.RegionWith
import Derived.Deep.WholeRow
import Derived.Laws.BytesArg
import Derived.Laws.CopyOwn
import Derived.Lib.SlBytesConst
import Derived.WalkKit
import Derived.WalkLawsBesides
import Derived.WalkSpells
import Derived.Test.YtnjbmffgbgbjmaaX01
import Derived.Laws.AppendOwnNone
import Derived.Deep.MidRow
import Derived.Laws.BitsLemmas
import Derived.DeepKeys3
import Derived.RangeFuncRecord
import Derived.Great.BuildSlice
import Derived.Laws.Tables
import Derived.LoopIn
import Derived.LoopNIn
import Derived.Maps.AppendAt
import Derived.OwnWalkIn
import Derived.RangeFuncBound
import Derived.RangeFuncCalls
import Derived.RangeFuncLeaves
import Derived.RangeFuncNested
import Derived.Shelf.Abstract
import Derived.Shelf.RegionOpen
import Derived.TacticsInMore
import Derived.Laws.ResultCell
/- Layer vm: what the layers below give. -/
namespace Go.Proofs.Ytnjbmffgbgbjmaa
open Go.RowKit
set_option maxRecDepth 100000
set_option linter.unusedVariables false
set_option linter.unusedSimpArgs false

/-- Byte t of the sum of n bytes. -/
def shaB (B : Nat → Int) (n t : Nat) : Int := outB (shaSt B (n / 64) (n % 64)) t
theorem outB_range (s : St) (t : Nat) : 0 ≤ outB s t ∧ outB s t ≤ 255 := by unfold outB; omega
theorem shaB_range (B : Nat → Int) (n t : Nat) : 0 ≤ shaB B n t ∧ shaB B n t ≤ 255 := outB_range _ _
theorem u8s_size (n : Nat) (f : Nat → Int) : (u8s n f).size = n := arr_size _ _
theorem u8s_get {n : Nat} {f : Nat → Int} {t : Nat} (h : t < n) : (u8s n f)[t]? = some (.int .u8 (f t)) := arr_get h
theorem sum_any (b off n cap : Nat) (B : Nat → Int) (w : World) (hB : Bytes w b off n B) (hcap : n ≤ cap) (hn : n ≤ 140737488355328) :
    Calls Try.prog 38 #[.slice (some ⟨b, off, none⟩) n cap] w fun e w' => e = .returned (.agg (u8s 32 (shaB B n))) ∧ Below w.heap.size w w' := by
  have e : 64 * (n / 64) + n % 64 = n := Nat.div_add_mod n 64
  have := sum_some b off (n / 64) (n % 64) cap B w (by rw [e]; exact hB) (Nat.mod_lt _ (by omega)) (by omega) (by omega)
  rw [e] at this
  refine this.mono ?_
  rintro e w' ⟨C, rfl, hs, hC, hb⟩
  exact ⟨by rw [arr_eq hs hC]; rfl, hb⟩
end Go.Proofs.Ytnjbmffgbgbjmaa
/- Layer vm: what the layers below give. -/
namespace Go.Proofs.Ytnjbmffgbgbjmaa
open Go.RowKit
set_option maxRecDepth 100000
set_option linter.unusedVariables false
set_option linter.unusedSimpArgs false

/-- Bytes as cells. -/
def by8 (L : List Int) : List Value := L.map (Value.int .u8)
theorem by8_len (L : List Int) : (by8 L).length = L.length := by simp [by8]
theorem by8_app (L M : List Int) : by8 (L ++ M) = by8 L ++ by8 M := by simp [by8]
theorem by8_one (L : List Int) : ∀ v ∈ by8 L, v.oneCell' = true := by
  intro v hv; simp only [by8, List.mem_map] at hv; obtain ⟨t, -, rfl⟩ := hv; rfl
/-- Byte t. -/
def bat (L : List Int) (t : Nat) : Int := L.getD t 0
theorem by8_get {L : List Int} {t : Nat} (h : t < L.length) : (by8 L)[t]? = some (.int .u8 (bat L t)) := by
  simp [by8, bat, List.getElem?_eq_getElem h]
/-- The sum of bytes. -/
def sha (L : List Int) : Array Value := u8s 32 (shaB (bat L) L.length)
/-- What a slice of bytes reads. -/
def SlL (w : World) (sp : Option Addr) (L : List Int) : Prop := Sl w sp L.length (bat L)
theorem sum_list (b off cap : Nat) (L : List Int) (w : World) (hB : Bytes w b off L.length (bat L)) (hcap : L.length ≤ cap) (hn : L.length ≤ 140737488355328) :
    Calls Try.prog 38 #[.slice (some ⟨b, off, none⟩) L.length cap] w fun e w' => e = .returned (.agg (sha L)) ∧ Below w.heap.size w w' :=
  sum_any b off L.length cap (bat L) w hB hcap hn
theorem Arr.sl {w : World} {g ty : Nat} {L : List Int} (h : Arr w g ty (by8 L).toArray) : SlL w (some ⟨g, 0, none⟩) L := fun _ => ⟨g, 0, rfl, fun t ht => by
  rw [Nat.zero_add, h.cell]; simpa using by8_get ht⟩
theorem own_ge {w : World} {base e s n : Nat} {v : Value} {xs : List Value} (h : w.ownsRow base e s v n xs) : ∀ k, v.ownBlock = some k → base ≤ k := by
  intro k hk
  obtain ⟨-, h | ⟨g, cap, cur, rfl, hg, -⟩⟩ := h
  · obtain ⟨rfl, -⟩ := h; simp [Value.ownBlock] at hk
  · simp [Value.ownBlock] at hk; omega
/-- What an own slice that is not empty looks like. -/
theorem own_slice {w : World} {base n : Nat} {v : Value} {L : List Int} (h : w.ownsRow base 5 1 v n (by8 L)) (h0 : 0 < n) :
    ∃ g cap, v = .slice (some ⟨g, 0, none⟩) n cap ∧ Hid (n = L.length) ∧ n ≤ cap ∧ base ≤ g ∧ Bytes w g 0 L.length (bat L) ∧ (∃ cur : Array Value, Arr w g 5 cur ∧ cur.size = cap) := by
  obtain ⟨hl, h | ⟨g, cap, cur, rfl, hg, hh, hn, -, hc, ht⟩⟩ := h
  · omega
  · rw [by8_len, Nat.mul_one] at hl
    subst hl
    refine ⟨g, cap, rfl, show _ = _ from rfl, hn, hg, fun t htl => ?_, cur, hh, by simpa using hc⟩
    rw [Nat.zero_add, cell_of_row w g t cur 5 (0, 0) hh, ← Array.getElem?_toList, ← List.getElem?_take_of_lt (show t < L.length * 1 by omega), ht, by8_get htl]
theorem maxLen_ge : 140737488355328 ≤ maxLen := by unfold maxLen; omega
/-- append of bytes onto a slice of the call's own: the operation. -/
theorem wp_append_bytes {o : Oper} {a : Act} {w : World} {K : Act → World → Prop} {Q : Exit → Act → World → Prop} (s x : Operand)
    (ho : o.op = .call { callee := .builtin .append, args := #[s, x], argTypes := #[34, 34] })
    (base : Nat) (v : Value) (n : Nat) (L : List Int) (hs : a.eval s = v) (hown : w.ownsRow base 5 1 v n (by8 L))
    (sp : Option Addr) (m c : Nat) (M : List Int) (hx : a.eval x = .slice sp m c) (hm : m = M.length) (hnil : sp = none → m = 0 ∧ c = 0) (hS : SlL w sp M) (hb : n + m ≤ 140737488355328) (hbase : base ≤ w.heap.size)
    (h : ∀ v' w', w'.ownsRow base 5 1 v' (n + m) (by8 (L ++ M)) → w.grownBy w' v.ownBlock → K (a.put o.dst v') w') : o.wp Try.prog a w K Q := by
  obtain ⟨i0, hi, hz0, hz1, hz2⟩ := info_parts info5
  subst hm
  cases sp with
  | none =>
    obtain ⟨h1, rfl⟩ := hnil rfl
    obtain rfl : M = [] := List.eq_nil_of_length_eq_zero h1
    have hrun := run_append_owned_none (P := Try.prog) (w := w) base 34 o.type 5 i0 1 Try.underlying34 hi v n _ hown
    unfold Oper.wp
    simp only [List.length_nil] at hx
    simp [execOp, ho, resolve, invoke, builtin, hs, hx, hrun, Result.andThen]
    exact h v w (by simpa using hown) ⟨rfl, rfl, rfl, Nat.le_refl _, fun _ _ _ => rfl⟩
  | some ad =>
    refine wp_append_own w s x 34 ho base 5 i0 (.int .u8 0) 1 1 Try.underlying34 hi hz0 hz1 hz2 rfl (by omega) v n _ hs hown ad M.length c (by8 M) hx (by rw [by8_len]; omega) ?_ (by8_one M) (Nat.le_trans hb maxLen_ge) (by omega) hbase ?_
    · intro j u hj
      have hjl : j < M.length := by have := (List.getElem?_eq_some_iff.1 hj).1; rwa [by8_len] at this
      obtain ⟨b, off, e, hB⟩ := hS (by omega)
      obtain rfl := Option.some.inj e
      rw [by8_get hjl] at hj
      rw [Addr.add_mid, hB j hjl]; exact hj
    · intro v' w' h1 h2 _
      exact h v' w' (by rw [by8_app]; exact h1) h2
theorem wpList_want {P : Program} {ops : Array Oper} {rest : List Oper} {o : Oper} {a : Act} {w : World} {Q : Exit → Act → World → Prop} (hw : Region.wanted o (yielded ops a.tmps) = true)
    (h : ∀ K : Act → World → Prop, (∀ a w, wpList P ops Q rest a w → K a w) → o.wp P a w K Q) : wpList P ops Q (o :: rest) a w :=
  wpList_step fun K hK => by rw [if_pos hw]; exact h K hK
/-- .. in a region's list, guarded or not. -/
theorem append_bytes {ops : Array Oper} {rest : List Oper} {o : Oper} {a : Act} {w : World} {Q : Exit → Act → World → Prop} (hgd : Region.wanted o (yielded ops a.tmps) = true) (s x : Operand)
    (ho : o.op = .call { callee := .builtin .append, args := #[s, x], argTypes := #[34, 34] })
    (base : Nat) (v : Value) (n : Nat) (L : List Int) (hs : a.eval s = v) (hown : w.ownsRow base 5 1 v n (by8 L))
    (sp : Option Addr) (m c : Nat) (M : List Int) (hx : a.eval x = .slice sp m c) (hm : m = M.length) (hnil : sp = none → m = 0 ∧ c = 0) (hS : SlL w sp M) (hb : n + m ≤ 140737488355328) (hbase : base ≤ w.heap.size)
    (h : ∀ v' w', w'.ownsRow base 5 1 v' (n + m) (by8 (L ++ M)) → w.grownBy w' v.ownBlock → wpList Try.prog ops Q rest (a.put o.dst v') w') : wpList Try.prog ops Q (o :: rest) a w :=
  wpList_want hgd fun _ hK => wp_append_bytes s x ho base v n L hs hown sp m c M hx hm hnil hS hb hbase fun v' w' h1 h2 => hK _ _ (h v' w' h1 h2)
end Go.Proofs.Ytnjbmffgbgbjmaa
/- Layer vm: what the layers below give. -/
namespace Go.Proofs.Ytnjbmffgbgbjmaa
open Go.RowKit
set_option maxRecDepth 100000
set_option linter.unusedVariables false
set_option linter.unusedSimpArgs false

theorem Sl.grown {w w' : World} {sp : Option Addr} {r : Nat} {B : Nat → Int} {row : Option Nat} (h : Sl w sp r B) (hg : w.grownBy w' row) (hr : ∀ b off, sp = some ⟨b, off, none⟩ → 0 < r → some b ≠ row) : Sl w' sp r B := fun h0 => by
  obtain ⟨b, off, rfl, hB⟩ := h h0
  refine ⟨b, off, rfl, fun t ht => ?_⟩
  rw [World.cell?_of_block (w := w) (a := ⟨b, off + t, none⟩) (hg.block b (block_lt_of_cell (hB t ht)) (hr b off rfl h0))]
  exact hB t ht
theorem Arr.grown {w w' : World} {g ty : Nat} {C : Array Value} {row : Option Nat} (h : Arr w g ty C) (hg : w.grownBy w' row) (hr : some g ≠ row) : Arr w' g ty C := by
  have := hg.block g h.lt hr
  unfold Arr at h ⊢; rw [this]; exact h
theorem Sl.lt {w : World} {b off r : Nat} {B : Nat → Int} (h : Sl w (some ⟨b, off, none⟩) r B) (h0 : 0 < r) : b < w.heap.size := by
  obtain ⟨b', off', e, hB⟩ := h h0
  cases e
  exact block_lt_of_cell (hB 0 h0)
theorem sha_size (L : List Int) : (sha L).size = 32 := u8s_size _ _
theorem s24sha (L : List Int) : (Try.prog.info? 31).map (·.size) = some (sha L).size := by rw [sha_size]; exact size24
theorem sha_get (L : List Int) : ∀ t, t < 32 → (sha L)[t]? = some (.int .u8 (shaB (bat L) L.length t)) := fun _ h => u8s_get h
theorem sha_one (L : List Int) : (sha L).all (·.oneCell') = true := one_ints (sha_size L) (sha_get L)
/-- A sum by value. -/
def h8 (X : List Int) : Array Value := (by8 X).toArray
theorem h8_size (X : List Int) : (h8 X).size = X.length := by simp [h8, by8_len]
end Go.Proofs.Ytnjbmffgbgbjmaa
/- Layer vm: what the layers below give. -/
namespace Go.Proofs.Ytnjbmffgbgbjmaa
open Go.RowKit
set_option maxRecDepth 100000
set_option linter.unusedVariables false
set_option linter.unusedSimpArgs false

theorem Bytes.below {w w' : World} {b off n : Nat} {B : Nat → Int} (h : Bytes w b off n B) (hb : Below w.heap.size w w') : Bytes w' b off n B := fun t ht => by
  rw [hb.cell (p := ⟨b, off + t, none⟩) (block_lt_of_cell (h t ht))]; exact h t ht
theorem s24h8 {X : List Int} (h : X.length = 32) : (Try.prog.info? 31).map (·.size) = some (h8 X).size := by rw [h8_size, h]; exact size24
end Go.Proofs.Ytnjbmffgbgbjmaa
/- Layer vm: what the layers below give. -/
namespace Go.Proofs.Ytnjbmffgbgbjmaa
open Go.RowKit
set_option maxRecDepth 100000
set_option linter.unusedVariables false
set_option linter.unusedSimpArgs false

/-- A sum, as bytes. -/
def shl (L : List Int) : List Int := (List.range 32).map (shaB (bat L) L.length)
/-- The zero sum. -/
def Z32 : List Int := List.replicate 32 0
/-- The other half's number. -/
def sib (j : Nat) : Nat := if j % 2 = 0 then j + 1 else j - 1
end Go.Proofs.Ytnjbmffgbgbjmaa
/- Layer vm: what the layers below give. -/
namespace Go.Proofs.Ytnjbmffgbgbjmaa
open Go.RowKit
set_option maxRecDepth 100000
set_option linter.unusedVariables false
set_option linter.unusedSimpArgs false

theorem alloc_bel' (w : World) (o : Obj) : Below w.heap.size w (w.alloc o) := (Below.refl _ _).alloc (Nat.le_refl _) o
theorem h8_get {X : List Int} {t : Nat} (h : t < X.length) : (h8 X)[t]? = some (.int .u8 (bat X t)) := by
  simpa [h8] using by8_get h
theorem h8_one (X : List Int) : (h8 X).all (·.oneCell') = true := all_oneCell_toArray (by8_one X)
theorem h8_list (X : List Int) : (h8 X).toList = by8 X := rfl
theorem h8_Z : h8 Z32 = #[.int .u8 0, .int .u8 0, .int .u8 0, .int .u8 0, .int .u8 0, .int .u8 0, .int .u8 0, .int .u8 0, .int .u8 0, .int .u8 0, .int .u8 0, .int .u8 0, .int .u8 0, .int .u8 0, .int .u8 0, .int .u8 0, .int .u8 0, .int .u8 0, .int .u8 0, .int .u8 0, .int .u8 0, .int .u8 0, .int .u8 0, .int .u8 0, .int .u8 0, .int .u8 0, .int .u8 0, .int .u8 0, .int .u8 0, .int .u8 0, .int .u8 0, .int .u8 0] := rfl
theorem eqItems_two (w : World) (d : Nat) (C D : Array Value) (f g : Nat → Int) :
    ∀ is : List Nat, (∀ i ∈ is, C[i]? = some (.int .u8 (f i))) → (∀ i ∈ is, D[i]? = some (.int .u8 (g i))) → (Op.eqItems (d + 1) 5 1 C D is).run Try.prog w = .ok (is.all fun i => f i == g i) w
  | [], _, _ => by simp [Op.eqItems]
  | i :: is, h, h' => by
    have hi := h i (by simp)
    have hi' := h' i (by simp)
    have ih := eqItems_two w d C D f g is (fun j hj => h j (by simp [hj])) (fun j hj => h' j (by simp [hj]))
    have ha := @Try.isAgg5
    by_cases he : f i = g i
    · simp [Op.eqItems, part, ha, hi, hi', run_equalIn_int w d 5 .u8 .u8 _ _ Try.underlying5, ih, he]
    · simp [Op.eqItems, part, ha, hi, hi', run_equalIn_int w d 5 .u8 .u8 _ _ Try.underlying5, ih, he]
theorem bat_ext {X Y : List Int} (hX : X.length = 32) (hY : Y.length = 32) : ((List.range 32).all fun i => bat X i == bat Y i) = decide (X = Y) := by
  rw [Bool.eq_iff_iff]
  simp only [List.all_eq_true, List.mem_range, beq_iff_eq, decide_eq_true_eq]
  constructor
  · intro h
    apply List.ext_getElem (by omega)
    intro i h1 h2
    have := h i (by omega)
    simpa [bat, List.getD_eq_getElem?_getD, List.getElem?_eq_getElem, h1, h2] using this
  · rintro rfl i _; rfl
theorem run_eqIn24 {X Y : List Int} (hX : X.length = 32) (hY : Y.length = 32) (w : World) : (Op.equalIn 10000 31 (.agg (h8 X)) (.agg (h8 Y))).run Try.prog w = .ok (decide (X = Y)) w := by
  obtain ⟨i0, hi, -⟩ := info_parts info5
  have hc : Try.prog.cellsOf 5 = 1 := by kernel_rfl
  rw [run_equalIn_array w 9999 _ _ Try.underlying31 hi, hc, eqItems_two w 9998 _ _ (bat X) (bat Y) (List.range 32) (fun i h => h8_get (by rw [hX]; simpa using h)) (fun i h => h8_get (by rw [hY]; simpa using h)), bat_ext hX hY]
theorem run_eq24 {X Y : List Int} (hX : X.length = 32) (hY : Y.length = 32) (w : World) : (binOp .eql 31 (.agg (h8 X)) (.agg (h8 Y))).run Try.prog w = .ok (.bool (decide (X = Y))) w := by
  rw [run_eql_struct, run_eqIn24 hX hY]; rfl
theorem range_below {w w' : World} {B b o : Nat} {cs : List Value} (h : w.rangeAt b o cs) (hb : Below B w w') (hlt : b < B) : w'.rangeAt b o cs := fun j v hv => (hb.cell (p := ⟨b, o + j, none⟩) hlt).trans (h j v hv)
theorem there_below {w w' : World} {B b o n : Nat} (h : w.there b o n) (hb : Below B w w') (hlt : b < B) : w'.there b o n := fun j hj =>
  ⟨by rw [hb.cell (p := ⟨b, o + j, none⟩) hlt]; exact (h j hj).1, by have h2 := (h j hj).2; simp only [World.frozen?] at h2 ⊢; rw [hb.block b hlt]; exact h2⟩
theorem Arr.range {w : World} {g ty : Nat} {X : List Int} (h : Arr w g ty (h8 X)) : w.rangeAt g 0 (by8 X) := fun j v hv => by
  rw [Nat.zero_add, h.cell]; simpa [h8] using hv
/-- A slice of sums. -/
structure HS (N : Nat) (w : World) (sp : Option Addr) (n cap : Nat) (ls : List (List Int)) : Prop where
  len : Hid (n = ls.length)
  nil : sp = none → n = 0 ∧ cap = 0
  le : n ≤ cap
  big : cap ≤ 9223372036854775807
  small : n ≤ 140737488355328
  at0 : 0 < n → ∃ g off, sp = some ⟨g, off, none⟩ ∧ g < N ∧ ∀ i X, ls[i]? = some X → w.rangeAt g (off + i * 32) (by8 X)
  l32 : ∀ X ∈ ls, X.length = 32
theorem HS.mono {N N' : Nat} {w : World} {sp : Option Addr} {n cap : Nat} {ls : List (List Int)} (h : HS N w sp n cap ls) (hN : N ≤ N') : HS N' w sp n cap ls :=
  ⟨h.len, h.nil, h.le, h.big, h.small, fun h0 => let ⟨b, off, e, hb, hB⟩ := h.at0 h0; ⟨b, off, e, by omega, hB⟩, h.l32⟩
theorem HS.below {N : Nat} {w w' : World} {sp : Option Addr} {n cap : Nat} {ls : List (List Int)} (h : HS N w sp n cap ls) (hb : Below N w w') : HS N w' sp n cap ls :=
  ⟨h.len, h.nil, h.le, h.big, h.small, fun h0 => let ⟨b, off, e, hbN, hB⟩ := h.at0 h0; ⟨b, off, e, hbN, fun i X hX => range_below (hB i X hX) hb hbN⟩, h.l32⟩
theorem HS.here {N : Nat} {w : World} {sp : Option Addr} {n cap : Nat} {ls : List (List Int)} (h : HS N w sp n cap ls) : HS w.heap.size w sp n cap ls :=
  ⟨h.len, h.nil, h.le, h.big, h.small, fun h0 => by
    obtain ⟨b, off, e, hbN, hB⟩ := h.at0 h0
    refine ⟨b, off, e, ?_, hB⟩
    have hl : 0 < ls.length := by rw [← h.len.out]; exact h0
    have hX := hB 0 ls[0] (List.getElem?_eq_getElem hl)
    have h32 := h.l32 ls[0] (List.getElem_mem hl)
    exact block_lt_of_cell (hX 0 _ (by8_get (by omega))), h.l32⟩
theorem HS.nil0 (N : Nat) (w : World) : HS N w none 0 0 [] := ⟨rfl, fun _ => ⟨rfl, rfl⟩, Nat.le_refl _, by omega, by omega, fun h => absurd h (by omega), fun X h => by cases h⟩
/-- A part of it. -/
theorem HS.part {N : Nat} {w : World} {g off n cap : Nat} {ls : List (List Int)} (h : HS N w (some ⟨g, off, none⟩) n cap ls) (l k m : Nat) (hk : l + k ≤ n) (hkm : k ≤ m) (hm : m ≤ cap) (hpos : 0 < n) : HS N w (some ⟨g, off + l * 32, none⟩) k m ((ls.drop l).take k) := by
  have hl := h.len.out
  refine ⟨?_, (fun e => by cases e), hkm, by have := h.big; omega, by have := h.small; omega, fun h0 => ?_, fun X hX => h.l32 X (List.mem_of_mem_drop (List.mem_of_mem_take hX))⟩
  · show k = _
    rw [List.length_take, List.length_drop]; omega
  · obtain ⟨g', off', e, hb, hB⟩ := h.at0 hpos
    cases e
    refine ⟨_, _, rfl, hb, fun i X hX => ?_⟩
    have hi : i < k := by
      have := (List.getElem?_eq_some_iff.1 hX).1
      rw [List.length_take] at this; omega
    rw [List.getElem?_take_of_lt hi, List.getElem?_drop] at hX
    have := hB (l + i) X hX
    rw [Nat.add_mul, ← Nat.add_assoc] at this
    exact this
end Go.Proofs.Ytnjbmffgbgbjmaa
/- Layer vm: what the layers below give. -/
namespace Go.Proofs.Ytnjbmffgbgbjmaa
open Go.RowKit
set_option maxRecDepth 100000
set_option linter.unusedVariables false
set_option linter.unusedSimpArgs false

theorem conv_bytes (sp : Option Addr) (n cap : Nat) (L : List Int) (w : World) (hn : n = L.length) (hnil : sp = none → n = 0 ∧ cap = 0) (hS : SlL w sp L) :
    (convert 34 9 (.slice sp n cap)).run Try.prog w = .ok (.string (strOfNums L)) w := by
  subst hn
  cases sp with
  | none =>
    obtain ⟨h1, rfl⟩ := hnil rfl
    obtain rfl : L = [] := List.eq_nil_of_length_eq_zero h1
    exact run_convert_bytes_nil w 34 5 Try.underlying34 Try.underlying5 0 0 9 Try.underlying9
  | some ad =>
    by_cases h0 : 0 < L.length
    · obtain ⟨b, off, e, hB⟩ := hS h0
      obtain rfl := Option.some.inj e
      exact run_convert_bytes_arg w 34 5 Try.underlying34 Try.underlying5 b off L.length cap L rfl hB 9 Try.underlying9
    · obtain rfl : L = [] := List.eq_nil_of_length_eq_zero (by omega)
      rw [run_convert_bytes_string w 34 9 5 _ _ cap Try.underlying34 Try.underlying5 Try.underlying9]
      have hl : (loadCells ad 0).run Try.prog w = .ok ((([] : List Int).map (Value.int .u8)).toArray) w := by simp [loadCells, loadCellsFrom]
      have := run_bytesToString w ad 0 cap [] hl
      exact this
end Go.Proofs.Ytnjbmffgbgbjmaa
/- Layer vm: what the layers below give. -/
namespace Go.Proofs.Ytnjbmffgbgbjmaa
open Go.RowKit
set_option maxRecDepth 100000
set_option linter.unusedVariables false
set_option linter.unusedSimpArgs false

/-- All are bytes. -/
def Bts (L : List Int) : Prop := ∀ x ∈ L, 0 ≤ x ∧ x ≤ 255
theorem Bts.nil : Bts [] := by simp [Bts]
theorem Bts.app {L M : List Int} (h : Bts L) (h' : Bts M) : Bts (L ++ M) := by
  intro x hx; rcases List.mem_append.1 hx with h1 | h1
  · exact h x h1
  · exact h' x h1
theorem Bts.one {L : List Int} (h : Bts L) : Bts (1 :: L) := by
  intro x hx; rcases List.mem_cons.1 hx with rfl | h1
  · omega
  · exact h x h1
theorem shl_bts (L : List Int) : Bts (shl L) := by
  intro x hx
  simp only [shl, List.mem_map] at hx
  obtain ⟨t, -, rfl⟩ := hx
  exact shaB_range _ _ _
theorem Bytes.belowB {w w' : World} {b off n B : Nat} {f : Nat → Int} (h : Bytes w b off n f) (hb : Below B w w') (hlt : b < B) : Bytes w' b off n f := fun t ht => (hb.cell (p := ⟨b, off + t, none⟩) hlt).trans (h t ht)
/-- A slice of bytes in blocks below N. -/
structure BS (N : Nat) (w : World) (sp : Option Addr) (n cap : Nat) (L : List Int) : Prop where
  len : Hid (n = L.length)
  nil : sp = none → n = 0 ∧ cap = 0
  le : n ≤ cap
  big : cap ≤ 9223372036854775807
  small : n ≤ 140737488355000
  at0 : 0 < n → ∃ b off, sp = some ⟨b, off, none⟩ ∧ b < N ∧ Bytes w b off n (bat L)
  bts : Bts L
theorem BS.mono {N N' : Nat} {w : World} {sp : Option Addr} {n cap : Nat} {L : List Int} (h : BS N w sp n cap L) (hN : N ≤ N') : BS N' w sp n cap L :=
  ⟨h.len, h.nil, h.le, h.big, h.small, fun h0 => let ⟨b, off, e, hb, hB⟩ := h.at0 h0; ⟨b, off, e, by omega, hB⟩, h.bts⟩
theorem BS.below {N : Nat} {w w' : World} {sp : Option Addr} {n cap : Nat} {L : List Int} (h : BS N w sp n cap L) (hb : Below N w w') : BS N w' sp n cap L :=
  ⟨h.len, h.nil, h.le, h.big, h.small, fun h0 => let ⟨b, off, e, hbN, hB⟩ := h.at0 h0; ⟨b, off, e, hbN, hB.belowB hb hbN⟩, h.bts⟩
theorem BS.here {N : Nat} {w : World} {sp : Option Addr} {n cap : Nat} {L : List Int} (h : BS N w sp n cap L) : BS w.heap.size w sp n cap L :=
  ⟨h.len, h.nil, h.le, h.big, h.small, fun h0 => let ⟨b, off, e, hbN, hB⟩ := h.at0 h0; ⟨b, off, e, block_lt_of_cell (hB 0 h0), hB⟩, h.bts⟩
theorem BS.sl {N : Nat} {w : World} {sp : Option Addr} {n cap : Nat} {L : List Int} (h : BS N w sp n cap L) : SlL w sp L := fun h0 => by
  have e := h.len.out
  obtain ⟨b, off, e1, -, hB⟩ := h.at0 (by omega)
  exact ⟨b, off, e1, by rw [← e]; exact hB⟩
theorem BS.nil0 (N : Nat) (w : World) : BS N w none 0 0 [] := ⟨rfl, fun _ => ⟨rfl, rfl⟩, Nat.le_refl _, by omega, by omega, fun h => absurd h (by omega), Bts.nil⟩
/-- .. where no block of it is turned. -/
theorem BS.grown {N : Nat} {w w' : World} {sp : Option Addr} {n cap g : Nat} {L : List Int} (h : BS N w sp n cap L) (hg : w.grownBy w' (some g)) (hne : ∀ b off, sp = some ⟨b, off, none⟩ → b ≠ g) : BS N w' sp n cap L :=
  ⟨h.len, h.nil, h.le, h.big, h.small, fun h0 => by
    obtain ⟨b, off, e, hbN, hB⟩ := h.at0 h0
    refine ⟨b, off, e, hbN, fun t ht => ?_⟩
    rw [World.cell?_of_block (w := w) (a := ⟨b, off + t, none⟩) (hg.block b (block_lt_of_cell (hB t ht)) (fun e' => hne b off e (Option.some.inj e')))]
    exact hB t ht, h.bts⟩
/-- What an own slice looks like. -/
theorem own_bs {w : World} {base n : Nat} {v : Value} {L : List Int} (h : w.ownsRow base 5 1 v n (by8 L)) (hL : Bts L) (hs : n ≤ 140737488355000) :
    ∃ sp cap, v = .slice sp n cap ∧ BS w.heap.size w sp n cap L ∧ (∀ g off, sp = some ⟨g, off, none⟩ → base ≤ g ∧ off = 0) := by
  obtain ⟨hl, h | ⟨g, cap, cur, rfl, hg, hh, hn, hm, hc, ht⟩⟩ := h
  · obtain ⟨rfl, rfl⟩ := h
    rw [by8_len] at hl
    refine ⟨none, 0, rfl, ⟨show _ = _ by omega, fun _ => ⟨rfl, rfl⟩, by omega, by omega, by omega, fun h0 => by omega, hL⟩, fun g off e => by cases e⟩
  · rw [by8_len, Nat.mul_one] at hl
    refine ⟨_, cap, rfl, ⟨show _ = _ by omega, (fun e => by cases e), hn, by unfold maxLen at hm; omega, hs, fun h0 => ⟨g, 0, rfl, (Array.getElem?_eq_some_iff.1 hh).1, fun t htl => ?_⟩, hL⟩, fun g' off e => by cases e; exact ⟨hg, rfl⟩⟩
    rw [Nat.zero_add, cell_of_row w g t cur 5 (0, 0) hh, ← Array.getElem?_toList, ← List.getElem?_take_of_lt (show t < n * 1 by omega), ht, by8_get (by omega)]
theorem str_inj {L M : List Int} (hL : Bts L) (hM : Bts M) (h : (strOfNums L).toList = (strOfNums M).toList) : L = M := by
  have h1 : (L.map fun n => UInt8.ofNat n.toNat) = M.map fun n => UInt8.ofNat n.toNat := by
    rw [← strOfNums_data, ← strOfNums_data, ← ByteArray.toList_eq, ← ByteArray.toList_eq, h]
  have hl : L.length = M.length := by simpa using congrArg List.length h1
  refine List.ext_getElem hl fun i h2 h3 => ?_
  have h4 : (L.map fun n => UInt8.ofNat n.toNat)[i]? = (M.map fun n => UInt8.ofNat n.toNat)[i]? := by rw [h1]
  rw [List.getElem?_map, List.getElem?_map, List.getElem?_eq_getElem h2, List.getElem?_eq_getElem h3] at h4
  simp only [Option.map_some, Option.some.injEq] at h4
  have a := hL _ (List.getElem_mem h2)
  have b := hM _ (List.getElem_mem h3)
  have h5 := congrArg UInt8.toNat h4
  simp only [UInt8.toNat_ofNat'] at h5
  omega
theorem str_eq {L M : List Int} (hL : Bts L) (hM : Bts M) : ((strOfNums L).toList == (strOfNums M).toList) = decide (L = M) := by
  by_cases h : L = M
  · subst h; simp
  · rw [decide_eq_false h]
    exact beq_eq_false_iff_ne.2 fun e => h (str_inj hL hM e)
set_option maxRecDepth 100000 in
set_option maxHeartbeats 400000 in
theorem same01_any (sp sp' : Option Addr) (n n' cap cap' : Nat) (L M : List Int) (N N' : Nat) (w : World) (hS : BS N w sp n cap L) (hS' : BS N' w sp' n' cap' M) :
    Calls Try.prog 15 #[.slice sp n cap, .slice sp' n' cap'] w fun e w' => e = .returned (.bool (decide (L = M))) ∧ w' = w := by
  have c1 := conv_bytes sp n cap L w hS.len.out hS.nil hS.sl
  have c2 := conv_bytes sp' n' cap' M w hS'.len.out hS'.nil hS'.sl
  have E := Hid.mk' (str_eq hS.bts hS'.bts)
  go_enter Try.func15, Try.ntmps15
  go_wp2
  go_ret
  exact ⟨by rw [← E.out]; rfl, rfl⟩
set_option maxRecDepth 100000 in
set_option maxHeartbeats 400000 in
/-- bytes.Clone. -/
theorem clone_any (sp : Option Addr) (n cap : Nat) (L : List Int) (N : Nat) (w : World) (hS : BS N w sp n cap L) :
    Calls Try.prog 29 #[.slice sp n cap] w fun e w' => ∃ v, e = .returned v ∧ w'.ownsRow w.heap.size 5 1 v n (by8 L) ∧ Below w.heap.size w w' := by
  have hn := hS.len
  have hsm := hS.small
  have q22 : ∀ (w : World) (a : Option Addr) (n c n' c' : Nat), (binOp .eql 34 (.slice a n c) (.slice none n' c')).run Try.prog w = .ok (.bool a.isNone) w := fun w a n c n' c' => Lib.run_eql_slice_nil w _ _ a n c n' c' Try.underlying34
  cases sp with
  | none =>
    obtain ⟨rfl, rfl⟩ := hS.nil rfl
    go_enter Try.func29, Try.ntmps29
    go_wp2
    go_ret
    obtain rfl : L = [] := List.eq_nil_of_length_eq_zero hn.out.symm
    exact ⟨_, rfl, World.ownsRow_nil _ _ _ _, Below.refl _ _⟩
  | some ad =>
    have hlit : (w.alloc (.cells #[] 5)).ownsRow w.heap.size 5 1 (.slice (some ⟨w.heap.size, 0, none⟩) 0 0) 0 (by8 []) := World.ownsRow_lit _ _ _ (Nat.le_refl _) (by unfold maxLen; omega) rfl
    have hS' := (hS.here.below ((Below.refl _ _).alloc (Nat.le_refl _) (.cells #[] 5))).sl
    go_enter Try.func29, Try.ntmps29
    go_wp2_with (at_builtin; go_must (refine append_bytes (by rfl) (.tmp 5) (.tmp 6) (by rfl) w.heap.size _ 0 [] (by rfl) hlit (some ad) n cap L (by rfl) hn.out (fun e => by cases e) hS' (by omega) (by simp) ?_; intro v1 w1 hown1 hg1))
    go_ret
    refine ⟨v1, rfl, ?_, ((Below.refl _ _).alloc (Nat.le_refl _) _).grown hg1 (by simp) (fun k e => by simp [Value.ownBlock] at e; omega)⟩
    simpa using hown1
end Go.Proofs.Ytnjbmffgbgbjmaa
/- Layer vm: what the layers below give. -/
namespace Go.Proofs.Ytnjbmffgbgbjmaa
open Go.RowKit
set_option maxRecDepth 100000
set_option linter.unusedVariables false
set_option linter.unusedSimpArgs false

/-- An entry: its bytes and where they lie, and its sum. -/
structure En where
  sp : Option Addr
  n : Nat
  cap : Nat
  bs : List Int
  sm : List Int
def En.cells (e : En) : List Value := .slice e.sp e.n e.cap :: by8 e.sm
def En.arr (e : En) : Array Value := e.cells.toArray
structure EnOK (N : Nat) (w : World) (e : En) : Prop where
  body : BS N w e.sp e.n e.cap e.bs
  s32 : e.sm.length = 32
theorem EnOK.below {N : Nat} {w w' : World} {e : En} (h : EnOK N w e) (hb : Below N w w') : EnOK N w' e := ⟨h.body.below hb, h.s32⟩
theorem EnOK.mono {N N' : Nat} {w : World} {e : En} (h : EnOK N w e) (hN : N ≤ N') : EnOK N' w e := ⟨h.body.mono hN, h.s32⟩
theorem EnOK.here {N : Nat} {w : World} {e : En} (h : EnOK N w e) : EnOK w.heap.size w e := ⟨h.body.here, h.s32⟩
theorem En.len {e : En} (h : e.sm.length = 32) : e.cells.length = 33 := by simp [En.cells, by8_len, h]
theorem En.size {e : En} (h : e.sm.length = 32) : e.arr.size = 33 := by simp [En.arr, En.len h]
theorem En.one (e : En) : ∀ v ∈ e.cells, v.oneCell' = true := by
  intro v hv
  rcases List.mem_cons.1 hv with rfl | h
  · rfl
  · exact by8_one _ v h
theorem En.oneA (e : En) : e.arr.all (·.oneCell') = true := all_oneCell_toArray e.one
/-- Entries one behind the other, in blocks below N. -/
structure ES (N : Nat) (w : World) (sp : Option Addr) (n cap : Nat) (es : List En) : Prop where
  len : Hid (n = es.length)
  nil : sp = none → n = 0 ∧ cap = 0
  le : n ≤ cap
  big : cap ≤ 9223372036854775807
  small : n ≤ 140737488355328
  at0 : 0 < n → ∃ g off, sp = some ⟨g, off, none⟩ ∧ g < N ∧ ∀ i e, es[i]? = some e → w.rangeAt g (off + i * 33) e.cells
  ok : ∀ e ∈ es, EnOK N w e
theorem ES.below {N : Nat} {w w' : World} {sp : Option Addr} {n cap : Nat} {es : List En} (h : ES N w sp n cap es) (hb : Below N w w') : ES N w' sp n cap es :=
  ⟨h.len, h.nil, h.le, h.big, h.small, fun h0 => let ⟨b, off, e, hbN, hB⟩ := h.at0 h0; ⟨b, off, e, hbN, fun i X hX => range_below (hB i X hX) hb hbN⟩, fun e he => (h.ok e he).below hb⟩
theorem ES.mono {N N' : Nat} {w : World} {sp : Option Addr} {n cap : Nat} {es : List En} (h : ES N w sp n cap es) (hN : N ≤ N') : ES N' w sp n cap es :=
  ⟨h.len, h.nil, h.le, h.big, h.small, fun h0 => let ⟨b, off, e, hb, hB⟩ := h.at0 h0; ⟨b, off, e, by omega, hB⟩, fun e he => (h.ok e he).mono hN⟩
theorem ES.here {N : Nat} {w : World} {sp : Option Addr} {n cap : Nat} {es : List En} (h : ES N w sp n cap es) : ES w.heap.size w sp n cap es :=
  ⟨h.len, h.nil, h.le, h.big, h.small, fun h0 => by
    obtain ⟨b, off, e, hbN, hB⟩ := h.at0 h0
    refine ⟨b, off, e, ?_, hB⟩
    have hl : 0 < es.length := by rw [← h.len.out]; exact h0
    exact block_lt_of_cell (hB 0 es[0] (List.getElem?_eq_getElem hl) 0 _ rfl), fun e he => (h.ok e he).here⟩
theorem ES.nil0 (N : Nat) (w : World) : ES N w none 0 0 [] := ⟨rfl, fun _ => ⟨rfl, rfl⟩, Nat.le_refl _, by omega, by omega, fun h => absurd h (by omega), fun e h => by cases h⟩
theorem size54 : (Try.prog.info? 72).map (·.size) = some 33 := by kernel_rfl
theorem s54 {e : En} (h : e.sm.length = 32) : (Try.prog.info? 72).map (·.size) = some e.arr.size := by rw [En.size h]; exact size54
theorem rangeE {w : World} {g ty : Nat} {e : En} (h : Arr w g ty e.arr) : w.rangeAt g 0 e.cells := fun j v hv => by
  rw [Nat.zero_add, h.cell]; simpa [En.arr] using hv
theorem range_c0 {w : World} {g o : Nat} {e : En} (h : w.rangeAt g o e.cells) : w.cell? ⟨g, o, none⟩ = some (.slice e.sp e.n e.cap) := by simpa using h 0 _ rfl
theorem range_sm {w : World} {g o : Nat} {e : En} (h : w.rangeAt g o e.cells) : w.rangeAt g (o + 1) (by8 e.sm) := fun j v hv => by
  rw [Nat.add_assoc, Nat.add_comm 1 j]
  exact h (j + 1) v (by simpa [En.cells] using hv)
/-- An entry out of memory. -/
theorem ld54 {ops : Array Oper} {rest : List Oper} {o : Oper} {a : Act} {w : World} {Q : Exit → Act → World → Prop} (hgd : o.guard = none) (x : Operand) (ho : o.op = .load 72 x)
    (b off : Nat) (hx : a.eval x = .pointer (some ⟨b, off, none⟩)) (e : En) (he : e.sm.length = 32) (hc : w.rangeAt b off e.cells)
    (h : wpList Try.prog ops Q rest (a.put o.dst (.agg e.arr)) w) : wpList Try.prog ops Q (o :: rest) a w :=
  wpList_load_mid hgd 72 x ho b off hx e.cells _ hc Try.underlying72 rfl (by rw [En.len he]; exact size54) h
/-- .. into the newest block. -/
theorem st54n {ops : Array Oper} {rest : List Oper} {o : Oper} {a : Act} {Q : Exit → Act → World → Prop} (hgd : o.guard = none) (x y : Operand) (ho : o.op = .store 72 x y) (W : World) (g : Nat) (hgW : W.heap.size = g) {z : Array Value} (hz : z.size = 33)
    (e : En) (hx : a.eval x = .pointer (some ⟨g, 0, none⟩)) (hy : a.eval y = .agg e.arr) (he : e.sm.length = 32)
    (h : wpList Try.prog ops Q rest (a.put o.dst undef) (W.alloc (.cells e.arr 72))) : wpList Try.prog ops Q (o :: rest) a (W.alloc (.cells z 72)) := by
  subst hgW
  exact wpList_store_new W z 72 hgd 72 x y ho e.arr hx hy (s54 he) (by rw [hz, En.size he]) e.oneA h
/-- Do they collide? -/
def hitE (e f : En) : Bool := decide (e.sm = f.sm) && !decide (e.bs = f.bs)
theorem ld24g {ops : Array Oper} {rest : List Oper} {o : Oper} {a : Act} {w : World} {Q : Exit → Act → World → Prop} (hgd : Region.wanted o (yielded ops a.tmps) = true) (x : Operand) (ho : o.op = .load 31 x)
    (b off : Nat) (hx : a.eval x = .pointer (some ⟨b, off, none⟩)) (X : List Int) (hX : X.length = 32) (hc : w.rangeAt b off (by8 X))
    (h : wpList Try.prog ops Q rest (a.put o.dst (.agg (h8 X))) w) : wpList Try.prog ops Q (o :: rest) a w :=
  wpList_want hgd fun _ hK => wp_load_mid 31 x ho b off hx (by8 X) _ hc Try.underlying31 rfl (by rw [by8_len, hX]; exact size24) (hK _ _ h)
end Go.Proofs.Ytnjbmffgbgbjmaa
/- Layer vm: what the layers below give. -/
namespace Go.Proofs.Ytnjbmffgbgbjmaa
open Go.RowKit
set_option maxRecDepth 100000
set_option linter.unusedVariables false
set_option linter.unusedSimpArgs false

/-- Entries, by sums. -/
def entsH (L : List (List Int × Int × Nat)) : List MapEntry := L.map fun x => { key := .agg (h8 x.1), val := .int .i64 x.2.1, born := x.2.2 }
def kvH (L : List (List Int × Int × Nat)) (k : List Int) : Option Int := (L.find? (fun x => decide (x.1 = k))).map (·.2.1)
/-- Block r is a map that has m. -/
def MapH (w : World) (r : Nat) (m : List Int → Option Int) : Prop := ∃ L clock, w.heap[r]? = some (.map (entsH L).toArray clock) ∧ (∀ x ∈ L, x.1.length = 32) ∧ ∀ k, kvH L k = m k
theorem MapH.new (w : World) : MapH (w.alloc (.map #[] 0)) w.heap.size (fun _ => none) := ⟨[], 0, heap_alloc_new w _, (fun x h => by cases h), fun _ => rfl⟩
theorem MapH.same {w w' : World} {r : Nat} {m : List Int → Option Int} (h : MapH w r m) (he : w'.heap[r]? = w.heap[r]?) : MapH w' r m := by
  obtain ⟨L, clock, h1, h2⟩ := h
  exact ⟨L, clock, he.trans h1, h2⟩
theorem MapH.lt {w : World} {r : Nat} {m : List Int → Option Int} (h : MapH w r m) : r < w.heap.size := by
  obtain ⟨L, clock, h1, h2⟩ := h
  exact (Array.getElem?_eq_some_iff.1 h1).1
theorem run_equal29 {X Y : List Int} (hX : X.length = 32) (hY : Y.length = 32) (w : World) : (Op.equal 31 (.agg (h8 X)) (.agg (h8 Y))).run Try.prog w = .ok (decide (X = Y)) w := run_eqIn24 hX hY w
theorem find_ask (k : List Int) (hk : k.length = 32) (w : World) : ∀ (L : List (List Int × Int × Nat)) (i : Nat), (∀ x ∈ L, x.1.length = 32) → (kvH L k = none ∧ (Instr.findAsking 31 (.agg (h8 k)) (entsH L) i).run Try.prog w = .ok none w) ∨ ∃ v j, kvH L k = some v ∧ (Instr.findAsking 31 (.agg (h8 k)) (entsH L) i).run Try.prog w = .ok (some (j, .int .i64 v)) w
  | [], i, _ => .inl ⟨rfl, by simp [entsH, Instr.findAsking]⟩
  | x :: L, i, hl => by
    have hx := hl x (by simp)
    have he := run_equal29 hk hx w
    by_cases h : x.1 = k
    · right
      refine ⟨x.2.1, i, by simp [kvH, h], ?_⟩
      rw [decide_eq_true h.symm] at he
      simp [entsH, Instr.findAsking, Sem.run_bind, he]
    · rw [decide_eq_false (fun e => h e.symm)] at he
      have h1 : kvH (x :: L) k = kvH L k := by simp [kvH, h]
      have h2 : (Instr.findAsking 31 (.agg (h8 k)) (entsH (x :: L)) i).run Try.prog w = (Instr.findAsking 31 (.agg (h8 k)) (entsH L) (i + 1)).run Try.prog w := by
        simp [entsH, Instr.findAsking, Sem.run_bind, he]
      rw [h1, h2]
      exact find_ask k hk w L (i + 1) (fun y hy => hl y (by simp [hy]))
theorem find_key (k : List Int) (hk : k.length = 32) (w : World) (L : List (List Int × Int × Nat)) (hl : ∀ x ∈ L, x.1.length = 32) : (kvH L k = none ∧ (Instr.findKey 31 (.agg (h8 k)) (entsH L)).run Try.prog w = .ok none w) ∨ ∃ v j, kvH L k = some v ∧ (Instr.findKey 31 (.agg (h8 k)) (entsH L)).run Try.prog w = .ok (some (j, .int .i64 v)) w := by
  cases L with
  | nil => exact .inl ⟨rfl, by simp [entsH, Instr.findKey, Instr.findNow, Sem.run_bind, run_underlying Try.underlying31]⟩
  | cons x L =>
    have e : (Instr.findKey 31 (.agg (h8 k)) (entsH (x :: L))).run Try.prog w = (Instr.findAsking 31 (.agg (h8 k)) (entsH (x :: L)) 0).run Try.prog w := by
      simp [entsH, Instr.findKey, Instr.findNow, Instr.sameNow, Sem.run_bind, run_underlying Try.underlying31]
    rw [e]
    exact find_ask k hk w (x :: L) 0 hl
theorem check_byte (b : Bool) (n : Nat) (z : Int) (w : World) : (Instr.checkKey b (n + 1) 5 (.int .u8 z)).run Try.prog w = .ok () w := by
  rw [Instr.checkKey]
  simp only [Sem.run_bind, run_underlying Try.underlying5, Result.andThen_ok]
  rfl
theorem check_sum (X : List Int) (hX : X.length = 32) (w : World) (b : Bool) : (Instr.checkKey b 10000 31 (.agg (h8 X))).run Try.prog w = .ok () w := by
  obtain ⟨i0, hi, -, hz1, -⟩ := info_parts info5
  have hc : Try.prog.cellsOf 5 = 1 := by kernel_rfl
  have each : ∀ j ∈ List.range' 0 32, (part 5 (h8 X) (j * Try.prog.cellsOf 5)).run Try.prog w = .ok (.int .u8 (bat X j)) w := fun j hj => by
    have hj : j < 32 := by simpa using hj
    have hg := h8_get (X := X) (t := j) (by omega)
    have ha := @Try.isAgg5
    simp [part, ha, hc, hg]
  have hb9 : ∀ z : Int, (Instr.checkKey b 9999 5 (.int .u8 z)).run Try.prog w = .ok () w := fun z => check_byte b 9998 z w
  rw [show (10000 : Nat) = 9999 + 1 from rfl, Instr.checkKey]
  simp only [Sem.run_bind, run_underlying Try.underlying31, Result.andThen_ok]
  simp only [Std.Legacy.Range.forIn_eq_forIn_range', Std.Legacy.Range.size, Nat.sub_zero, Nat.add_one_sub_one, Nat.div_one]
  generalize List.range' 0 32 = is at each
  induction is with
  | nil => simp
  | cons j is ih =>
    have p1 := each j (by simp)
    simp only [List.forIn_cons, Sem.run_bind, run_sizeOf w hi, Result.andThen_ok, p1, hb9, Sem.run_pure]
    exact ih (fun y hy => each y (by simp [hy]))
theorem run_lookupH {w : World} {r : Nat} {m : List Int → Option Int} (h : MapH w r m) (k : List Int) (hk : k.length = 32) :
    (Instr.lookup 77 (.map (some r)) (.agg (h8 k)) true).run Try.prog w = .ok (.tuple #[.int .i64 ((m k).getD 0), .bool (m k).isSome]) w := by
  obtain ⟨L, clock, h1, hl, h2⟩ := h
  have hg : (getObj r).run Try.prog w = .ok (.map (entsH L).toArray clock) w := by simp [getObj, Sem.run, h1]
  have hck := check_sum k hk w
  have hz : (zeroValue 3).run Try.prog w = .ok (.int .i64 0) w := by kernel_rfl
  rw [← h2]
  rcases find_key k hk w L hl with ⟨e1, e2⟩ | ⟨v, j, e1, e2⟩
  · simp [Instr.lookup, Sem.run_bind, run_underlying Try.underlying77, hg, hck, e1, e2, Result.andThen, hz]
  · simp [Instr.lookup, Sem.run_bind, run_underlying Try.underlying77, hg, hck, e1, e2, Result.andThen]
theorem run_updateH {w : World} {r : Nat} {m : List Int → Option Int} (h : MapH w r m) (k : List Int) (hk : k.length = 32) (v : Int) (hno : m k = none) :
    ∃ o, (Instr.mapUpdate 77 (.map (some r)) (.agg (h8 k)) (.int .i64 v)).run Try.prog w = .ok () (w.putObj r o) ∧ MapH (w.putObj r o) r (fun j => if j = k then some v else m j) := by
  obtain ⟨L, clock, h1, hl, h2⟩ := h
  have hlt := (Array.getElem?_eq_some_iff.1 h1).1
  have hg : (getObj r).run Try.prog w = .ok (.map (entsH L).toArray clock) w := by simp [getObj, Sem.run, h1]
  have hs : ∀ o, (setObj r o).run Try.prog w = .ok () (w.putObj r o) := fun o => by simp [setObj, Sem.run, h1, World.putObj]
  have hck := check_sum k hk w
  rcases find_key k hk w L hl with ⟨e1, e2⟩ | ⟨v', j, e1, e2⟩
  · refine ⟨.map ((entsH L).toArray.push { key := .agg (h8 k), val := .int .i64 v, born := clock }) (clock + 1), ?_, L ++ [(k, v, clock)], clock + 1, ?_, ?_, fun j => ?_⟩
    · simp [Instr.mapUpdate, Sem.run_bind, run_underlying Try.underlying77, hg, hck, hs, e2, Result.andThen]
    · rw [World.putObj_heap_same hlt]; simp [entsH]
    · intro x hx
      rcases List.mem_append.1 hx with hx | hx
      · exact hl x hx
      · simp at hx; subst hx; exact hk
    · have : kvH (L ++ [(k, v, clock)]) j = (kvH L j).or (if j = k then some v else none) := by
        simp only [kvH, List.find?_append, Option.map_or]
        congr 1
        by_cases e : j = k
        · subst e; simp
        · simp [e, Ne.symm e]
      rw [this, h2]
      by_cases e : j = k
      · subst e; rw [hno]; simp
      · simp [e]
  · rw [h2, hno] at e1; cases e1
end Go.Proofs.Ytnjbmffgbgbjmaa
/- Layer vm: what the layers below give. -/
namespace Go.Proofs.Ytnjbmffgbgbjmaa
open Go.RowKit
set_option maxRecDepth 100000
set_option linter.unusedVariables false
set_option linter.unusedSimpArgs false

/-- A climber in block g. -/
structure CL (w : World) (g : Nat) (m : Int) (X : List Int) : Prop where
  c0 : w.cell? ⟨g, 0, none⟩ = some (.func (Fn.func 38) #[] #[])
  c1 : w.cell? ⟨g, 1, none⟩ = some (.int .i64 m)
  rg : w.rangeAt g 2 (by8 X)
  th : w.there g 0 34
end Go.Proofs.Ytnjbmffgbgbjmaa
/- Layer vm: what the layers below give. -/
namespace Go.Proofs.Ytnjbmffgbgbjmaa
open Go.RowKit Go.Shelf
set_option maxRecDepth 100000
set_option linter.unusedVariables false
set_option linter.unusedSimpArgs false
attribute [local go_sem] Oper.semAt_some

theorem CL.block {w w' : World} {g : Nat} {m : Int} {X : List Int} (h : CL w g m X) (hb : w'.heap[g]? = w.heap[g]?) : CL w' g m X := by
  refine ⟨(World.cell?_of_block (w := w) (a := ⟨g, 0, none⟩) hb).trans h.c0, (World.cell?_of_block (w := w) (a := ⟨g, 1, none⟩) hb).trans h.c1, fun j v hv => (World.cell?_of_block (w := w) (a := ⟨g, 2 + j, none⟩) hb).trans (h.rg j v hv), fun j hj => ⟨?_, ?_⟩⟩
  · rw [World.cell?_of_block (w := w) (a := ⟨g, 0 + j, none⟩) hb]; exact (h.th j hj).1
  · have h2 := (h.th j hj).2; simp only [World.frozen?] at h2 ⊢; rw [hb]; exact h2
end Go.Proofs.Ytnjbmffgbgbjmaa
/- Layer vm: what the layers below give. -/
namespace Go.Proofs.Ytnjbmffgbgbjmaa
open Go.RowKit
set_option maxRecDepth 100000
set_option linter.unusedVariables false
set_option linter.unusedSimpArgs false

/-- Nothing that was there has changed but some blocks. -/
structure Chg (S : Nat → Prop) (w w' : World) : Prop where
  os : w'.os = w.os
  tape : w'.tape = w.tape
  output : w'.output = w.output
  size : w.heap.size ≤ w'.heap.size
  block : ∀ b, b < w.heap.size → ¬ S b → w'.heap[b]? = w.heap[b]?
theorem Chg.refl (S : Nat → Prop) (w : World) : Chg S w w := ⟨rfl, rfl, rfl, Nat.le_refl _, fun _ _ _ => rfl⟩
theorem Chg.trans {S : Nat → Prop} {a b c : World} (h : Chg S a b) (k : Chg S b c) : Chg S a c :=
  ⟨k.os.trans h.os, k.tape.trans h.tape, k.output.trans h.output, Nat.le_trans h.size k.size, fun i hi hs => (k.block i (Nat.lt_of_lt_of_le hi h.size) hs).trans (h.block i hi hs)⟩
theorem Chg.of_below {S : Nat → Prop} {a b : World} (h : Below a.heap.size a b) : Chg S a b := ⟨h.os, h.tape, h.output, h.size, fun i hi _ => h.block i hi⟩
theorem Chg.alloc {S : Nat → Prop} {a b : World} (h : Chg S a b) (o : Obj) : Chg S a (b.alloc o) :=
  h.trans (Chg.of_below (alloc_bel' b o))
theorem Chg.setCell {S : Nat → Prop} {a b : World} (h : Chg S a b) {g j : Nat} (v : Value) (hg : g < a.heap.size → S g) : Chg S a (b.setCell ⟨g, j, none⟩ v) :=
  ⟨h.os, h.tape, h.output, by simpa [World.setCell] using h.size, fun i hi hs => (Below.heap_setCell _ _ _ _ (fun e => hs (by have e : i = g := e; subst e; exact hg hi))).trans (h.block i hi hs)⟩
end Go.Proofs.Ytnjbmffgbgbjmaa
/- Layer vm: what the layers below give. -/
namespace Go.Proofs.Ytnjbmffgbgbjmaa
open Go.RowKit
set_option maxRecDepth 100000
set_option linter.unusedVariables false
set_option linter.unusedSimpArgs false

theorem u8s_one (n : Nat) (f : Nat → Int) : (u8s n f).all (·.oneCell') = true := one_ints (u8s_size n f) (fun _ h => u8s_get h)
theorem s24u8 (f : Nat → Int) : (Try.prog.info? 31).map (·.size) = some (u8s 32 f).size := by rw [u8s_size]; exact size24
end Go.Proofs.Ytnjbmffgbgbjmaa
