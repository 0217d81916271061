/- Tl, Mb, Mh, Ca, La, ZVa, ZVf, ZVs, ZWe. -/
import Derived.Test.YtimmiidkjpbffaaX01
import Derived.BigQuiet
import Derived.BigRegion
import Derived.ChangeKeysEq
import Derived.Deep.DeepCutAuto
import Derived.Deep.DrawnRows
import Derived.Deep.QuietTactic
import Derived.Deep.RegionHeld3
import Derived.Deep.RegionLaw
import Derived.Deep.RegionWith
import Derived.Deep.WholeRow
import Derived.Laws.AppendOwnNone
import Derived.Laws.BytesArg
import Derived.Laws.CopyOwn
import Derived.Lib.SlBytesConst
import Derived.WalkKit
import Derived.WalkLawsBesides
import Derived.WalkSpells
import Derived.Deep.MidRow
import Derived.Laws.BitsLemmas
import Derived.LoopIn
import Derived.LoopNIn
import Derived.OwnWalkIn
import Derived.RangeFuncBound
import Derived.RangeFuncCalls
import Derived.RangeFuncLeaves
import Derived.RangeFuncNested
import Derived.RangeFuncRecord
import Derived.Shelf.Abstract
import Derived.Shelf.RegionOpen
import Derived.TacticsInMore
import Derived.ChangeOld
import Derived.Great.BuildSlice
import Derived.Great.FillDense
import Derived.Laws.OwnMore
import Derived.Laws.Tables
import Derived.Maps.AppendAt
import Derived.OpenShut
import Derived.ProofKit
import Derived.ShutString
import Derived.SizedLaws
import Derived.Test.YtimmiidkjpbffaaRows
import Derived.DeepKeys3
import Derived.Laws.ResultCell
import Derived.Recover
import Derived.Deep.OwnRows
/- Layer compile: what the layers below give. -/
namespace Go.Proofs.Ytimmiidkjpbffaa
open Go.RowKit
set_option maxRecDepth 100000
set_option linter.unusedVariables false
set_option linter.unusedSimpArgs false

theorem Sl.grown {w w' : World} {sp : Option Addr} {r : Nat} {B : Nat → Int} {row : Option Nat} (h : Sl w sp r B) (hg : w.grownBy w' row) (hr : ∀ b off, sp = some ⟨b, off, none⟩ → 0 < r → some b ≠ row) : Sl w' sp r B := fun h0 => by
  obtain ⟨b, off, rfl, hB⟩ := h h0
  refine ⟨b, off, rfl, fun t ht => ?_⟩
  rw [World.cell?_of_block (w := w) (a := ⟨b, off + t, none⟩) (hg.block b (block_lt_of_cell (hB t ht)) (hr b off rfl h0))]
  exact hB t ht
theorem Arr.grown {w w' : World} {g ty : Nat} {C : Array Value} {row : Option Nat} (h : Arr w g ty C) (hg : w.grownBy w' row) (hr : some g ≠ row) : Arr w' g ty C := by
  have := hg.block g h.lt hr
  unfold Arr at h ⊢; rw [this]; exact h
theorem Sl.lt {w : World} {b off r : Nat} {B : Nat → Int} (h : Sl w (some ⟨b, off, none⟩) r B) (h0 : 0 < r) : b < w.heap.size := by
  obtain ⟨b', off', e, hB⟩ := h h0
  cases e
  exact block_lt_of_cell (hB 0 h0)
theorem sha_size (L : List Int) : (sha L).size = 32 := u8s_size _ _
theorem s24sha (L : List Int) : (Try.prog.info? 130).map (·.size) = some (sha L).size := by rw [sha_size]; exact size24
theorem sha_get (L : List Int) : ∀ t, t < 32 → (sha L)[t]? = some (.int .u8 (shaB (bat L) L.length t)) := fun _ h => u8s_get h
theorem sha_one (L : List Int) : (sha L).all (·.oneCell') = true := one_ints (sha_size L) (sha_get L)
/-- A sum by value. -/
def h8 (X : List Int) : Array Value := (by8 X).toArray
end Go.Proofs.Ytimmiidkjpbffaa
/- Layer compile: what the layers below give. -/
namespace Go.Proofs.Ytimmiidkjpbffaa
open Go.RowKit
set_option maxRecDepth 100000
set_option linter.unusedVariables false
set_option linter.unusedSimpArgs false

theorem alloc_bel' (w : World) (o : Obj) : Below w.heap.size w (w.alloc o) := (Below.refl _ _).alloc (Nat.le_refl _) o
theorem h8_get {X : List Int} {t : Nat} (h : t < X.length) : (h8 X)[t]? = some (.int .u8 (bat X t)) := by
  simpa [h8] using by8_get h
theorem eqItems_two (w : World) (d : Nat) (C D : Array Value) (f g : Nat → Int) :
    ∀ is : List Nat, (∀ i ∈ is, C[i]? = some (.int .u8 (f i))) → (∀ i ∈ is, D[i]? = some (.int .u8 (g i))) → (Op.eqItems (d + 1) 5 1 C D is).run Try.prog w = .ok (is.all fun i => f i == g i) w
  | [], _, _ => by simp [Op.eqItems]
  | i :: is, h, h' => by
    have hi := h i (by simp)
    have hi' := h' i (by simp)
    have ih := eqItems_two w d C D f g is (fun j hj => h j (by simp [hj])) (fun j hj => h' j (by simp [hj]))
    have ha := @Try.isAgg5
    by_cases he : f i = g i
    · simp [Op.eqItems, part, ha, hi, hi', run_equalIn_int w d 5 .u8 .u8 _ _ Try.underlying5, ih, he]
    · simp [Op.eqItems, part, ha, hi, hi', run_equalIn_int w d 5 .u8 .u8 _ _ Try.underlying5, ih, he]
theorem bat_ext {X Y : List Int} (hX : X.length = 32) (hY : Y.length = 32) : ((List.range 32).all fun i => bat X i == bat Y i) = decide (X = Y) := by
  rw [Bool.eq_iff_iff]
  simp only [List.all_eq_true, List.mem_range, beq_iff_eq, decide_eq_true_eq]
  constructor
  · intro h
    apply List.ext_getElem (by omega)
    intro i h1 h2
    have := h i (by omega)
    simpa [bat, List.getD_eq_getElem?_getD, List.getElem?_eq_getElem, h1, h2] using this
  · rintro rfl i _; rfl
theorem run_eqIn24 {X Y : List Int} (hX : X.length = 32) (hY : Y.length = 32) (w : World) : (Op.equalIn 10000 130 (.agg (h8 X)) (.agg (h8 Y))).run Try.prog w = .ok (decide (X = Y)) w := by
  obtain ⟨i0, hi, -⟩ := info_parts info5
  have hc : Try.prog.cellsOf 5 = 1 := by kernel_rfl
  rw [run_equalIn_array w 9999 _ _ Try.underlying130 hi, hc, eqItems_two w 9998 _ _ (bat X) (bat Y) (List.range 32) (fun i h => h8_get (by rw [hX]; simpa using h)) (fun i h => h8_get (by rw [hY]; simpa using h)), bat_ext hX hY]
theorem run_eq24 {X Y : List Int} (hX : X.length = 32) (hY : Y.length = 32) (w : World) : (binOp .eql 130 (.agg (h8 X)) (.agg (h8 Y))).run Try.prog w = .ok (.bool (decide (X = Y))) w := by
  rw [run_eql_struct, run_eqIn24 hX hY]; rfl
theorem range_below {w w' : World} {B b o : Nat} {cs : List Value} (h : w.rangeAt b o cs) (hb : Below B w w') (hlt : b < B) : w'.rangeAt b o cs := fun j v hv => (hb.cell (p := ⟨b, o + j, none⟩) hlt).trans (h j v hv)
theorem there_below {w w' : World} {B b o n : Nat} (h : w.there b o n) (hb : Below B w w') (hlt : b < B) : w'.there b o n := fun j hj =>
  ⟨by rw [hb.cell (p := ⟨b, o + j, none⟩) hlt]; exact (h j hj).1, by have h2 := (h j hj).2; simp only [World.frozen?] at h2 ⊢; rw [hb.block b hlt]; exact h2⟩
theorem Arr.range {w : World} {g ty : Nat} {X : List Int} (h : Arr w g ty (h8 X)) : w.rangeAt g 0 (by8 X) := fun j v hv => by
  rw [Nat.zero_add, h.cell]; simpa [h8] using hv
/-- A slice of sums. -/
structure HS (N : Nat) (w : World) (sp : Option Addr) (n cap : Nat) (ls : List (List Int)) : Prop where
  len : Hid (n = ls.length)
  nil : sp = none → n = 0 ∧ cap = 0
  le : n ≤ cap
  big : cap ≤ 9223372036854775807
  small : n ≤ 140737488355328
  at0 : 0 < n → ∃ g off, sp = some ⟨g, off, none⟩ ∧ g < N ∧ ∀ i X, ls[i]? = some X → w.rangeAt g (off + i * 32) (by8 X)
  l32 : ∀ X ∈ ls, X.length = 32
theorem HS.mono {N N' : Nat} {w : World} {sp : Option Addr} {n cap : Nat} {ls : List (List Int)} (h : HS N w sp n cap ls) (hN : N ≤ N') : HS N' w sp n cap ls :=
  ⟨h.len, h.nil, h.le, h.big, h.small, fun h0 => let ⟨b, off, e, hb, hB⟩ := h.at0 h0; ⟨b, off, e, by omega, hB⟩, h.l32⟩
theorem HS.below {N : Nat} {w w' : World} {sp : Option Addr} {n cap : Nat} {ls : List (List Int)} (h : HS N w sp n cap ls) (hb : Below N w w') : HS N w' sp n cap ls :=
  ⟨h.len, h.nil, h.le, h.big, h.small, fun h0 => let ⟨b, off, e, hbN, hB⟩ := h.at0 h0; ⟨b, off, e, hbN, fun i X hX => range_below (hB i X hX) hb hbN⟩, h.l32⟩
theorem HS.here {N : Nat} {w : World} {sp : Option Addr} {n cap : Nat} {ls : List (List Int)} (h : HS N w sp n cap ls) : HS w.heap.size w sp n cap ls :=
  ⟨h.len, h.nil, h.le, h.big, h.small, fun h0 => by
    obtain ⟨b, off, e, hbN, hB⟩ := h.at0 h0
    refine ⟨b, off, e, ?_, hB⟩
    have hl : 0 < ls.length := by rw [← h.len.out]; exact h0
    have hX := hB 0 ls[0] (List.getElem?_eq_getElem hl)
    have h32 := h.l32 ls[0] (List.getElem_mem hl)
    exact block_lt_of_cell (hX 0 _ (by8_get (by omega))), h.l32⟩
theorem HS.nil0 (N : Nat) (w : World) : HS N w none 0 0 [] := ⟨rfl, fun _ => ⟨rfl, rfl⟩, Nat.le_refl _, by omega, by omega, fun h => absurd h (by omega), fun X h => by cases h⟩
end Go.Proofs.Ytimmiidkjpbffaa
/- Layer compile: what the layers below give. -/
namespace Go.Proofs.Ytimmiidkjpbffaa
open Go.RowKit
set_option maxRecDepth 100000
set_option linter.unusedVariables false
set_option linter.unusedSimpArgs false

/-- The array of halves that wait, in memory. -/
structure LV (w : World) (g : Nat) (W : Nat → List Int) : Prop where
  rg : ∀ k, k < 17 → w.rangeAt g (k * 32) (by8 (W k))
  l32 : ∀ k, (W k).length = 32
  th : w.there g 0 544
theorem LV.below {w w' : World} {g B : Nat} {W : Nat → List Int} (h : LV w g W) (hb : Below B w w') (hg : g < B) : LV w' g W :=
  ⟨fun k hk => range_below (h.rg k hk) hb hg, h.l32, there_below h.th hb hg⟩
theorem LV.lt {w : World} {g : Nat} {W : Nat → List Int} (h : LV w g W) : g < w.heap.size := by
  have := (h.th 0 (by omega)).1
  obtain ⟨v, hv⟩ := Option.isSome_iff_exists.1 this
  exact block_lt_of_cell hv
theorem LV.set {w : World} {g : Nat} {W : Nat → List Int} (h : LV w g W) {k : Nat} (hk : k < 17) {r : List Int} (hr : r.length = 32) : LV (w.setCells g (k * 32) (by8 r)) g (fun j => if j = k then r else W j) := by
  refine ⟨fun j hj => ?_, fun j => ?_, World.there_setCells h.th _ _ _⟩
  · show World.rangeAt _ _ _ (by8 (if j = k then r else W j))
    by_cases e : j = k
    · subst e
      rw [if_pos rfl]
      exact World.rangeAt_setCells_same _ _ _ _ (fun i hi => by
        rw [by8_len, hr] at hi
        have := h.th (j * 32 + i) (by omega)
        rwa [Nat.zero_add] at this)
    · rw [if_neg e]
      refine World.rangeAt_setCells_apart (h.rg j hj) _ _ _ (.inr ?_)
      rw [by8_len, by8_len, hr, h.l32]
      omega
  · show (if j = k then r else W j).length = 32
    split
    · exact hr
    · exact h.l32 j
end Go.Proofs.Ytimmiidkjpbffaa
/- Layer compile: what the layers below give. -/
namespace Go.Proofs.Ytimmiidkjpbffaa
open Go.RowKit
set_option maxRecDepth 100000
set_option linter.unusedVariables false
set_option linter.unusedSimpArgs false

/-- All are bytes. -/
def Bts (L : List Int) : Prop := ∀ x ∈ L, 0 ≤ x ∧ x ≤ 255
theorem Bts.nil : Bts [] := by simp [Bts]
theorem Bytes.belowB {w w' : World} {b off n B : Nat} {f : Nat → Int} (h : Bytes w b off n f) (hb : Below B w w') (hlt : b < B) : Bytes w' b off n f := fun t ht => (hb.cell (p := ⟨b, off + t, none⟩) hlt).trans (h t ht)
/-- A slice of bytes in blocks below N. -/
structure BS (N : Nat) (w : World) (sp : Option Addr) (n cap : Nat) (L : List Int) : Prop where
  len : Hid (n = L.length)
  nil : sp = none → n = 0 ∧ cap = 0
  le : n ≤ cap
  big : cap ≤ 9223372036854775807
  small : n ≤ 140737488355000
  at0 : 0 < n → ∃ b off, sp = some ⟨b, off, none⟩ ∧ b < N ∧ Bytes w b off n (bat L)
  bts : Bts L
theorem BS.mono {N N' : Nat} {w : World} {sp : Option Addr} {n cap : Nat} {L : List Int} (h : BS N w sp n cap L) (hN : N ≤ N') : BS N' w sp n cap L :=
  ⟨h.len, h.nil, h.le, h.big, h.small, fun h0 => let ⟨b, off, e, hb, hB⟩ := h.at0 h0; ⟨b, off, e, by omega, hB⟩, h.bts⟩
theorem BS.below {N : Nat} {w w' : World} {sp : Option Addr} {n cap : Nat} {L : List Int} (h : BS N w sp n cap L) (hb : Below N w w') : BS N w' sp n cap L :=
  ⟨h.len, h.nil, h.le, h.big, h.small, fun h0 => let ⟨b, off, e, hbN, hB⟩ := h.at0 h0; ⟨b, off, e, hbN, hB.belowB hb hbN⟩, h.bts⟩
theorem BS.here {N : Nat} {w : World} {sp : Option Addr} {n cap : Nat} {L : List Int} (h : BS N w sp n cap L) : BS w.heap.size w sp n cap L :=
  ⟨h.len, h.nil, h.le, h.big, h.small, fun h0 => let ⟨b, off, e, hbN, hB⟩ := h.at0 h0; ⟨b, off, e, block_lt_of_cell (hB 0 h0), hB⟩, h.bts⟩
theorem BS.sl {N : Nat} {w : World} {sp : Option Addr} {n cap : Nat} {L : List Int} (h : BS N w sp n cap L) : SlL w sp L := fun h0 => by
  have e := h.len.out
  obtain ⟨b, off, e1, -, hB⟩ := h.at0 (by omega)
  exact ⟨b, off, e1, by rw [← e]; exact hB⟩
theorem BS.nil0 (N : Nat) (w : World) : BS N w none 0 0 [] := ⟨rfl, fun _ => ⟨rfl, rfl⟩, Nat.le_refl _, by omega, by omega, fun h => absurd h (by omega), Bts.nil⟩
/-- .. where no block of it is turned. -/
theorem BS.grown {N : Nat} {w w' : World} {sp : Option Addr} {n cap g : Nat} {L : List Int} (h : BS N w sp n cap L) (hg : w.grownBy w' (some g)) (hne : ∀ b off, sp = some ⟨b, off, none⟩ → b ≠ g) : BS N w' sp n cap L :=
  ⟨h.len, h.nil, h.le, h.big, h.small, fun h0 => by
    obtain ⟨b, off, e, hbN, hB⟩ := h.at0 h0
    refine ⟨b, off, e, hbN, fun t ht => ?_⟩
    rw [World.cell?_of_block (w := w) (a := ⟨b, off + t, none⟩) (hg.block b (block_lt_of_cell (hB t ht)) (fun e' => hne b off e (Option.some.inj e')))]
    exact hB t ht, h.bts⟩
/-- What an own slice looks like. -/
theorem own_bs {w : World} {base n : Nat} {v : Value} {L : List Int} (h : w.ownsRow base 5 1 v n (by8 L)) (hL : Bts L) (hs : n ≤ 140737488355000) :
    ∃ sp cap, v = .slice sp n cap ∧ BS w.heap.size w sp n cap L ∧ (∀ g off, sp = some ⟨g, off, none⟩ → base ≤ g ∧ off = 0) := by
  obtain ⟨hl, h | ⟨g, cap, cur, rfl, hg, hh, hn, hm, hc, ht⟩⟩ := h
  · obtain ⟨rfl, rfl⟩ := h
    rw [by8_len] at hl
    refine ⟨none, 0, rfl, ⟨show _ = _ by omega, fun _ => ⟨rfl, rfl⟩, by omega, by omega, by omega, fun h0 => by omega, hL⟩, fun g off e => by cases e⟩
  · rw [by8_len, Nat.mul_one] at hl
    refine ⟨_, cap, rfl, ⟨show _ = _ by omega, (fun e => by cases e), hn, by unfold maxLen at hm; omega, hs, fun h0 => ⟨g, 0, rfl, (Array.getElem?_eq_some_iff.1 hh).1, fun t htl => ?_⟩, hL⟩, fun g' off e => by cases e; exact ⟨hg, rfl⟩⟩
    rw [Nat.zero_add, cell_of_row w g t cur 5 (0, 0) hh, ← Array.getElem?_toList, ← List.getElem?_take_of_lt (show t < n * 1 by omega), ht, by8_get (by omega)]
end Go.Proofs.Ytimmiidkjpbffaa
/- Layer compile: what the layers below give. -/
namespace Go.Proofs.Ytimmiidkjpbffaa
open Go.RowKit
set_option maxRecDepth 100000
set_option linter.unusedVariables false
set_option linter.unusedSimpArgs false

/-- Nothing that was there has changed but some blocks. -/
structure Chg (S : Nat → Prop) (w w' : World) : Prop where
  os : w'.os = w.os
  tape : w'.tape = w.tape
  output : w'.output = w.output
  size : w.heap.size ≤ w'.heap.size
  block : ∀ b, b < w.heap.size → ¬ S b → w'.heap[b]? = w.heap[b]?
theorem Chg.refl (S : Nat → Prop) (w : World) : Chg S w w := ⟨rfl, rfl, rfl, Nat.le_refl _, fun _ _ _ => rfl⟩
theorem Chg.trans {S : Nat → Prop} {a b c : World} (h : Chg S a b) (k : Chg S b c) : Chg S a c :=
  ⟨k.os.trans h.os, k.tape.trans h.tape, k.output.trans h.output, Nat.le_trans h.size k.size, fun i hi hs => (k.block i (Nat.lt_of_lt_of_le hi h.size) hs).trans (h.block i hi hs)⟩
theorem Chg.mono {S T : Nat → Prop} {a b : World} (h : Chg S a b) (hST : ∀ i, i < a.heap.size → S i → T i) : Chg T a b :=
  ⟨h.os, h.tape, h.output, h.size, fun i hi ht => h.block i hi fun hs => ht (hST i hi hs)⟩
theorem Chg.of_below {S : Nat → Prop} {a b : World} (h : Below a.heap.size a b) : Chg S a b := ⟨h.os, h.tape, h.output, h.size, fun i hi _ => h.block i hi⟩
theorem Chg.below {S : Nat → Prop} {a b : World} {N : Nat} (h : Chg S a b) (hN : ∀ i, i < N → i < a.heap.size ∧ ¬ S i) : Below N a b := ⟨h.os, h.tape, h.output, h.size, fun i hi => h.block i (hN i hi).1 (hN i hi).2⟩
theorem Chg.alloc {S : Nat → Prop} {a b : World} (h : Chg S a b) (o : Obj) : Chg S a (b.alloc o) :=
  h.trans (Chg.of_below (alloc_bel' b o))
theorem Chg.grown {S : Nat → Prop} {a b c : World} {row : Option Nat} (h : Chg S a b) (hg : b.grownBy c row) (hr : ∀ k, k < a.heap.size → row = some k → S k) : Chg S a c :=
  ⟨hg.os.trans h.os, hg.tape.trans h.tape, hg.output.trans h.output, Nat.le_trans h.size hg.size, fun i hi hs => (hg.block i (Nat.lt_of_lt_of_le hi h.size) (fun e => hs (hr i hi e.symm))).trans (h.block i hi hs)⟩
end Go.Proofs.Ytimmiidkjpbffaa
/- Layer compile: what the layers below give. -/
namespace Go.Proofs.Ytimmiidkjpbffaa
open Go.RowKit
set_option maxRecDepth 100000
set_option linter.unusedVariables false
set_option linter.unusedSimpArgs false

/-- Is it a number of 64 bits? -/
def U64 (x : Int) : Prop := 0 ≤ x ∧ x < 18446744073709551616
theorem U64.wrap (x : Int) : U64 (IntKind.u64.wrap x) := by
  simp only [IntKind.wrap, IntKind.bits, IntKind.signed]
  unfold U64
  simp
  omega
end Go.Proofs.Ytimmiidkjpbffaa
/- Layer compile: what the layers below give. -/
namespace Go.Proofs.Ytimmiidkjpbffaa
open Go.RowKit
set_option maxRecDepth 100000
set_option linter.unusedVariables false
set_option linter.unusedSimpArgs false

/-- A machine, as numbers. -/
structure Mc where
  pc : Int
  rg : List Int
  st : Int
  me : List Int
structure Mc.ok (m : Mc) : Prop where
  pc : U64 m.pc
  r16 : m.rg.length = 16
  rg : ∀ k, U64 (m.rg.getD k 0)
  st : 0 ≤ m.st ∧ m.st < 256
  me : ∀ k, U64 (m.me.getD k 0)
/-- Words as they lie. -/
def by64 (L : List Int) : List Value := L.map (Value.int .u64)
theorem by64_len (L : List Int) : (by64 L).length = L.length := by simp [by64]
def mcL (m : Mc) (v : Value) : List Value := .int .u64 m.pc :: (by64 m.rg ++ [.int .u8 m.st, v])
theorem mcL_len {m : Mc} (h : m.rg.length = 16) (v : Value) : (mcL m v).length = 19 := by simp [mcL, by64_len, h]
/-- Words in block gm. -/
def MW (w : World) (gm : Nat) (L : List Int) : Prop := ∃ C : Array Value, Arr w gm 25 C ∧ ∀ t, t < L.length → C[t]? = some (.int .u64 (L.getD t 0))
theorem MW.cell {w : World} {gm : Nat} {L : List Int} (h : MW w gm L) {t : Nat} (ht : t < L.length) : w.cell? ⟨gm, t, none⟩ = some (.int .u64 (L.getD t 0)) := by
  obtain ⟨C, hA, hC⟩ := h
  rw [hA.cell]; exact hC t ht
theorem MW.lt {w : World} {gm : Nat} {L : List Int} (h : MW w gm L) : gm < w.heap.size := by
  obtain ⟨C, hA, hC⟩ := h
  exact hA.lt
theorem MW.below {w w' : World} {gm B : Nat} {L : List Int} (h : MW w gm L) (hb : Below B w w') (hg : gm < B) : MW w' gm L := by
  obtain ⟨C, hA, hC⟩ := h
  exact ⟨C, hA.below hb hg, hC⟩
end Go.Proofs.Ytimmiidkjpbffaa
/- Layer compile: what the layers below give. -/
namespace Go.Proofs.Ytimmiidkjpbffaa
open Go.RowKit
set_option maxRecDepth 100000
set_option linter.unusedVariables false
set_option linter.unusedSimpArgs false

/-- Words in memory, wherever. -/
structure MS (N : Nat) (w : World) (sp : Option Addr) (n cap : Nat) (L : List Int) : Prop where
  len : Hid (n = L.length)
  nil : sp = none → n = 0 ∧ cap = 0
  le : n ≤ cap
  big : cap ≤ 9223372036854775807
  small : n ≤ 17592186044416
  at0 : 0 < n → ∃ g off, sp = some ⟨g, off, none⟩ ∧ g < N ∧ ∀ t, t < n → w.cell? ⟨g, off + t, none⟩ = some (.int .u64 (L.getD t 0))
theorem MS.mono {N N' : Nat} {w : World} {sp : Option Addr} {n cap : Nat} {L : List Int} (h : MS N w sp n cap L) (hN : N ≤ N') : MS N' w sp n cap L :=
  ⟨h.len, h.nil, h.le, h.big, h.small, fun h0 => let ⟨b, off, e, hb, hB⟩ := h.at0 h0; ⟨b, off, e, by omega, hB⟩⟩
theorem MS.below {N : Nat} {w w' : World} {sp : Option Addr} {n cap : Nat} {L : List Int} (h : MS N w sp n cap L) (hb : Below N w w') : MS N w' sp n cap L :=
  ⟨h.len, h.nil, h.le, h.big, h.small, fun h0 => let ⟨b, off, e, hbN, hB⟩ := h.at0 h0; ⟨b, off, e, hbN, fun t ht => (hb.cell (p := ⟨b, off + t, none⟩) hbN).trans (hB t ht)⟩⟩
theorem MS.here {N : Nat} {w : World} {sp : Option Addr} {n cap : Nat} {L : List Int} (h : MS N w sp n cap L) : MS w.heap.size w sp n cap L :=
  ⟨h.len, h.nil, h.le, h.big, h.small, fun h0 => let ⟨b, off, e, hb, hB⟩ := h.at0 h0; ⟨b, off, e, block_lt_of_cell (hB 0 h0), hB⟩⟩
theorem MS.nil0 (N : Nat) (w : World) : MS N w none 0 0 [] := ⟨rfl, fun _ => ⟨rfl, rfl⟩, Nat.le_refl _, by omega, by omega, fun h => absurd h (by omega)⟩
/-- A machine by value. -/
def mcA (m : Mc) (sp : Option Addr) (n cap : Nat) : Array Value := (mcL m (.slice sp n cap)).toArray
theorem mcA_size {m : Mc} (h : m.rg.length = 16) (sp : Option Addr) (n cap : Nat) : (mcA m sp n cap).size = 19 := by simp [mcA, mcL_len h]
end Go.Proofs.Ytimmiidkjpbffaa
/- Layer compile: what the layers below give. -/
namespace Go.Proofs.Ytimmiidkjpbffaa
open Go.RowKit
set_option maxRecDepth 100000
set_option linter.unusedVariables false
set_option linter.unusedSimpArgs false

/-- A machine by value, and its memory. -/
structure MVV (w : World) (m : Mc) (C : Array Value) : Prop where
  ex : ∃ sp n cap, C = mcA m sp n cap ∧ MS w.heap.size w sp n cap m.me
  ok : m.ok
theorem MVV.size {w : World} {m : Mc} {C : Array Value} (h : MVV w m C) : C.size = 19 := by
  obtain ⟨sp, n, cap, rfl, -⟩ := h.ex
  exact mcA_size h.ok.r16 _ _ _
end Go.Proofs.Ytimmiidkjpbffaa
