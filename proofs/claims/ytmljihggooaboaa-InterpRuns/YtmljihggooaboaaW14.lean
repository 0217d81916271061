/- Ca, La, ZVf, ZVs, ZWe, Ac, QCa, QCb, QCg, QCo, QTi, QCc. -/
import Derived.Test.YtmljihggooaboaaW01
import Derived.Test.YtmljihggooaboaaW11
import Derived.Test.YtmljihggooaboaaW12
import Derived.Test.YtmljihggooaboaaW13
import Derived.BigQuiet
import Derived.BigRegion
import Derived.ChangeKeysEq
import Derived.Deep.DeepCutAuto
import Derived.Deep.DrawnRows
import Derived.Deep.MidRow
import Derived.Deep.QuietTactic
import Derived.Deep.RegionHeld3
import Derived.Deep.RegionLaw
import Derived.Deep.RegionWith
import Derived.Deep.WholeRow
import Derived.Laws.AppendOwnNone
import Derived.Laws.BitsLemmas
import Derived.Laws.BytesArg
import Derived.Laws.CopyOwn
import Derived.Lib.SlBytesConst
import Derived.LoopIn
import Derived.LoopNIn
import Derived.OwnWalkIn
import Derived.RangeFuncBound
import Derived.RangeFuncCalls
import Derived.RangeFuncLeaves
import Derived.RangeFuncNested
import Derived.RangeFuncRecord
import Derived.Shelf.Abstract
import Derived.Shelf.RegionOpen
import Derived.TacticsInMore
import Derived.WalkKit
import Derived.WalkLawsBesides
import Derived.WalkSpells
import Derived.ChangeOld
import Derived.Great.BuildSlice
import Derived.Great.FillDense
import Derived.Laws.OwnMore
import Derived.Laws.Tables
import Derived.Maps.AppendAt
import Derived.OpenShut
import Derived.ProofKit
import Derived.ShutString
import Derived.SizedLaws
import Derived.DeepKeys3
import Derived.Laws.ResultCell
import Derived.Recover
import Derived.Deep.OwnRows
import Derived.Laws.CopyRow
import Derived.Laws.DeepBits32
import Derived.Laws.MakeOwn
import Derived.Lib.AppendZeros
import Derived.Test.YtmljihggooaboaaRows
/- Layer interp: what the layers below give. -/
namespace Go.Proofs.Ytmljihggooaboaa
open Go.RowKit
set_option maxRecDepth 100000
set_option linter.unusedVariables false
set_option linter.unusedSimpArgs false

/-- All are bytes. -/
def Bts (L : List Int) : Prop := ∀ x ∈ L, 0 ≤ x ∧ x ≤ 255
theorem Bts.nil : Bts [] := by simp [Bts]
theorem Bytes.belowB {w w' : World} {b off n B : Nat} {f : Nat → Int} (h : Bytes w b off n f) (hb : Below B w w') (hlt : b < B) : Bytes w' b off n f := fun t ht => (hb.cell (p := ⟨b, off + t, none⟩) hlt).trans (h t ht)
/-- A slice of bytes in blocks below N. -/
structure BS (N : Nat) (w : World) (sp : Option Addr) (n cap : Nat) (L : List Int) : Prop where
  len : Hid (n = L.length)
  nil : sp = none → n = 0 ∧ cap = 0
  le : n ≤ cap
  big : cap ≤ 9223372036854775807
  small : n ≤ 140737488355000
  at0 : 0 < n → ∃ b off, sp = some ⟨b, off, none⟩ ∧ b < N ∧ Bytes w b off n (bat L)
  bts : Bts L
theorem BS.mono {N N' : Nat} {w : World} {sp : Option Addr} {n cap : Nat} {L : List Int} (h : BS N w sp n cap L) (hN : N ≤ N') : BS N' w sp n cap L :=
  ⟨h.len, h.nil, h.le, h.big, h.small, fun h0 => let ⟨b, off, e, hb, hB⟩ := h.at0 h0; ⟨b, off, e, by omega, hB⟩, h.bts⟩
theorem BS.below {N : Nat} {w w' : World} {sp : Option Addr} {n cap : Nat} {L : List Int} (h : BS N w sp n cap L) (hb : Below N w w') : BS N w' sp n cap L :=
  ⟨h.len, h.nil, h.le, h.big, h.small, fun h0 => let ⟨b, off, e, hbN, hB⟩ := h.at0 h0; ⟨b, off, e, hbN, hB.belowB hb hbN⟩, h.bts⟩
theorem BS.here {N : Nat} {w : World} {sp : Option Addr} {n cap : Nat} {L : List Int} (h : BS N w sp n cap L) : BS w.heap.size w sp n cap L :=
  ⟨h.len, h.nil, h.le, h.big, h.small, fun h0 => let ⟨b, off, e, hbN, hB⟩ := h.at0 h0; ⟨b, off, e, block_lt_of_cell (hB 0 h0), hB⟩, h.bts⟩
theorem BS.sl {N : Nat} {w : World} {sp : Option Addr} {n cap : Nat} {L : List Int} (h : BS N w sp n cap L) : SlL w sp L := fun h0 => by
  have e := h.len.out
  obtain ⟨b, off, e1, -, hB⟩ := h.at0 (by omega)
  exact ⟨b, off, e1, by rw [← e]; exact hB⟩
theorem BS.nil0 (N : Nat) (w : World) : BS N w none 0 0 [] := ⟨rfl, fun _ => ⟨rfl, rfl⟩, Nat.le_refl _, by omega, by omega, fun h => absurd h (by omega), Bts.nil⟩
/-- .. where no block of it is turned. -/
theorem BS.grown {N : Nat} {w w' : World} {sp : Option Addr} {n cap g : Nat} {L : List Int} (h : BS N w sp n cap L) (hg : w.grownBy w' (some g)) (hne : ∀ b off, sp = some ⟨b, off, none⟩ → b ≠ g) : BS N w' sp n cap L :=
  ⟨h.len, h.nil, h.le, h.big, h.small, fun h0 => by
    obtain ⟨b, off, e, hbN, hB⟩ := h.at0 h0
    refine ⟨b, off, e, hbN, fun t ht => ?_⟩
    rw [World.cell?_of_block (w := w) (a := ⟨b, off + t, none⟩) (hg.block b (block_lt_of_cell (hB t ht)) (fun e' => hne b off e (Option.some.inj e')))]
    exact hB t ht, h.bts⟩
/-- What an own slice looks like. -/
theorem own_bs {w : World} {base n : Nat} {v : Value} {L : List Int} (h : w.ownsRow base 5 1 v n (by8 L)) (hL : Bts L) (hs : n ≤ 140737488355000) :
    ∃ sp cap, v = .slice sp n cap ∧ BS w.heap.size w sp n cap L ∧ (∀ g off, sp = some ⟨g, off, none⟩ → base ≤ g ∧ off = 0) := by
  obtain ⟨hl, h | ⟨g, cap, cur, rfl, hg, hh, hn, hm, hc, ht⟩⟩ := h
  · obtain ⟨rfl, rfl⟩ := h
    rw [by8_len] at hl
    refine ⟨none, 0, rfl, ⟨show _ = _ by omega, fun _ => ⟨rfl, rfl⟩, by omega, by omega, by omega, fun h0 => by omega, hL⟩, fun g off e => by cases e⟩
  · rw [by8_len, Nat.mul_one] at hl
    refine ⟨_, cap, rfl, ⟨show _ = _ by omega, (fun e => by cases e), hn, by unfold maxLen at hm; omega, hs, fun h0 => ⟨g, 0, rfl, (Array.getElem?_eq_some_iff.1 hh).1, fun t htl => ?_⟩, hL⟩, fun g' off e => by cases e; exact ⟨hg, rfl⟩⟩
    rw [Nat.zero_add, cell_of_row w g t cur 5 (0, 0) hh, ← Array.getElem?_toList, ← List.getElem?_take_of_lt (show t < n * 1 by omega), ht, by8_get (by omega)]
end Go.Proofs.Ytmljihggooaboaa
/- Layer interp: what the layers below give. -/
namespace Go.Proofs.Ytmljihggooaboaa
open Go.RowKit
set_option maxRecDepth 100000
set_option linter.unusedVariables false
set_option linter.unusedSimpArgs false

/-- Nothing that was there has changed but some blocks. -/
structure Chg (S : Nat → Prop) (w w' : World) : Prop where
  os : w'.os = w.os
  tape : w'.tape = w.tape
  output : w'.output = w.output
  size : w.heap.size ≤ w'.heap.size
  block : ∀ b, b < w.heap.size → ¬ S b → w'.heap[b]? = w.heap[b]?
theorem Chg.refl (S : Nat → Prop) (w : World) : Chg S w w := ⟨rfl, rfl, rfl, Nat.le_refl _, fun _ _ _ => rfl⟩
theorem Chg.trans {S : Nat → Prop} {a b c : World} (h : Chg S a b) (k : Chg S b c) : Chg S a c :=
  ⟨k.os.trans h.os, k.tape.trans h.tape, k.output.trans h.output, Nat.le_trans h.size k.size, fun i hi hs => (k.block i (Nat.lt_of_lt_of_le hi h.size) hs).trans (h.block i hi hs)⟩
theorem Chg.mono {S T : Nat → Prop} {a b : World} (h : Chg S a b) (hST : ∀ i, i < a.heap.size → S i → T i) : Chg T a b :=
  ⟨h.os, h.tape, h.output, h.size, fun i hi ht => h.block i hi fun hs => ht (hST i hi hs)⟩
theorem Chg.of_below {S : Nat → Prop} {a b : World} (h : Below a.heap.size a b) : Chg S a b := ⟨h.os, h.tape, h.output, h.size, fun i hi _ => h.block i hi⟩
theorem Chg.below {S : Nat → Prop} {a b : World} {N : Nat} (h : Chg S a b) (hN : ∀ i, i < N → i < a.heap.size ∧ ¬ S i) : Below N a b := ⟨h.os, h.tape, h.output, h.size, fun i hi => h.block i (hN i hi).1 (hN i hi).2⟩
theorem Chg.alloc {S : Nat → Prop} {a b : World} (h : Chg S a b) (o : Obj) : Chg S a (b.alloc o) :=
  h.trans (Chg.of_below (alloc_bel' b o))
theorem Chg.grown {S : Nat → Prop} {a b c : World} {row : Option Nat} (h : Chg S a b) (hg : b.grownBy c row) (hr : ∀ k, k < a.heap.size → row = some k → S k) : Chg S a c :=
  ⟨hg.os.trans h.os, hg.tape.trans h.tape, hg.output.trans h.output, Nat.le_trans h.size hg.size, fun i hi hs => (hg.block i (Nat.lt_of_lt_of_le hi h.size) (fun e => hs (hr i hi e.symm))).trans (h.block i hi hs)⟩
end Go.Proofs.Ytmljihggooaboaa
/- Layer interp: what the layers below give. -/
namespace Go.Proofs.Ytmljihggooaboaa
open Go.RowKit
set_option maxRecDepth 100000
set_option linter.unusedVariables false
set_option linter.unusedSimpArgs false

/-- A machine, as numbers. -/
structure Mc where
  pc : Int
  rg : List Int
  st : Int
  me : List Int
structure Mc.ok (m : Mc) : Prop where
  pc : U64 m.pc
  r16 : m.rg.length = 16
  rg : ∀ k, U64 (m.rg.getD k 0)
  st : 0 ≤ m.st ∧ m.st < 256
  me : ∀ k, U64 (m.me.getD k 0)
/-- Words as they lie. -/
def by64 (L : List Int) : List Value := L.map (Value.int .u64)
theorem by64_len (L : List Int) : (by64 L).length = L.length := by simp [by64]
def mcL (m : Mc) (v : Value) : List Value := .int .u64 m.pc :: (by64 m.rg ++ [.int .u8 m.st, v])
theorem mcL_len {m : Mc} (h : m.rg.length = 16) (v : Value) : (mcL m v).length = 19 := by simp [mcL, by64_len, h]
/-- Words in block gm. -/
def MW (w : World) (gm : Nat) (L : List Int) : Prop := ∃ C : Array Value, Arr w gm 30 C ∧ ∀ t, t < L.length → C[t]? = some (.int .u64 (L.getD t 0))
theorem MW.cell {w : World} {gm : Nat} {L : List Int} (h : MW w gm L) {t : Nat} (ht : t < L.length) : w.cell? ⟨gm, t, none⟩ = some (.int .u64 (L.getD t 0)) := by
  obtain ⟨C, hA, hC⟩ := h
  rw [hA.cell]; exact hC t ht
theorem MW.lt {w : World} {gm : Nat} {L : List Int} (h : MW w gm L) : gm < w.heap.size := by
  obtain ⟨C, hA, hC⟩ := h
  exact hA.lt
theorem MW.below {w w' : World} {gm B : Nat} {L : List Int} (h : MW w gm L) (hb : Below B w w') (hg : gm < B) : MW w' gm L := by
  obtain ⟨C, hA, hC⟩ := h
  exact ⟨C, hA.below hb hg, hC⟩
end Go.Proofs.Ytmljihggooaboaa
/- Layer interp: what the layers below give. -/
namespace Go.Proofs.Ytmljihggooaboaa
open Go.RowKit
set_option maxRecDepth 100000
set_option linter.unusedVariables false
set_option linter.unusedSimpArgs false

/-- Words in memory, wherever. -/
structure MS (N : Nat) (w : World) (sp : Option Addr) (n cap : Nat) (L : List Int) : Prop where
  len : Hid (n = L.length)
  nil : sp = none → n = 0 ∧ cap = 0
  le : n ≤ cap
  big : cap ≤ 9223372036854775807
  small : n ≤ 17592186044416
  at0 : 0 < n → ∃ g off, sp = some ⟨g, off, none⟩ ∧ g < N ∧ ∀ t, t < n → w.cell? ⟨g, off + t, none⟩ = some (.int .u64 (L.getD t 0))
theorem MS.mono {N N' : Nat} {w : World} {sp : Option Addr} {n cap : Nat} {L : List Int} (h : MS N w sp n cap L) (hN : N ≤ N') : MS N' w sp n cap L :=
  ⟨h.len, h.nil, h.le, h.big, h.small, fun h0 => let ⟨b, off, e, hb, hB⟩ := h.at0 h0; ⟨b, off, e, by omega, hB⟩⟩
theorem MS.below {N : Nat} {w w' : World} {sp : Option Addr} {n cap : Nat} {L : List Int} (h : MS N w sp n cap L) (hb : Below N w w') : MS N w' sp n cap L :=
  ⟨h.len, h.nil, h.le, h.big, h.small, fun h0 => let ⟨b, off, e, hbN, hB⟩ := h.at0 h0; ⟨b, off, e, hbN, fun t ht => (hb.cell (p := ⟨b, off + t, none⟩) hbN).trans (hB t ht)⟩⟩
theorem MS.here {N : Nat} {w : World} {sp : Option Addr} {n cap : Nat} {L : List Int} (h : MS N w sp n cap L) : MS w.heap.size w sp n cap L :=
  ⟨h.len, h.nil, h.le, h.big, h.small, fun h0 => let ⟨b, off, e, hb, hB⟩ := h.at0 h0; ⟨b, off, e, block_lt_of_cell (hB 0 h0), hB⟩⟩
theorem MS.nil0 (N : Nat) (w : World) : MS N w none 0 0 [] := ⟨rfl, fun _ => ⟨rfl, rfl⟩, Nat.le_refl _, by omega, by omega, fun h => absurd h (by omega)⟩
/-- A machine by value. -/
def mcA (m : Mc) (sp : Option Addr) (n cap : Nat) : Array Value := (mcL m (.slice sp n cap)).toArray
theorem mcA_size {m : Mc} (h : m.rg.length = 16) (sp : Option Addr) (n cap : Nat) : (mcA m sp n cap).size = 19 := by simp [mcA, mcL_len h]
end Go.Proofs.Ytmljihggooaboaa
/- Layer interp: what the layers below give. -/
namespace Go.Proofs.Ytmljihggooaboaa
open Go.RowKit
set_option maxRecDepth 100000
set_option linter.unusedVariables false
set_option linter.unusedSimpArgs false

/-- A machine by value, and its memory. -/
structure MVV (w : World) (m : Mc) (C : Array Value) : Prop where
  ex : ∃ sp n cap, C = mcA m sp n cap ∧ MS w.heap.size w sp n cap m.me
  ok : m.ok
theorem MVV.size {w : World} {m : Mc} {C : Array Value} (h : MVV w m C) : C.size = 19 := by
  obtain ⟨sp, n, cap, rfl, -⟩ := h.ex
  exact mcA_size h.ok.r16 _ _ _
end Go.Proofs.Ytmljihggooaboaa
/- Layer interp: what the layers below give. -/
namespace Go.Proofs.Ytmljihggooaboaa
open Go.RowKit
set_option maxRecDepth 100000
set_option linter.unusedVariables false
set_option linter.unusedSimpArgs false

/-- A word is set. -/
theorem MW.set {w : World} {g i : Nat} {L : List Int} (h : MW w g L) (hi : i < L.length) (x : Int) : MW (w.setCell ⟨g, i, none⟩ (.int .u64 x)) g (L.set i x) := by
  obtain ⟨C, hA, hC⟩ := h
  refine ⟨_, hA.set i _, fun t ht => ?_⟩
  rw [List.length_set] at ht
  have hs : i < C.size := (Array.getElem?_eq_some_iff.1 (hC i hi)).1
  by_cases e : i = t
  · subst e
    rw [Array.getElem?_setIfInBounds_self_of_lt hs]
    simp [List.getD_eq_getElem?_getD, hi]
  · rw [Array.getElem?_setIfInBounds_ne e, hC t ht]
    simp [List.getD_eq_getElem?_getD, List.getElem?_set_ne e]
end Go.Proofs.Ytmljihggooaboaa
/- Layer interp: what the layers below give. -/
namespace Go.Proofs.Ytmljihggooaboaa
open Go.RowKit
set_option maxRecDepth 100000
set_option linter.unusedVariables false
set_option linter.unusedSimpArgs false

theorem Bts.one {L : List Int} (h : Bts L) : Bts (1 :: L) := by
  intro x hx; rcases List.mem_cons.1 hx with rfl | h1
  · omega
  · exact h x h1
set_option maxRecDepth 100000 in
set_option maxHeartbeats 400000 in
/-- bytes.Clone. -/
theorem clone_any (sp : Option Addr) (n cap : Nat) (L : List Int) (N : Nat) (w : World) (hS : BS N w sp n cap L) :
    Calls Try.prog 87 #[.slice sp n cap] w fun e w' => ∃ v, e = .returned v ∧ w'.ownsRow w.heap.size 5 1 v n (by8 L) ∧ Below w.heap.size w w' := by
  have hn := hS.len
  have hsm := hS.small
  have q22 : ∀ (w : World) (a : Option Addr) (n c n' c' : Nat), (binOp .eql 53 (.slice a n c) (.slice none n' c')).run Try.prog w = .ok (.bool a.isNone) w := fun w a n c n' c' => Lib.run_eql_slice_nil w _ _ a n c n' c' Try.underlying53
  cases sp with
  | none =>
    obtain ⟨rfl, rfl⟩ := hS.nil rfl
    go_enter Try.func87, Try.ntmps87
    go_wp2
    go_ret
    obtain rfl : L = [] := List.eq_nil_of_length_eq_zero hn.out.symm
    exact ⟨_, rfl, World.ownsRow_nil _ _ _ _, Below.refl _ _⟩
  | some ad =>
    have hlit : (w.alloc (.cells #[] 5)).ownsRow w.heap.size 5 1 (.slice (some ⟨w.heap.size, 0, none⟩) 0 0) 0 (by8 []) := World.ownsRow_lit _ _ _ (Nat.le_refl _) (by unfold maxLen; omega) rfl
    have hS' := (hS.here.below ((Below.refl _ _).alloc (Nat.le_refl _) (.cells #[] 5))).sl
    go_enter Try.func87, Try.ntmps87
    go_wp2_with (at_builtin; go_must (refine append_bytes (by rfl) (.tmp 5) (.tmp 6) (by rfl) w.heap.size _ 0 [] (by rfl) hlit (some ad) n cap L (by rfl) hn.out (fun e => by cases e) hS' (by omega) (by simp) ?_; intro v1 w1 hown1 hg1))
    go_ret
    refine ⟨v1, rfl, ?_, ((Below.refl _ _).alloc (Nat.le_refl _) _).grown hg1 (by simp) (fun k e => by simp [Value.ownBlock] at e; omega)⟩
    simpa using hown1
end Go.Proofs.Ytmljihggooaboaa
/- Layer interp: what the layers below give. -/
namespace Go.Proofs.Ytmljihggooaboaa
open Go.RowKit
set_option maxRecDepth 100000
set_option linter.unusedVariables false
set_option linter.unusedSimpArgs false

/-- An entry: its bytes and where they lie, and its sum. -/
structure En where
  sp : Option Addr
  n : Nat
  cap : Nat
  bs : List Int
  sm : List Int
def En.cells (e : En) : List Value := .slice e.sp e.n e.cap :: by8 e.sm
def En.arr (e : En) : Array Value := e.cells.toArray
structure EnOK (N : Nat) (w : World) (e : En) : Prop where
  body : BS N w e.sp e.n e.cap e.bs
  s32 : e.sm.length = 32
theorem EnOK.below {N : Nat} {w w' : World} {e : En} (h : EnOK N w e) (hb : Below N w w') : EnOK N w' e := ⟨h.body.below hb, h.s32⟩
theorem EnOK.mono {N N' : Nat} {w : World} {e : En} (h : EnOK N w e) (hN : N ≤ N') : EnOK N' w e := ⟨h.body.mono hN, h.s32⟩
theorem EnOK.here {N : Nat} {w : World} {e : En} (h : EnOK N w e) : EnOK w.heap.size w e := ⟨h.body.here, h.s32⟩
theorem En.len {e : En} (h : e.sm.length = 32) : e.cells.length = 33 := by simp [En.cells, by8_len, h]
theorem En.size {e : En} (h : e.sm.length = 32) : e.arr.size = 33 := by simp [En.arr, En.len h]
theorem En.one (e : En) : ∀ v ∈ e.cells, v.oneCell' = true := by
  intro v hv
  rcases List.mem_cons.1 hv with rfl | h
  · rfl
  · exact by8_one _ v h
theorem En.oneA (e : En) : e.arr.all (·.oneCell') = true := all_oneCell_toArray e.one
/-- Entries one behind the other, in blocks below N. -/
structure ES (N : Nat) (w : World) (sp : Option Addr) (n cap : Nat) (es : List En) : Prop where
  len : Hid (n = es.length)
  nil : sp = none → n = 0 ∧ cap = 0
  le : n ≤ cap
  big : cap ≤ 9223372036854775807
  small : n ≤ 140737488355328
  at0 : 0 < n → ∃ g off, sp = some ⟨g, off, none⟩ ∧ g < N ∧ ∀ i e, es[i]? = some e → w.rangeAt g (off + i * 33) e.cells
  ok : ∀ e ∈ es, EnOK N w e
theorem ES.below {N : Nat} {w w' : World} {sp : Option Addr} {n cap : Nat} {es : List En} (h : ES N w sp n cap es) (hb : Below N w w') : ES N w' sp n cap es :=
  ⟨h.len, h.nil, h.le, h.big, h.small, fun h0 => let ⟨b, off, e, hbN, hB⟩ := h.at0 h0; ⟨b, off, e, hbN, fun i X hX => range_below (hB i X hX) hb hbN⟩, fun e he => (h.ok e he).below hb⟩
theorem ES.mono {N N' : Nat} {w : World} {sp : Option Addr} {n cap : Nat} {es : List En} (h : ES N w sp n cap es) (hN : N ≤ N') : ES N' w sp n cap es :=
  ⟨h.len, h.nil, h.le, h.big, h.small, fun h0 => let ⟨b, off, e, hb, hB⟩ := h.at0 h0; ⟨b, off, e, by omega, hB⟩, fun e he => (h.ok e he).mono hN⟩
theorem ES.here {N : Nat} {w : World} {sp : Option Addr} {n cap : Nat} {es : List En} (h : ES N w sp n cap es) : ES w.heap.size w sp n cap es :=
  ⟨h.len, h.nil, h.le, h.big, h.small, fun h0 => by
    obtain ⟨b, off, e, hbN, hB⟩ := h.at0 h0
    refine ⟨b, off, e, ?_, hB⟩
    have hl : 0 < es.length := by rw [← h.len.out]; exact h0
    exact block_lt_of_cell (hB 0 es[0] (List.getElem?_eq_getElem hl) 0 _ rfl), fun e he => (h.ok e he).here⟩
theorem ES.nil0 (N : Nat) (w : World) : ES N w none 0 0 [] := ⟨rfl, fun _ => ⟨rfl, rfl⟩, Nat.le_refl _, by omega, by omega, fun h => absurd h (by omega), fun e h => by cases h⟩
theorem size54 : (Try.prog.info? 57).map (·.size) = some 33 := by kernel_rfl
theorem s54 {e : En} (h : e.sm.length = 32) : (Try.prog.info? 57).map (·.size) = some e.arr.size := by rw [En.size h]; exact size54
theorem rangeE {w : World} {g ty : Nat} {e : En} (h : Arr w g ty e.arr) : w.rangeAt g 0 e.cells := fun j v hv => by
  rw [Nat.zero_add, h.cell]; simpa [En.arr] using hv
theorem range_c0 {w : World} {g o : Nat} {e : En} (h : w.rangeAt g o e.cells) : w.cell? ⟨g, o, none⟩ = some (.slice e.sp e.n e.cap) := by simpa using h 0 _ rfl
theorem range_sm {w : World} {g o : Nat} {e : En} (h : w.rangeAt g o e.cells) : w.rangeAt g (o + 1) (by8 e.sm) := fun j v hv => by
  rw [Nat.add_assoc, Nat.add_comm 1 j]
  exact h (j + 1) v (by simpa [En.cells] using hv)
/-- An entry out of memory. -/
theorem ld54 {ops : Array Oper} {rest : List Oper} {o : Oper} {a : Act} {w : World} {Q : Exit → Act → World → Prop} (hgd : o.guard = none) (x : Operand) (ho : o.op = .load 57 x)
    (b off : Nat) (hx : a.eval x = .pointer (some ⟨b, off, none⟩)) (e : En) (he : e.sm.length = 32) (hc : w.rangeAt b off e.cells)
    (h : wpList Try.prog ops Q rest (a.put o.dst (.agg e.arr)) w) : wpList Try.prog ops Q (o :: rest) a w :=
  wpList_load_mid hgd 57 x ho b off hx e.cells _ hc Try.underlying57 rfl (by rw [En.len he]; exact size54) h
/-- .. into the newest block. -/
theorem st54n {ops : Array Oper} {rest : List Oper} {o : Oper} {a : Act} {Q : Exit → Act → World → Prop} (hgd : o.guard = none) (x y : Operand) (ho : o.op = .store 57 x y) (W : World) (g : Nat) (hgW : W.heap.size = g) {z : Array Value} (hz : z.size = 33)
    (e : En) (hx : a.eval x = .pointer (some ⟨g, 0, none⟩)) (hy : a.eval y = .agg e.arr) (he : e.sm.length = 32)
    (h : wpList Try.prog ops Q rest (a.put o.dst undef) (W.alloc (.cells e.arr 57))) : wpList Try.prog ops Q (o :: rest) a (W.alloc (.cells z 57)) := by
  subst hgW
  exact wpList_store_new W z 57 hgd 57 x y ho e.arr hx hy (s54 he) (by rw [hz, En.size he]) e.oneA h
end Go.Proofs.Ytmljihggooaboaa
/- Layer interp: what the layers below give. -/
namespace Go.Proofs.Ytmljihggooaboaa
open Go.RowKit
set_option maxRecDepth 100000
set_option linter.unusedVariables false
set_option linter.unusedSimpArgs false

/-- A climber in block g. -/
structure CL (w : World) (g : Nat) (m : Int) (X : List Int) : Prop where
  c0 : w.cell? ⟨g, 0, none⟩ = some (.func (Fn.func 62) #[] #[])
  c1 : w.cell? ⟨g, 1, none⟩ = some (.int .i64 m)
  rg : w.rangeAt g 2 (by8 X)
  th : w.there g 0 53
end Go.Proofs.Ytmljihggooaboaa
/- Layer interp: what the layers below give. -/
namespace Go.Proofs.Ytmljihggooaboaa
open Go.RowKit Go.Shelf
set_option maxRecDepth 100000
set_option linter.unusedVariables false
set_option linter.unusedSimpArgs false
attribute [local go_sem] Oper.semAt_some

theorem CL.block {w w' : World} {g : Nat} {m : Int} {X : List Int} (h : CL w g m X) (hb : w'.heap[g]? = w.heap[g]?) : CL w' g m X := by
  refine ⟨(World.cell?_of_block (w := w) (a := ⟨g, 0, none⟩) hb).trans h.c0, (World.cell?_of_block (w := w) (a := ⟨g, 1, none⟩) hb).trans h.c1, fun j v hv => (World.cell?_of_block (w := w) (a := ⟨g, 2 + j, none⟩) hb).trans (h.rg j v hv), fun j hj => ⟨?_, ?_⟩⟩
  · rw [World.cell?_of_block (w := w) (a := ⟨g, 0 + j, none⟩) hb]; exact (h.th j hj).1
  · have h2 := (h.th j hj).2; simp only [World.frozen?] at h2 ⊢; rw [hb]; exact h2
end Go.Proofs.Ytmljihggooaboaa
/- Layer interp: what the layers below give. -/
namespace Go.Proofs.Ytmljihggooaboaa
open Go.RowKit
set_option maxRecDepth 100000
set_option linter.unusedVariables false
set_option linter.unusedSimpArgs false

theorem index24 (C : Array Value) (f : Nat → Int) (hC : ∀ t, t < 32 → C[t]? = some (.int .u8 (f t))) (k : Nat) (hk : k < 32) (w : World) :
    (Instr.index 55 (.agg C) (.int .i64 k)).run Try.prog w = .ok (.int .u8 (f k)) w := by
  have e : C[k]? = some (.int .u8 (f k)) := hC k hk
  simp [Instr.index, asIntOf, run_underlying Try.underlying55, Try.sizeOf5, part, Try.isAgg5, hk, e]
end Go.Proofs.Ytmljihggooaboaa
/- Layer interp: what the layers below give. -/
namespace Go.Proofs.Ytmljihggooaboaa
open Go.RowKit
set_option maxRecDepth 100000
set_option linter.unusedVariables false
set_option linter.unusedSimpArgs false

/-- Entries, by sums. -/
def entsH (L : List (List Int × Int × Nat)) : List MapEntry := L.map fun x => { key := .agg (h8 x.1), val := .int .i64 x.2.1, born := x.2.2 }
def kvH (L : List (List Int × Int × Nat)) (k : List Int) : Option Int := (L.find? (fun x => decide (x.1 = k))).map (·.2.1)
/-- Block r is a map that has m. -/
def MapH (w : World) (r : Nat) (m : List Int → Option Int) : Prop := ∃ L clock, w.heap[r]? = some (.map (entsH L).toArray clock) ∧ (∀ x ∈ L, x.1.length = 32) ∧ ∀ k, kvH L k = m k
theorem MapH.new (w : World) : MapH (w.alloc (.map #[] 0)) w.heap.size (fun _ => none) := ⟨[], 0, heap_alloc_new w _, (fun x h => by cases h), fun _ => rfl⟩
theorem MapH.lt {w : World} {r : Nat} {m : List Int → Option Int} (h : MapH w r m) : r < w.heap.size := by
  obtain ⟨L, clock, h1, h2⟩ := h
  exact (Array.getElem?_eq_some_iff.1 h1).1
end Go.Proofs.Ytmljihggooaboaa
