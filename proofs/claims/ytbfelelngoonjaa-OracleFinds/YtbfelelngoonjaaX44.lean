/- V18, QCh, QCp, QCq, QCt. -/
import Derived.Test.YtbfelelngoonjaaX43
import Derived.Test.YtbfelelngoonjaaX14
import Derived.Test.YtbfelelngoonjaaX01
import Derived.Test.YtbfelelngoonjaaX02
import Derived.Test.YtbfelelngoonjaaX04
import Derived.Test.YtbfelelngoonjaaX05
import Derived.Test.YtbfelelngoonjaaX06
import Derived.Test.YtbfelelngoonjaaX12
import Derived.Test.YtbfelelngoonjaaX13
import Derived.Test.YtbfelelngoonjaaX16
import Derived.Test.YtbfelelngoonjaaX18
import Derived.Test.YtbfelelngoonjaaX19
import Derived.Test.YtbfelelngoonjaaX21
import Derived.Test.YtbfelelngoonjaaX23
import Derived.Test.YtbfelelngoonjaaX24
import Derived.Test.YtbfelelngoonjaaX25
import Derived.BigQuiet
import Derived.BigRegion
import Derived.ChangeKeysEq
import Derived.Deep.DeepCutAuto
import Derived.Deep.DrawnRows
import Derived.Deep.MidRow
import Derived.Deep.QuietTactic
import Derived.Deep.RegionHeld3
import Derived.Deep.RegionLaw
import Derived.Deep.RegionWith
import Derived.Deep.WholeRow
import Derived.DeepKeys3
import Derived.Great.BuildSlice
import Derived.Laws.AppendOwnNone
import Derived.Laws.BitsLemmas
import Derived.Laws.BytesArg
import Derived.Laws.CopyOwn
import Derived.Laws.Tables
import Derived.Lib.SlBytesConst
import Derived.Maps.AppendAt
import Derived.RangeFuncRecord
import Derived.WalkKit
import Derived.WalkLawsBesides
import Derived.WalkSpells
import Derived.Test.YtbfelelngoonjaaX17
import Derived.LoopIn
import Derived.LoopNIn
import Derived.OwnWalkIn
import Derived.RangeFuncBound
import Derived.RangeFuncCalls
import Derived.RangeFuncLeaves
import Derived.RangeFuncNested
import Derived.Shelf.Abstract
import Derived.Shelf.RegionOpen
import Derived.TacticsInMore
import Derived.Test.YtbfelelngoonjaaX10
/- Layer oracle: a script that came in. -/
namespace Go.Proofs.Ytbfelelngoonjaa
open Go.ChangeShapes Go.WideShapes Go.ChangeAt Go.RowKit
set_option maxRecDepth 100000
set_option linter.unusedVariables false
set_option linter.unusedSimpArgs false

theorem bulk_pos {H : Type} (d : DataW H) : 0 < Rows.uptoBulk d := by
  unfold Rows.uptoBulk
  split <;> omega
theorem bulk_count {H : Type} : ∀ l : List (DataW H), l.length ≤ Rows.uptoBulkAll l
  | [] => by simp
  | d :: r => by
    have h1 := bulk_pos d
    have h2 := bulk_count r
    rw [Rows.uptoBulkAll, List.length_cons]
    omega
theorem bulk_in {H : Type} {d : DataW H} : ∀ {l : List (DataW H)}, d ∈ l → Rows.uptoBulk d ≤ Rows.uptoBulkAll l
  | x :: r, h => by
    rw [Rows.uptoBulkAll]
    rcases List.mem_cons.1 h with rfl | h
    · omega
    · have := bulk_in h; omega
theorem bulk_slice {H : Type} (a b : List (DataW H)) : a.length + b.length ≤ Rows.uptoBulk (.slice a b) := by
  have h1 := bulk_count a
  have h2 := bulk_count b
  rw [Rows.uptoBulk]
  omega
theorem bulk_elem {H : Type} {d : DataW H} {a b : List (DataW H)} (h : d ∈ a) : Rows.uptoBulk d ≤ Rows.uptoBulk (.slice a b) := by
  have h1 := bulk_in h
  rw [Rows.uptoBulk]
  omega


theorem bulk_agg {H : Type} {d : DataW H} {a : List (DataW H)} (h : d ∈ a) : Rows.uptoBulk d ≤ Rows.uptoBulk (.agg a) := by
  have h1 := bulk_in h
  rw [Rows.uptoBulk]
  omega
section
variable {H : Type} {enc : TypeId × Value → H} {W : World} {base : Nat}
set_option maxRecDepth 100000 in
theorem bs_of_trodB {fuel : Nat} {cs : List Value} {x : DataW H × List MemPlace} (h : DataW.trod enc Try.prog W base (fun _ => true) true fuel 29 cs = some x) (hk : Rows.uptoBulk x.1 ≤ 2000000) :
    ∃ sp n cap L, cs = [.slice sp n cap] ∧ BS W.heap.size W sp n cap L ∧ n ≤ 1000000000 := by
  rcases open_ints Try.underlying29 Try.underlying5 (by kernel_rfl) h with ⟨rfl, _⟩ | ⟨a, len, cap, zs, rfl, _, hl, hm, hz, rfl, hcell, hwz⟩
  · exact ⟨none, 0, 0, [], rfl, BS.nil0 _ _, by omega⟩
  · have hz' : zs.length = cap := by simpa using hz
    have hr := Nat.le_trans (bulk_slice _ _) hk
    simp only [lits, List.length_map, List.length_take, List.length_drop] at hr
    refine ⟨some a, len, cap, zs.take len, rfl, ⟨show _ = _ by simp; omega, (fun e => by cases e), hl, by unfold maxLen at hm; omega, by omega, fun h0 => ?_, bts_of fun y hy => hwz y (List.mem_of_mem_take hy)⟩, by omega⟩
    obtain ⟨b, off, rfl, hc⟩ := ints_at hcell (by omega)
    refine ⟨b, off, rfl, block_lt_of_cell (hc 0 (by omega)), fun t ht => ?_⟩
    rw [hc t (by omega)]
    simp [bat, List.getElem?_take_of_lt ht]
theorem os_of_trodB {fuel : Nat} {cs : List Value} {x : DataW H × List MemPlace} (h : DataW.trod enc Try.prog W base (fun _ => true) true fuel 36 cs = some x) (hk : Rows.uptoBulk x.1 ≤ 2000000) :
    ∃ sp n cap os, cs = [.slice sp n cap] ∧ OS W.heap.size W sp n cap os := by
  rcases DataW.trod_slice Try.underlying36 h with ⟨rfl, -⟩ | ⟨a, len, cap, elems, rest, n, rfl, rfl, rfl, hb, hlc, hm, hlen, hel, hsp, -⟩
  · exact ⟨none, 0, 0, [], rfl, OS.nil0 _ _⟩
  · have hr := Nat.le_trans (bulk_slice _ _) hk
    simp only [List.length_map] at hr
    have hstep : ∀ i, i < len → ∃ g off, ∃ X : Ou, a.add (i * 2) = ⟨g, off, none⟩ ∧ OuOK X ∧ W.rangeAt g off X.cells := fun i hi => by
      have h1 := hel i hi
      rw [cells53, List.getElem?_eq_getElem (by omega), Option.bind_eq_some_iff] at h1
      obtain ⟨cs, hcs, ht⟩ := h1
      obtain ⟨g, off, e, hR⟩ := cells_at (by omega) hcs
      obtain ⟨X, rfl, hX⟩ := ou_of_trod _ _ _ ht
      exact ⟨g, off, X, e, hX, hR⟩
    by_cases h0 : 0 < len
    · obtain ⟨g, off, -, e, -⟩ := hstep 0 h0
      have ha : a = ⟨g, off, none⟩ := by simpa [Addr.add] using e
      subst ha
      obtain ⟨l, hl, hP⟩ := exists_list (P := fun i (X : Ou) => OuOK X ∧ W.rangeAt g (off + i * 2) X.cells) len (fun i hi => by
        obtain ⟨g', off', X, e', h1, ho⟩ := hstep i hi
        rw [Addr.add_mid] at e'
        cases e'
        exact ⟨X, h1, ho⟩)
      refine ⟨some ⟨g, off, none⟩, len, cap, l, rfl, ⟨show _ = _ by simp [hl], (fun e => by cases e), hlc, by unfold maxLen at hm; omega, by omega, fun _ => ⟨g, off, rfl, ?_, fun i X hX => (hP i X hX).2⟩, fun X hX => ?_⟩⟩
      · obtain ⟨X, hX⟩ : ∃ X, l[0]? = some X := ⟨l[0], List.getElem?_eq_getElem (by omega)⟩
        exact block_lt_of_cell ((hP 0 X hX).2 0 _ rfl)
      · obtain ⟨i, hi⟩ := List.mem_iff_getElem?.1 hX
        exact (hP i X hi).1
    · obtain rfl : len = 0 := by omega
      exact ⟨some a, 0, cap, [], rfl, ⟨rfl, (fun e => by cases e), by omega, by unfold maxLen at hm; omega, by omega, fun h => by omega, fun X hX => by cases hX⟩⟩

theorem st_of_trodB {fuel : Nat} {cs : List Value} {x : DataW H × List MemPlace} (h : DataW.trod enc Try.prog W base (fun _ => true) true fuel 38 cs = some x) (hk : Rows.uptoBulk x.1 ≤ 2000000) :
    ∃ ps sp n cap os, cs = stC ps sp n cap ∧ SS W.heap.size W ps sp n cap os := by
  obtain ⟨xs, n, -, rfl, hl, hxl, hff⟩ := DataW.trod_struct Try.underlying38 h
  rw [cells30s] at hl
  simp at hxl
  match xs, hxl with
  | [x0, x1], _ =>
  have f0 := hff 0 _ rfl
  have f1 := hff 1 _ rfl
  simp [cells27, cells28, Value.cells] at f0 f1
  obtain ⟨ps, hp1, hp2, e0⟩ := acs_of_trod f0
  have s1 : Rows.uptoBulk x1.1 ≤ 2000000 := Nat.le_trans (bulk_agg (by simp)) hk
  obtain ⟨sp, m, cap, os, e1, hO⟩ := os_of_trodB f1 s1
  refine ⟨ps, sp, m, cap, os, ?_, ⟨Hid.mk' hp1, Hid.mk' hp2, hO⟩⟩
  have e : cs = List.take 1088 cs ++ List.take 1 (List.drop 1088 cs) := by
    rw [List.take_of_length_le (l := List.drop 1088 cs) (by rw [List.length_drop]; omega), List.take_append_drop]
  rw [e, e0, e1]
  rfl
/-- A call of a script: which, with which bytes, with which state. -/
structure Opx where
  c : Int
  bp : Option Addr
  bn : Nat
  bc : Nat
  L : List Int
  ps : List Ac
  sp : Option Addr
  n : Nat
  cap : Nat
  os : List Ou
def Opx.cells (o : Opx) : List Value := .int .u8 o.c :: .slice o.bp o.bn o.bc :: stC o.ps o.sp o.n o.cap
def Opx.arr (o : Opx) : Array Value := o.cells.toArray
structure OpOK (N : Nat) (w : World) (o : Opx) : Prop where
  b : BS N w o.bp o.bn o.bc o.L
  s : SS N w o.ps o.sp o.n o.cap o.os
  c : 0 ≤ o.c ∧ o.c < 256
theorem OpOK.below {N : Nat} {w w' : World} {o : Opx} (h : OpOK N w o) (hb : Below N w w') : OpOK N w' o := ⟨h.b.below hb, h.s.below hb, h.c⟩
theorem Opx.len {o : Opx} {N : Nat} {w : World} (h : OpOK N w o) : o.cells.length = 1091 := by
  simp only [Opx.cells, List.length_cons, stC_len h.s.a32.out h.s.l32]
theorem Opx.one (o : Opx) : ∀ v ∈ o.cells, v.oneCell' = true := by
  intro v hv
  simp only [Opx.cells, List.mem_cons] at hv
  rcases hv with rfl | rfl | hv
  · rfl
  · rfl
  · exact stC_one _ _ _ _ v hv
/-- A script in memory. -/
structure PS (N : Nat) (w : World) (sp : Option Addr) (n cap : Nat) (os : List Opx) : Prop where
  len : Hid (n = os.length)
  at0 : 0 < n → ∃ g off, sp = some ⟨g, off, none⟩ ∧ g < N ∧ ∀ i o, os[i]? = some o → w.rangeAt g (off + i * 1091) o.cells
  ok : ∀ o ∈ os, OpOK N w o
theorem PS.below {N : Nat} {w w' : World} {sp : Option Addr} {n cap : Nat} {os : List Opx} (h : PS N w sp n cap os) (hb : Below N w w') : PS N w' sp n cap os :=
  ⟨h.len, fun h0 => let ⟨b, off, e, hbN, hB⟩ := h.at0 h0; ⟨b, off, e, hbN, fun i X hX => range_below (hB i X hX) hb hbN⟩, fun o ho => (h.ok o ho).below hb⟩
theorem cells40x : Try.prog.cellsOf 40 = 1091 := by kernel_rfl
theorem cells5x : Try.prog.cellsOf 5 = 1 := by kernel_rfl
theorem cells29x : Try.prog.cellsOf 29 = 1 := by kernel_rfl
theorem op_of_trod {fuel : Nat} {cs : List Value} {x : DataW H × List MemPlace} (h : DataW.trod enc Try.prog W base (fun _ => true) true fuel 40 cs = some x) (hk : Rows.uptoBulk x.1 ≤ 2000000) :
    ∃ o : Opx, cs = o.cells ∧ OpOK W.heap.size W o := by
  obtain ⟨xs, n, rfl, rfl, hl, hxl, hf⟩ := DataW.trod_struct Try.underlying40 h
  rw [cells40x] at hl
  simp at hxl
  match xs, hxl with
  | [x0, x1, x2], _ =>
  have f0 := hf 0 _ rfl
  have f1 := hf 1 _ rfl
  have f2 := hf 2 _ rfl
  simp [cells5x, cells29x, cells30s] at f0 f1 f2
  obtain ⟨c, e0, -, w0⟩ := DataW.trod_int Try.underlying5 f0
  obtain ⟨bp, bn, bc, L, e1, hB, -⟩ := bs_of_trodB f1 (Nat.le_trans (bulk_agg (by simp)) hk)
  obtain ⟨ps, sp, m, cap, os, e2, hS⟩ := st_of_trodB f2 (Nat.le_trans (bulk_agg (by simp)) hk)
  have hc : 0 ≤ c ∧ c < 256 := by
    have h1 : IntKind.u8.min = 0 := rfl
    have h2 : IntKind.u8.max = 255 := rfl
    simp only [Lit.wf, Bool.and_eq_true, decide_eq_true_eq] at w0
    omega
  refine ⟨⟨c, bp, bn, bc, L, ps, sp, m, cap, os⟩, ?_, ⟨hB, hS, hc⟩⟩
  match cs, hl with
  | c0 :: c1 :: r, hl =>
    simp at e0 e1 e2 hl
    subst e0; subst e1
    rw [List.take_of_length_le (by omega)] at e2
    rw [e2]; rfl
theorem ops_of_trod {fuel : Nat} {cs : List Value} {x : DataW H × List MemPlace} (h : DataW.trod enc Try.prog W base (fun _ => true) true fuel 22 cs = some x) (hk : Rows.uptoBulk x.1 ≤ 2000000) :
    ∃ sq k cq es, cs = [.slice sq k cq] ∧ PS W.heap.size W sq k cq es ∧ k ≤ 2000000 := by
  rcases DataW.trod_slice Try.underlying22 h with ⟨rfl, -⟩ | ⟨a, len, cap, elems, rest, n, rfl, rfl, rfl, hb, hlc, hm, hlen, hel, hsp, -⟩
  · exact ⟨none, 0, 0, [], rfl, ⟨rfl, (fun h => absurd h (by omega)), (fun e h => by cases h)⟩, by omega⟩
  · have hr := Nat.le_trans (bulk_slice _ _) hk
    simp only [List.length_map] at hr
    have hw : ∀ e ∈ elems, Rows.uptoBulk e.1 ≤ 2000000 := fun e he => Nat.le_trans (bulk_elem (List.mem_map_of_mem he)) hk
    have hstep : ∀ i, i < len → ∃ g off, ∃ e : Opx, a.add (i * 1091) = ⟨g, off, none⟩ ∧ W.rangeAt g off e.cells ∧ OpOK W.heap.size W e := fun i hi => by
      have h1 := hel i hi
      rw [cells40x, List.getElem?_eq_getElem (by omega), Option.bind_eq_some_iff] at h1
      obtain ⟨cs, hcs, ht⟩ := h1
      obtain ⟨g, off, e, hR⟩ := cells_at (by omega) hcs
      obtain ⟨f, hf, ho⟩ := op_of_trod ht (hw _ (List.getElem_mem _))
      subst hf
      exact ⟨g, off, f, e, hR, ho⟩
    by_cases h0 : 0 < len
    · obtain ⟨g, off, -, e, -⟩ := hstep 0 h0
      have ha : a = ⟨g, off, none⟩ := by simpa [Addr.add] using e
      subst ha
      obtain ⟨l, hl, hP⟩ := exists_list (P := fun i (f : Opx) => W.rangeAt g (off + i * 1091) f.cells ∧ OpOK W.heap.size W f) len (fun i hi => by
        obtain ⟨g', off', f, e', h1, ho⟩ := hstep i hi
        rw [Addr.add_mid] at e'
        cases e'
        exact ⟨f, h1, ho⟩)
      refine ⟨some ⟨g, off, none⟩, len, cap, l, rfl, ⟨show _ = _ by simp [hl], fun _ => ⟨g, off, rfl, ?_, fun i f hf => (hP i f hf).1⟩, fun f hf => ?_⟩, by omega⟩
      · obtain ⟨p, hp⟩ : ∃ p, l[0]? = some p := ⟨l[0], List.getElem?_eq_getElem (by omega)⟩
        exact block_lt_of_cell ((hP 0 p hp).1 0 _ rfl)
      · obtain ⟨i, hi⟩ := List.mem_iff_getElem?.1 hf
        exact (hP i f hi).2
    · obtain rfl : len = 0 := by omega
      exact ⟨some a, 0, cap, [], rfl, ⟨rfl, (fun h => absurd h (by omega)), (fun e h => by cases h)⟩, by omega⟩
/-- A SCRIPT THAT CAME IN. -/
theorem open_script {b0 : Nat} {v : Value} {d : DataW H} {p : List MemPlace}
    (hv : Value.okWide Try.prog W .any b0 22 v) (h : DataW.Trod enc Try.prog W base (fun _ => true) true 22 v d p) (hk : Rows.uptoBulk d ≤ 2000000) :
    ∃ sq k cq es, v = .slice sq k cq ∧ PS W.heap.size W sq k cq es ∧ k ≤ 2000000 := by
  obtain ⟨a0, len0, cap0, rfl⟩ := okWide_slice Try.underlying22 hv
  obtain ⟨fuel, hf⟩ := h
  obtain ⟨sq, k, cq, fs, e, hi⟩ := ops_of_trod (x := (d, p)) hf hk
  simp [Value.cells] at e
  obtain ⟨rfl, rfl, rfl⟩ := e
  exact ⟨_, _, _, fs, rfl, hi⟩
end
end Go.Proofs.Ytbfelelngoonjaa
/- Layer oracle: what the layers below give. -/
namespace Go.Proofs.Ytbfelelngoonjaa
open Go.RowKit
set_option maxRecDepth 100000
set_option linter.unusedVariables false
set_option linter.unusedSimpArgs false

/-- A slice of entries of the call's own; no bytes lie in it, nor in block ax. -/
structure EOC (base ax : Nat) (w : World) (v : Value) (es : List En) : Prop where
  own : w.ownsRow base 71 41 v es.length (flatE es)
  ok : ∀ e ∈ es, EnOK w.heap.size w e
  ap : ∀ e ∈ es, ∀ b off, e.sp = some ⟨b, off, none⟩ → base ≤ b ∧ b < w.heap.size ∧ some b ≠ v.ownBlock ∧ b ≠ ax
theorem EOC.below {base ax : Nat} {w w' : World} {v : Value} {es : List En} (h : EOC base ax w v es) (hb : Below w.heap.size w w') : EOC base ax w' v es :=
  ⟨own_same h.own (fun k hk => hb.block k (own_lt h.own hk)), fun e he => ((h.ok e he).below hb).mono hb.size, fun e he b off hs => by have := h.ap e he b off hs; have := hb.size; exact ⟨by omega, by omega, (h.ap e he b off hs).2.2⟩⟩
theorem EOC.s32 {base ax : Nat} {w : World} {v : Value} {es : List En} (h : EOC base ax w v es) : ∀ e ∈ es, e.sm.length = 32 := fun e he => (h.ok e he).s32
theorem EOC.nil (base ax : Nat) (w : World) : EOC base ax w (.slice none 0 0) [] := ⟨World.ownsRow_nil _ _ _ _, (fun e he => by cases he), (fun e he => by cases he)⟩
end Go.Proofs.Ytbfelelngoonjaa
/- Layer oracle: what the layers below give. -/
namespace Go.Proofs.Ytbfelelngoonjaa
open Go.RowKit Go.Shelf
set_option maxRecDepth 100000
set_option linter.unusedVariables false
set_option linter.unusedSimpArgs false
attribute [local go_sem] Oper.semAt_some

/-- The lowest level at which two paths have unlike bytes and one sum. -/
def low : List (List Int) → List (List Int) → Option (List Int × List Int)
  | x :: p, y :: q => if shl x = shl y ∧ x ≠ y then some (x, y) else low p q
  | _, _ => none
/-- lowest's variables, when j levels were told. -/
structure LI (p q : List (List Int)) (w : World) (j : Nat) (W : World) : Prop where
  bel : Below w.heap.size w W
  a0 : Arr W w.heap.size 29 #[.slice none 0 0]
  a1 : Arr W (w.heap.size + 1) 29 #[.slice none 0 0]
  a2 : Arr W (w.heap.size + 1 + 1) 4 #[.bool false]
  no : Hid (low p q = low (p.drop j) (q.drop j))
theorem LI.below {p q : List (List Int)} {w : World} {j : Nat} {W W' : World} (h : LI p q w j W) (hb : Below (w.heap.size + 3) W W') : LI p q w j W' :=
  ⟨h.bel.trans (hb.mono (by omega)), h.a0.below hb (by omega), h.a1.below hb (by omega), h.a2.below hb (by omega), h.no⟩
/-- .. when two were found. -/
structure LX (p q : List (List Int)) (w : World) (W : World) : Prop where
  bel : Below w.heap.size w W
  ex : ∃ (sp sp' : Option Addr) (n n' cap cap' : Nat) (x y : List Int), low p q = some (x, y) ∧ Arr W w.heap.size 29 #[.slice sp n cap] ∧ Arr W (w.heap.size + 1) 29 #[.slice sp' n' cap'] ∧ Arr W (w.heap.size + 1 + 1) 4 #[.bool true] ∧ BS W.heap.size W sp n cap x ∧ BS W.heap.size W sp' n' cap' y ∧ (∀ b off, sp = some ⟨b, off, none⟩ → w.heap.size + 5 ≤ b) ∧ (∀ b off, sp' = some ⟨b, off, none⟩ → w.heap.size + 5 ≤ b)
theorem BS.put {N : Nat} {w : World} {sp : Option Addr} {n cap : Nat} {L : List Int} (h : BS N w sp n cap L) {r : Nat} (o : Obj) (hne : ∀ b off, sp = some ⟨b, off, none⟩ → b ≠ r) : BS N (w.putObj r o) sp n cap L :=
  ⟨h.len, h.nil, h.le, h.big, h.small, fun h0 => by
    obtain ⟨b, off, e, hbN, hB⟩ := h.at0 h0
    exact ⟨b, off, e, hbN, fun t ht => (World.cell?_of_block (w := w) (a := ⟨b, off + t, none⟩) (World.putObj_heap_other (hne b off e))).trans (hB t ht)⟩, h.bts⟩
theorem LX.put {p q : List (List Int)} {w W : World} (h : LX p q w W) {r : Nat} (o : Obj) (hr : w.heap.size + 3 ≤ r ∧ r < w.heap.size + 5) : LX p q w (W.putObj r o) := by
  obtain ⟨sp, sp', n, n', cap, cap', x, y, h1, h2, h3, h4, h5, h6, h7, h8⟩ := h.ex
  exact ⟨below_put h.bel (by omega) o, sp, sp', n, n', cap, cap', x, y, h1, h2.put o (by omega), h3.put o (by omega), h4.put o (by omega), by simpa using h5.put o (fun b off e => by have := h7 b off e; omega), by simpa using h6.put o (fun b off e => by have := h8 b off e; omega), h7, h8⟩
end Go.Proofs.Ytbfelelngoonjaa
/- Layer oracle: what the layers below give. -/
namespace Go.Proofs.Ytbfelelngoonjaa
open Go.RowKit
set_option maxRecDepth 100000
set_option linter.unusedVariables false
set_option linter.unusedSimpArgs false

theorem run_neq24 {X Y : List Int} (hX : X.length = 32) (hY : Y.length = 32) (w : World) : (binOp .neq 32 (.agg (h8 X)) (.agg (h8 Y))).run Try.prog w = .ok (.bool (!decide (X = Y))) w := by
  have h := run_eqIn24 hX hY w
  rw [run_neq_struct, h]
  rfl
end Go.Proofs.Ytbfelelngoonjaa
/- Layer oracle: what the layers below give. -/
namespace Go.Proofs.Ytbfelelngoonjaa
open Go.RowKit
set_option maxRecDepth 100000
set_option linter.unusedVariables false
set_option linter.unusedSimpArgs false

set_option maxRecDepth 100000 in
set_option maxHeartbeats 2000000 in
theorem same5_true (N N' : Nat) (sp sp' : Option Addr) (n cap cap' : Nat) (es es' : List En) (w : World) (hS : ES N w sp n cap es) (hS' : ES N' w sp' n cap' es') (hb : es.map En.bs = es'.map En.bs) (hs : ∀ e ∈ es, e.sm = shl e.bs) (hs' : ∀ e ∈ es', e.sm = shl e.bs) :
    Calls Try.prog 16 #[.slice sp n cap, .slice sp' n cap'] w fun e w' => e = .returned (.bool true) ∧ Below w.heap.size w w' := by
  have hS0 := hS.here
  have hS0' := hS'.here
  have hl := hS.len
  have hl' := hS'.len
  have hsm := hS.small
  have hnn : ((n : Int) != n) = false := by simp
  replace hb := Hid.mk' hb
  replace hs := Hid.mk' hs
  replace hs' := Hid.mk' hs'
  go_enter Try.func16, Try.ntmps16
  go_wp2_with fail
  go_loopw [5] (fun q wr => ∃ j : Nat, q = .int .i64 (j : Int) ∧ j ≤ n ∧ Below w.heap.size w wr) (fun q _ => n - (intOf q).toNat)
  case atStart => exact ⟨0, rfl, by omega, Below.refl _ _⟩
  case round =>
    obtain ⟨j, rfl, hj, hbl⟩ := hrel
    have hS := hS0.below hbl
    have hS' := hS0'.below hbl
    by_cases hlt : j < n
    · have hI : (j : Int) < n := by omega
      obtain ⟨g, off, rfl, hgN, hR⟩ := hS.at0 (by omega)
      obtain ⟨g', off', rfl, hgN', hR'⟩ := hS'.at0 (by omega)
      obtain ⟨e, he⟩ : ∃ e, es[j]? = some e := ⟨es[j]'(by rw [← hl.out]; exact hlt), List.getElem?_eq_getElem _⟩
      obtain ⟨f, hf⟩ : ∃ e, es'[j]? = some e := ⟨es'[j]'(by rw [← hl'.out]; exact hlt), List.getElem?_eq_getElem _⟩
      have hoe := hS.ok e (List.mem_of_getElem? he)
      have hof := hS'.ok f (List.mem_of_getElem? hf)
      have re := hR j e he
      have rf := hR' j f hf
      have ce := range_c0 re
      have cf := range_c0 rf
      have hgl : g < wr.heap.size := Nat.lt_of_lt_of_le hgN hbl.size
      have hgl' : g' < wr.heap.size := Nat.lt_of_lt_of_le hgN' hbl.size
      have hbb : e.bs = f.bs := by
        have h1 : (es.map En.bs)[j]? = some e.bs := by simp [he]
        have h2 : (es'.map En.bs)[j]? = some f.bs := by simp [hf]
        rw [hb.out, h2] at h1
        exact (Option.some.inj h1).symm
      have hss : e.sm = f.sm := by rw [hs.out e (List.mem_of_getElem? he), hs'.out f (List.mem_of_getElem? hf), hbb]
      have heq := run_neq24 hoe.s32 hof.s32
      rw [decide_eq_true hss] at heq
      have hbd : decide (e.bs = f.bs) = true := decide_eq_true hbb
      replace hbb := Hid.mk' hbb
      replace hss := Hid.mk' hss
      replace he := Hid.mk' he
      replace hf := Hid.mk' hf
      go_wp2_with fail
      refine wp_region_held_drew (S := fun u => Below wr.heap.size wr u) (by kernel_rfl) ((Below.refl _ _).drew) (fun hHeld => ?_)
      refine wpAnyH_take (i := 0) (oi := ⟨_, _, _, _, _, _⟩) (v := ?_) rfl (by kernel_rfl) (by kernel_rfl) (by kernel_rfl) (fun _ _ _ h => h) (Or.inl ⟨by rfl, ?_⟩) (by assumption) ?_
      rotate_left
      · intro u hSw
        go_simp
        try (with_reducible rfl)
      try simp only [Act.put, List.setIfInBounds_toArray, List.set_cons_zero, List.set_cons_succ]
      refine wpAnyH_take (i := 1) (oi := ⟨_, _, _, _, _, _⟩) (v := ?_) rfl (by kernel_rfl) (by kernel_rfl) (by kernel_rfl) (fun _ _ _ h => h) (Or.inl ⟨by rfl, ?_⟩) (by assumption) ?_
      rotate_left
      · intro u hSw
        go_simp
        try (with_reducible rfl)
      try simp only [Act.put, List.setIfInBounds_toArray, List.set_cons_zero, List.set_cons_succ]
      refine wpAnyH_take (i := 2) (oi := ⟨_, _, _, _, _, _⟩) (v := ?_) rfl (by kernel_rfl) (by kernel_rfl) (by kernel_rfl) (fun _ _ _ h => h) (Or.inl ⟨by rfl, ?_⟩) (by assumption) ?_
      rotate_left
      · intro u hSw
        go_simp
        try (with_reducible rfl)
      try simp only [Act.put, List.setIfInBounds_toArray, List.set_cons_zero, List.set_cons_succ]
      refine wpAnyH_take (i := 3) (oi := ⟨_, _, _, _, _, _⟩) (v := ?_) rfl (by kernel_rfl) (by kernel_rfl) (by kernel_rfl) (fun _ _ _ h => h) (Or.inl ⟨by rfl, ?_⟩) (by assumption) ?_
      rotate_left
      · intro u hSw
        go_simp
        try (with_reducible rfl)
      try simp only [Act.put, List.setIfInBounds_toArray, List.set_cons_zero, List.set_cons_succ]
      refine wpAnyH_take (i := 4) (oi := ⟨_, _, _, _, _, _⟩) rfl (by kernel_rfl) (by kernel_rfl) (by kernel_rfl) (fun _ _ _ h => h) (y24 (by rfl) (.tmp 20) rfl (g) (off + j * 33 + 1) rfl e.sm hoe.s32 (fun u hu => range_below (range_sm re) hu hgl)) (by assumption) ?_
      try simp only [Act.put, List.setIfInBounds_toArray, List.set_cons_zero, List.set_cons_succ]
      refine wpAnyH_take (i := 5) (oi := ⟨_, _, _, _, _, _⟩) (v := ?_) rfl (by kernel_rfl) (by kernel_rfl) (by kernel_rfl) (fun _ _ _ h => h) (Or.inl ⟨by rfl, ?_⟩) (by assumption) ?_
      rotate_left
      · intro u hSw
        go_simp
        try (with_reducible rfl)
      try simp only [Act.put, List.setIfInBounds_toArray, List.set_cons_zero, List.set_cons_succ]
      refine wpAnyH_take (i := 6) (oi := ⟨_, _, _, _, _, _⟩) (v := ?_) rfl (by kernel_rfl) (by kernel_rfl) (by kernel_rfl) (fun _ _ _ h => h) (Or.inl ⟨by rfl, ?_⟩) (by assumption) ?_
      rotate_left
      · intro u hSw
        go_simp
        try (with_reducible rfl)
      try simp only [Act.put, List.setIfInBounds_toArray, List.set_cons_zero, List.set_cons_succ]
      refine wpAnyH_take (i := 7) (oi := ⟨_, _, _, _, _, _⟩) (v := ?_) rfl (by kernel_rfl) (by kernel_rfl) (by kernel_rfl) (fun _ _ _ h => h) (Or.inl ⟨by rfl, ?_⟩) (by assumption) ?_
      rotate_left
      · intro u hSw
        go_simp
        try (with_reducible rfl)
      try simp only [Act.put, List.setIfInBounds_toArray, List.set_cons_zero, List.set_cons_succ]
      refine wpAnyH_take (i := 8) (oi := ⟨_, _, _, _, _, _⟩) (v := ?_) rfl (by kernel_rfl) (by kernel_rfl) (by kernel_rfl) (fun _ _ _ h => h) (Or.inl ⟨by rfl, ?_⟩) (by assumption) ?_
      rotate_left
      · intro u hSw
        go_simp
        try (with_reducible rfl)
      try simp only [Act.put, List.setIfInBounds_toArray, List.set_cons_zero, List.set_cons_succ]
      refine wpAnyH_take (i := 9) (oi := ⟨_, _, _, _, _, _⟩) rfl (by kernel_rfl) (by kernel_rfl) (by kernel_rfl) (fun _ _ _ h => h) (y24 (by rfl) (.tmp 25) rfl (g') (off' + j * 33 + 1) rfl f.sm hof.s32 (fun u hu => range_below (range_sm rf) hu hgl')) (by assumption) ?_
      try simp only [Act.put, List.setIfInBounds_toArray, List.set_cons_zero, List.set_cons_succ]
      refine wpAnyH_take (i := 10) (oi := ⟨_, _, _, _, _, _⟩) (v := ?_) rfl (by kernel_rfl) (by kernel_rfl) (by kernel_rfl) (fun _ _ _ h => h) (Or.inl ⟨by rfl, ?_⟩) (by assumption) ?_
      rotate_left
      · intro u hSw
        go_simp
        try (with_reducible rfl)
      try simp only [Act.put, List.setIfInBounds_toArray, List.set_cons_zero, List.set_cons_succ]
      refine wpAnyH_take (i := 11) (oi := ⟨_, _, _, _, _, _⟩) (v := ?_) rfl (by kernel_rfl) (by kernel_rfl) (by kernel_rfl) (fun _ _ _ h => h) (Or.inl ⟨by rfl, ?_⟩) (by assumption) ?_
      rotate_left
      · intro u hSw
        go_simp
        try (with_reducible rfl)
      try simp only [Act.put, List.setIfInBounds_toArray, List.set_cons_zero, List.set_cons_succ]
      refine wpAnyH_take (i := 12) (oi := ⟨_, _, _, _, _, _⟩) (v := ?_) rfl (by kernel_rfl) (by kernel_rfl) (by kernel_rfl) (fun _ _ _ h => h) (Or.inl ⟨by rfl, ?_⟩) (by assumption) ?_
      rotate_left
      · intro u hSw
        go_simp
        try (with_reducible rfl)
      try simp only [Act.put, List.setIfInBounds_toArray, List.set_cons_zero, List.set_cons_succ]
      refine wpAnyH_take (i := 13) (oi := ⟨_, _, _, _, _, _⟩) (v := ?_) rfl (by kernel_rfl) (by kernel_rfl) (by kernel_rfl) (fun _ _ _ h => h) (Or.inl ⟨by rfl, ?_⟩) (by assumption) ?_
      rotate_left
      · intro u hSw
        go_simp
        try (with_reducible rfl)
      try simp only [Act.put, List.setIfInBounds_toArray, List.set_cons_zero, List.set_cons_succ]
      refine wpAnyH_take (i := 14) (oi := ⟨_, _, _, _, _, _⟩) (v := ?_) rfl (by kernel_rfl) (by kernel_rfl) (by kernel_rfl) (fun _ _ _ h => h) (Or.inl ⟨by rfl, ?_⟩) (by assumption) ?_
      rotate_left
      · intro u hSw
        go_simp
        try (with_reducible rfl)
      try simp only [Act.put, List.setIfInBounds_toArray, List.set_cons_zero, List.set_cons_succ]
      refine wpAnyH_take (i := 15) (oi := ⟨_, _, _, _, _, _⟩) (v := ?_) rfl (by kernel_rfl) (by kernel_rfl) (by kernel_rfl) (fun _ _ _ h => h) (Or.inl ⟨by rfl, ?_⟩) (by assumption) ?_
      rotate_left
      · intro u hSw
        go_simp
        try (with_reducible rfl)
      try simp only [Act.put, List.setIfInBounds_toArray, List.set_cons_zero, List.set_cons_succ]
      refine wpAnyH_take (i := 16) (oi := ⟨_, _, _, _, _, _⟩) (v := ?_) rfl (by kernel_rfl) (by kernel_rfl) (by kernel_rfl) (fun _ _ _ h => h) (Or.inl ⟨by rfl, ?_⟩) (by assumption) ?_
      rotate_left
      · intro u hSw
        have cc := (hSw.cell (p := ⟨g, off + j * 33, none⟩) hgl).trans ce
        go_simp
        try (with_reducible rfl)
      try simp only [Act.put, List.setIfInBounds_toArray, List.set_cons_zero, List.set_cons_succ]
      refine wpAnyH_take (i := 17) (oi := ⟨_, _, _, _, _, _⟩) (v := ?_) rfl (by kernel_rfl) (by kernel_rfl) (by kernel_rfl) (fun _ _ _ h => h) (Or.inl ⟨by rfl, ?_⟩) (by assumption) ?_
      rotate_left
      · intro u hSw
        go_simp
        try (with_reducible rfl)
      try simp only [Act.put, List.setIfInBounds_toArray, List.set_cons_zero, List.set_cons_succ]
      refine wpAnyH_take (i := 18) (oi := ⟨_, _, _, _, _, _⟩) (v := ?_) rfl (by kernel_rfl) (by kernel_rfl) (by kernel_rfl) (fun _ _ _ h => h) (Or.inl ⟨by rfl, ?_⟩) (by assumption) ?_
      rotate_left
      · intro u hSw
        go_simp
        try (with_reducible rfl)
      try simp only [Act.put, List.setIfInBounds_toArray, List.set_cons_zero, List.set_cons_succ]
      refine wpAnyH_take (i := 19) (oi := ⟨_, _, _, _, _, _⟩) (v := ?_) rfl (by kernel_rfl) (by kernel_rfl) (by kernel_rfl) (fun _ _ _ h => h) (Or.inl ⟨by rfl, ?_⟩) (by assumption) ?_
      rotate_left
      · intro u hSw
        go_simp
        try (with_reducible rfl)
      try simp only [Act.put, List.setIfInBounds_toArray, List.set_cons_zero, List.set_cons_succ]
      refine wpAnyH_take (i := 20) (oi := ⟨_, _, _, _, _, _⟩) (v := ?_) rfl (by kernel_rfl) (by kernel_rfl) (by kernel_rfl) (fun _ _ _ h => h) (Or.inl ⟨by rfl, ?_⟩) (by assumption) ?_
      rotate_left
      · intro u hSw
        go_simp
        try (with_reducible rfl)
      try simp only [Act.put, List.setIfInBounds_toArray, List.set_cons_zero, List.set_cons_succ]
      refine wpAnyH_take (i := 21) (oi := ⟨_, _, _, _, _, _⟩) (v := ?_) rfl (by kernel_rfl) (by kernel_rfl) (by kernel_rfl) (fun _ _ _ h => h) (Or.inl ⟨by rfl, ?_⟩) (by assumption) ?_
      rotate_left
      · intro u hSw
        have cc := (hSw.cell (p := ⟨g', off' + j * 33, none⟩) hgl').trans cf
        go_simp
        try (with_reducible rfl)
      try simp only [Act.put, List.setIfInBounds_toArray, List.set_cons_zero, List.set_cons_succ]
      refine wpAnyH_ready (rs := [22]) (by kernel_rfl) (by simp) ?_
      refine AllReadyH.cons (o := ⟨_, _, _, _, _, _⟩) rfl (fun K hK => ?_) AllReadyH.nil
      go_simp
      refine (same01_any _ _ _ _ _ _ _ _ _ _ _ (hoe.body.here.below (Below.refl _ _).drew) (hof.body.here.below (Below.refl _ _).drew)).mono ?_; rw [hbd]; rintro q u1 ⟨rfl, rfl⟩
      go_wp2_with fail
      refine hK.out _ _ ((Below.refl _ _).drew) (fun hHeld => ?_)
      clear hK K
      try simp only [Act.put, List.setIfInBounds_toArray, List.set_cons_zero, List.set_cons_succ]
      refine wpAnyH_take (i := 23) (oi := ⟨_, _, _, _, _, _⟩) (v := ?_) rfl (by kernel_rfl) (by kernel_rfl) (by kernel_rfl) (fun _ _ _ h => h) (Or.inl ⟨by rfl, ?_⟩) (by assumption) ?_
      rotate_left
      · intro u hSw
        go_simp
        try (with_reducible rfl)
      try simp only [Act.put, List.setIfInBounds_toArray, List.set_cons_zero, List.set_cons_succ]
      refine wpAnyH_take (i := 24) (oi := ⟨_, _, _, _, _, _⟩) (v := ?_) rfl (by kernel_rfl) (by kernel_rfl) (by kernel_rfl) (fun _ _ _ h => h) (Or.inl ⟨by rfl, ?_⟩) (by assumption) ?_
      rotate_left
      · intro u hSw
        go_simp
        try (with_reducible rfl)
      try simp only [Act.put, List.setIfInBounds_toArray, List.set_cons_zero, List.set_cons_succ]
      refine wpAnyH_done (by kernel_rfl) ?_ _

      go_wp2_with fail
      go_roundw
      case rel => exact ⟨j + 1, by go_num, by omega, hbl.drew⟩
      case measure => simp [intOf]; omega
    · obtain rfl : j = n := by omega
      have hI : ¬ (j : Int) < j := by omega
      go_wp2_with fail
      go_ret
      exact ⟨rfl, hbl⟩
end Go.Proofs.Ytbfelelngoonjaa
