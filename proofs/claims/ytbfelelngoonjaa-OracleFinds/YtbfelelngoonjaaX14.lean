/- Pb, Pd. -/
import Derived.Test.YtbfelelngoonjaaX01
import Derived.Test.YtbfelelngoonjaaX02
import Derived.Test.YtbfelelngoonjaaX03
import Derived.Test.YtbfelelngoonjaaX04
import Derived.Test.YtbfelelngoonjaaX05
import Derived.Test.YtbfelelngoonjaaX06
import Derived.Test.YtbfelelngoonjaaX10
import Derived.Test.YtbfelelngoonjaaX12
import Derived.Test.YtbfelelngoonjaaX13
import Derived.BigQuiet
import Derived.BigRegion
import Derived.ChangeKeysEq
import Derived.Deep.DeepCutAuto
import Derived.Deep.DrawnRows
import Derived.Deep.MidRow
import Derived.Deep.QuietTactic
import Derived.Deep.RegionHeld3
import Derived.Deep.RegionLaw
import Derived.Deep.RegionWith
import Derived.Deep.WholeRow
import Derived.Laws.AppendOwnNone
import Derived.Laws.BitsLemmas
import Derived.Laws.BytesArg
import Derived.Laws.CopyOwn
import Derived.Lib.SlBytesConst
import Derived.LoopIn
import Derived.LoopNIn
import Derived.OwnWalkIn
import Derived.RangeFuncBound
import Derived.RangeFuncCalls
import Derived.RangeFuncLeaves
import Derived.RangeFuncNested
import Derived.RangeFuncRecord
import Derived.Shelf.Abstract
import Derived.Shelf.RegionOpen
import Derived.TacticsInMore
import Derived.WalkKit
import Derived.WalkLawsBesides
import Derived.WalkSpells
/- Layer oracle: what the layers below give. -/
namespace Go.Proofs.Ytbfelelngoonjaa
open Go.RowKit
set_option maxRecDepth 100000
set_option linter.unusedVariables false
set_option linter.unusedSimpArgs false

structure AcOK (a : Ac) : Prop where
  b0 : 0 ≤ a.bal
  b1 : a.bal < 18446744073709551616
  n0 : 0 ≤ a.non
  n1 : a.non < 18446744073709551616
  l32 : a.lk.length = 32
  lb : Bts a.lk
structure OuOK (o : Ou) : Prop where
  t0 : 0 ≤ o.tw
  t1 : o.tw < 18446744073709551616
  a0 : 0 ≤ o.am
  a1 : o.am < 18446744073709551616
theorem e8_bts (n : Int) : Bts (e8 n) := by
  intro x hx
  simp only [e8, List.mem_map] at hx
  obtain ⟨j, -, rfl⟩ := hx
  omega
theorem acb_bts {a : Ac} (h : AcOK a) : Bts (acb a) := ((e8_bts _).app (e8_bts _)).app h.lb
theorem acb_len {a : Ac} (h : AcOK a) : (acb a).length = 48 := by simp [acb, e8_len, h.l32]
theorem oub_bts (o : Ou) : Bts (oub o) := (e8_bts _).app (e8_bts _)
theorem oub_len (o : Ou) : (oub o).length = 16 := by simp [oub, e8_len]
theorem Bts.zero {L : List Int} (h : Bts L) : Bts (0 :: L) := by
  intro x hx; rcases List.mem_cons.1 hx with rfl | h1
  · omega
  · exact h x h1
theorem Z32_bts : Bts Z32 := by
  intro x hx; simp only [Z32, List.mem_replicate] at hx; omega
theorem cnt_bts (n : Int) : Bts (cnt n) := by
  refine Bts.app ?_ (e8_bts n)
  intro x hx; simp only [List.mem_replicate] at hx; omega
theorem pr_bts (x y : List Int) : Bts (pr x y) := shl_bts _
theorem lf_bts (x : List Int) : Bts (lf x) := shl_bts _
theorem tr_bts (d : Nat) : ∀ l : List (List Int), (∀ x ∈ l, Bts x) → Bts (tr d l) := by
  cases d with
  | zero =>
    intro l h
    cases l with
    | nil => exact Z32_bts
    | cons a r => exact h a (by simp)
  | succ d => intro l h; exact pr_bts _ _
theorem al_bts (ps : List Ac) : ∀ x ∈ al ps, Bts x := by
  intro x hx; simp only [al, List.mem_map] at hx; obtain ⟨a, -, rfl⟩ := hx; exact lf_bts _
theorem ol_bts (os : List Ou) : ∀ x ∈ ol os, Bts x := by
  intro x hx; simp only [ol, List.mem_map] at hx; obtain ⟨a, -, rfl⟩ := hx; exact lf_bts _
def Ac.cells (a : Ac) : List Value := .int .u64 a.bal :: .int .u64 a.non :: by8 a.lk
def Ac.arr (a : Ac) : Array Value := a.cells.toArray
theorem Ac.len {a : Ac} (h : a.lk.length = 32) : a.cells.length = 34 := by simp [Ac.cells, by8_len, h]
theorem Ac.size {a : Ac} (h : a.lk.length = 32) : a.arr.size = 34 := by simp [Ac.arr, Ac.len h]
theorem Ac.one (a : Ac) : ∀ v ∈ a.cells, v.oneCell' = true := by
  intro v hv
  rcases List.mem_cons.1 hv with rfl | hv
  · rfl
  rcases List.mem_cons.1 hv with rfl | hv
  · rfl
  exact by8_one _ v hv
theorem Ac.oneA (a : Ac) : a.arr.all (·.oneCell') = true := all_oneCell_toArray a.one
def Ou.cells (o : Ou) : List Value := [.int .u64 o.tw, .int .u64 o.am]
def Ou.arr (o : Ou) : Array Value := o.cells.toArray
theorem Ou.one (o : Ou) : ∀ v ∈ o.cells, v.oneCell' = true := by
  intro v hv
  simp only [Ou.cells, List.mem_cons, List.mem_nil_iff, or_false] at hv
  rcases hv with rfl | rfl <;> rfl
theorem Ou.oneA (o : Ou) : o.arr.all (·.oneCell') = true := all_oneCell_toArray o.one
/-- All accounts, one behind the other. -/
def acF (ps : List Ac) : List Value := (ps.map Ac.cells).flatten
theorem acF_len {ps : List Ac} (h : ∀ a ∈ ps, a.lk.length = 32) : (acF ps).length = ps.length * 34 := by
  induction ps with
  | nil => rfl
  | cons a r ih =>
    have := ih (fun x hx => h x (by simp [hx]))
    have ha := Ac.len (h a (by simp))
    simp only [acF, List.map_cons, List.flatten_cons, List.length_append, List.length_cons] at this ⊢
    omega
theorem acF_at {ps : List Ac} (h : ∀ a ∈ ps, a.lk.length = 32) {i : Nat} {a : Ac} (he : ps[i]? = some a) {j : Nat} {v : Value} (hv : a.cells[j]? = some v) : (acF ps)[i * 34 + j]? = some v := by
  induction ps generalizing i with
  | nil => simp at he
  | cons b r ih =>
    have ha := Ac.len (h b (by simp))
    have hj : j < 34 := by
      have := (List.getElem?_eq_some_iff.1 hv).1
      rw [Ac.len (h a (List.mem_of_getElem? he))] at this; exact this
    simp only [acF, List.map_cons, List.flatten_cons]
    cases i with
    | zero =>
      simp at he
      subst he
      rw [List.getElem?_append_left (by omega)]
      simpa using hv
    | succ i =>
      have := ih (fun x hx => h x (by simp [hx])) (i := i) (by simpa using he)
      rw [List.getElem?_append_right (by omega), ha, show (i + 1) * 34 + j - 34 = i * 34 + j by omega]
      exact this
theorem acF_one (ps : List Ac) : ∀ v ∈ acF ps, v.oneCell' = true := by
  intro v hv
  simp only [acF, List.mem_flatten, List.mem_map] at hv
  obtain ⟨l, ⟨a, -, rfl⟩, hv⟩ := hv
  exact Ac.one a v hv
/-- A state's cells. -/
def stC (ps : List Ac) (sp : Option Addr) (n cap : Nat) : List Value := acF ps ++ [.slice sp n cap]
def stA (ps : List Ac) (sp : Option Addr) (n cap : Nat) : Array Value := (stC ps sp n cap).toArray
def acA (ps : List Ac) : Array Value := (acF ps).toArray
theorem stC_len {ps : List Ac} {sp : Option Addr} {n cap : Nat} (h : ps.length = 32) (h2 : ∀ a ∈ ps, a.lk.length = 32) : (stC ps sp n cap).length = 1089 := by
  simp [stC, acF_len h2, h]
theorem stA_size {ps : List Ac} {sp : Option Addr} {n cap : Nat} (h : ps.length = 32) (h2 : ∀ a ∈ ps, a.lk.length = 32) : (stA ps sp n cap).size = 1089 := by
  simp [stA, stC_len h h2]
theorem stC_one (ps : List Ac) (sp : Option Addr) (n cap : Nat) : ∀ v ∈ stC ps sp n cap, v.oneCell' = true := by
  intro v hv
  rcases List.mem_append.1 hv with h | h
  · exact acF_one ps v h
  · simp at h; subst h; rfl
theorem stA_one (ps : List Ac) (sp : Option Addr) (n cap : Nat) : (stA ps sp n cap).all (·.oneCell') = true := all_oneCell_toArray (stC_one ps sp n cap)
/-- Withdrawals one behind the other, in blocks below N. -/
structure OS (N : Nat) (w : World) (sp : Option Addr) (n cap : Nat) (os : List Ou) : Prop where
  len : Hid (n = os.length)
  nil : sp = none → n = 0 ∧ cap = 0
  le : n ≤ cap
  big : cap ≤ 9223372036854775807
  small : n ≤ 140737488355328
  at0 : 0 < n → ∃ g off, sp = some ⟨g, off, none⟩ ∧ g < N ∧ ∀ i o, os[i]? = some o → w.rangeAt g (off + i * 2) o.cells
  ok : ∀ o ∈ os, OuOK o
theorem OS.below {N : Nat} {w w' : World} {sp : Option Addr} {n cap : Nat} {os : List Ou} (h : OS N w sp n cap os) (hb : Below N w w') : OS N w' sp n cap os :=
  ⟨h.len, h.nil, h.le, h.big, h.small, fun h0 => let ⟨b, off, e, hbN, hB⟩ := h.at0 h0; ⟨b, off, e, hbN, fun i X hX => range_below (hB i X hX) hb hbN⟩, h.ok⟩
theorem OS.mono {N N' : Nat} {w : World} {sp : Option Addr} {n cap : Nat} {os : List Ou} (h : OS N w sp n cap os) (hN : N ≤ N') : OS N' w sp n cap os :=
  ⟨h.len, h.nil, h.le, h.big, h.small, fun h0 => let ⟨b, off, e, hb, hB⟩ := h.at0 h0; ⟨b, off, e, by omega, hB⟩, h.ok⟩
theorem OS.here {N : Nat} {w : World} {sp : Option Addr} {n cap : Nat} {os : List Ou} (h : OS N w sp n cap os) : OS w.heap.size w sp n cap os :=
  ⟨h.len, h.nil, h.le, h.big, h.small, fun h0 => by
    obtain ⟨b, off, e, hbN, hB⟩ := h.at0 h0
    refine ⟨b, off, e, ?_, hB⟩
    have hl : 0 < os.length := by rw [← h.len.out]; exact h0
    exact block_lt_of_cell (hB 0 os[0] (List.getElem?_eq_getElem hl) 0 _ rfl), h.ok⟩
theorem OS.nil0 (N : Nat) (w : World) : OS N w none 0 0 [] := ⟨rfl, fun _ => ⟨rfl, rfl⟩, Nat.le_refl _, by omega, by omega, fun h => absurd h (by omega), fun o h => by cases h⟩
/-- A state: its accounts, and its withdrawals in blocks below N. -/
structure SS (N : Nat) (w : World) (ps : List Ac) (sp : Option Addr) (n cap : Nat) (os : List Ou) : Prop where
  a32 : Hid (ps.length = 32)
  ok : Hid (∀ a ∈ ps, AcOK a)
  outs : OS N w sp n cap os
theorem SS.below {N : Nat} {w w' : World} {ps : List Ac} {sp : Option Addr} {n cap : Nat} {os : List Ou} (h : SS N w ps sp n cap os) (hb : Below N w w') : SS N w' ps sp n cap os := ⟨h.a32, h.ok, h.outs.below hb⟩
theorem SS.mono {N N' : Nat} {w : World} {ps : List Ac} {sp : Option Addr} {n cap : Nat} {os : List Ou} (h : SS N w ps sp n cap os) (hN : N ≤ N') : SS N' w ps sp n cap os := ⟨h.a32, h.ok, h.outs.mono hN⟩
theorem SS.here {N : Nat} {w : World} {ps : List Ac} {sp : Option Addr} {n cap : Nat} {os : List Ou} (h : SS N w ps sp n cap os) : SS w.heap.size w ps sp n cap os := ⟨h.a32, h.ok, h.outs.here⟩
theorem SS.l32 {N : Nat} {w : World} {ps : List Ac} {sp : Option Addr} {n cap : Nat} {os : List Ou} (h : SS N w ps sp n cap os) : ∀ a ∈ ps, a.lk.length = 32 := fun a ha => (h.ok.out a ha).l32
theorem size30 : (Try.prog.info? 38).map (·.size) = some 1089 := by kernel_rfl
theorem size27 : (Try.prog.info? 35).map (·.size) = some 1088 := by kernel_rfl
theorem size26 : (Try.prog.info? 34).map (·.size) = some 34 := by kernel_rfl
theorem size53 : (Try.prog.info? 89).map (·.size) = some 2 := by kernel_rfl
theorem s26 {a : Ac} (h : a.lk.length = 32) : (Try.prog.info? 34).map (·.size) = some a.arr.size := by rw [Ac.size h]; exact size26
theorem s53 (o : Ou) : (Try.prog.info? 89).map (·.size) = some o.arr.size := size53
/-- A state in its block. -/
theorem Arr.st {w : World} {g ty : Nat} {ps : List Ac} {sp : Option Addr} {n cap : Nat} (h : Arr w g ty (stA ps sp n cap)) : w.rangeAt g 0 (stC ps sp n cap) := fun j v hv => by
  rw [Nat.zero_add, h.cell]; simpa [stA] using hv
theorem Arr.stAc {w : World} {g ty : Nat} {ps : List Ac} {sp : Option Addr} {n cap : Nat} (h : Arr w g ty (stA ps sp n cap)) : w.rangeAt g 0 (acF ps) := fun j v hv => by
  refine h.st j v ?_
  unfold stC
  rw [List.getElem?_append_left (List.getElem?_eq_some_iff.1 hv).1]; exact hv
theorem Arr.stAt {w : World} {g ty : Nat} {ps : List Ac} {sp : Option Addr} {n cap : Nat} (h : Arr w g ty (stA ps sp n cap)) (h2 : ∀ a ∈ ps, a.lk.length = 32) {i : Nat} {a : Ac} (ha : ps[i]? = some a) : w.rangeAt g (i * 34) a.cells := fun j v hv => by
  have := h.stAc (i * 34 + j) v (acF_at h2 ha hv)
  rwa [Nat.zero_add] at this
theorem Arr.stOut {w : World} {g ty : Nat} {ps : List Ac} {sp : Option Addr} {n cap : Nat} (h : Arr w g ty (stA ps sp n cap)) (h1 : ps.length = 32) (h2 : ∀ a ∈ ps, a.lk.length = 32) : w.cell? ⟨g, 1088, none⟩ = some (.slice sp n cap) := by
  have := h.st 1088 (.slice sp n cap) (by
    unfold stC
    rw [List.getElem?_append_right (by rw [acF_len h2, h1]; omega), acF_len h2, h1]; rfl)
  rwa [Nat.zero_add] at this
theorem Arr.ac {w : World} {g ty : Nat} {a : Ac} (h : Arr w g ty a.arr) : w.rangeAt g 0 a.cells := fun j v hv => by
  rw [Nat.zero_add, h.cell]; simpa [Ac.arr] using hv
theorem Arr.ou {w : World} {g ty : Nat} {o : Ou} (h : Arr w g ty o.arr) : w.rangeAt g 0 o.cells := fun j v hv => by
  rw [Nat.zero_add, h.cell]; simpa [Ou.arr] using hv
theorem ac_c0 {w : World} {g o : Nat} {a : Ac} (h : w.rangeAt g o a.cells) : w.cell? ⟨g, o, none⟩ = some (.int .u64 a.bal) := by simpa using h 0 _ rfl
theorem ac_c1 {w : World} {g o : Nat} {a : Ac} (h : w.rangeAt g o a.cells) : w.cell? ⟨g, o + 1, none⟩ = some (.int .u64 a.non) := h 1 _ rfl
theorem ac_lk {w : World} {g o : Nat} {a : Ac} (h : w.rangeAt g o a.cells) : w.rangeAt g (o + 2) (by8 a.lk) := fun j v hv => by
  rw [Nat.add_assoc, Nat.add_comm 2 j]
  exact h (j + 2) v (by simpa [Ac.cells] using hv)
theorem ou_c0 {w : World} {g o : Nat} {a : Ou} (h : w.rangeAt g o a.cells) : w.cell? ⟨g, o, none⟩ = some (.int .u64 a.tw) := by simpa using h 0 _ rfl
theorem ou_c1 {w : World} {g o : Nat} {a : Ou} (h : w.rangeAt g o a.cells) : w.cell? ⟨g, o + 1, none⟩ = some (.int .u64 a.am) := h 1 _ rfl
/-- The loads and stores. -/
theorem ld30 {ops : Array Oper} {rest : List Oper} {o : Oper} {a : Act} {w : World} {Q : Exit → Act → World → Prop} (hgd : o.guard = none) (x : Operand) (ho : o.op = .load 38 x)
    (g ty : Nat) (hx : a.eval x = .pointer (some ⟨g, 0, none⟩)) (ps : List Ac) (sp : Option Addr) (n cap : Nat) (h1 : ps.length = 32) (h2 : ∀ a ∈ ps, a.lk.length = 32) (hA : Arr w g ty (stA ps sp n cap))
    (h : wpList Try.prog ops Q rest (a.put o.dst (.agg (stA ps sp n cap))) w) : wpList Try.prog ops Q (o :: rest) a w :=
  wpList_load_mid hgd 38 x ho g 0 hx (stC ps sp n cap) _ hA.st Try.underlying38 rfl (by rw [stC_len h1 h2]; exact size30) h
theorem y30 {ops : Array Oper} {S : World → Prop} {op : Oper} {a : Act} (hw : Region.wanted op (yielded ops a.tmps) = true) (x : Operand) (ho : op.op = .load 38 x)
    (g ty : Nat) (hx : a.eval x = .pointer (some ⟨g, 0, none⟩)) (ps : List Ac) (sp : Option Addr) (n cap : Nat) (h1 : ps.length = 32) (h2 : ∀ a ∈ ps, a.lk.length = 32) (hS : ∀ w, S w → Arr w g ty (stA ps sp n cap)) : YieldsIf Try.prog ops S op (.agg (stA ps sp n cap)) a :=
  yieldsIf_load_mid hw 38 x ho g 0 hx (stC ps sp n cap) _ (fun w h => (hS w h).st) Try.underlying38 rfl (by rw [stC_len h1 h2]; exact size30)
theorem ld27 {ops : Array Oper} {rest : List Oper} {o : Oper} {a : Act} {w : World} {Q : Exit → Act → World → Prop} (hgd : o.guard = none) (x : Operand) (ho : o.op = .load 35 x)
    (g ty : Nat) (hx : a.eval x = .pointer (some ⟨g, 0, none⟩)) (ps : List Ac) (sp : Option Addr) (n cap : Nat) (h1 : ps.length = 32) (h2 : ∀ a ∈ ps, a.lk.length = 32) (hA : Arr w g ty (stA ps sp n cap))
    (h : wpList Try.prog ops Q rest (a.put o.dst (.agg (acA ps))) w) : wpList Try.prog ops Q (o :: rest) a w :=
  wpList_load_mid hgd 35 x ho g 0 hx (acF ps) _ hA.stAc Try.underlying35 rfl (by rw [acF_len h2, h1]; exact size27) h
theorem ld26 {ops : Array Oper} {rest : List Oper} {o : Oper} {a : Act} {w : World} {Q : Exit → Act → World → Prop} (hgd : o.guard = none) (x : Operand) (ho : o.op = .load 34 x)
    (b off : Nat) (hx : a.eval x = .pointer (some ⟨b, off, none⟩)) (e : Ac) (he : e.lk.length = 32) (hc : w.rangeAt b off e.cells)
    (h : wpList Try.prog ops Q rest (a.put o.dst (.agg e.arr)) w) : wpList Try.prog ops Q (o :: rest) a w :=
  wpList_load_mid hgd 34 x ho b off hx e.cells _ hc Try.underlying34 rfl (by rw [Ac.len he]; exact size26) h
theorem y26 {ops : Array Oper} {S : World → Prop} {op : Oper} {a : Act} (hw : Region.wanted op (yielded ops a.tmps) = true) (x : Operand) (ho : op.op = .load 34 x)
    (b off : Nat) (hx : a.eval x = .pointer (some ⟨b, off, none⟩)) (e : Ac) (he : e.lk.length = 32) (hS : ∀ w, S w → w.rangeAt b off e.cells) : YieldsIf Try.prog ops S op (.agg e.arr) a :=
  yieldsIf_load_mid hw 34 x ho b off hx e.cells _ hS Try.underlying34 rfl (by rw [Ac.len he]; exact size26)
theorem st26n {ops : Array Oper} {rest : List Oper} {o : Oper} {a : Act} {Q : Exit → Act → World → Prop} (hgd : o.guard = none) (x y : Operand) (ho : o.op = .store 34 x y) (W : World) (g : Nat) (hgW : W.heap.size = g) {z : Array Value} (hz : z.size = 34)
    (e : Ac) (hx : a.eval x = .pointer (some ⟨g, 0, none⟩)) (hy : a.eval y = .agg e.arr) (he : e.lk.length = 32)
    (h : wpList Try.prog ops Q rest (a.put o.dst undef) (W.alloc (.cells e.arr 34))) : wpList Try.prog ops Q (o :: rest) a (W.alloc (.cells z 34)) := by
  subst hgW
  exact wpList_store_new W z 34 hgd 34 x y ho e.arr hx hy (s26 he) (by rw [hz, Ac.size he]) e.oneA h
theorem ld53 {ops : Array Oper} {rest : List Oper} {o : Oper} {a : Act} {w : World} {Q : Exit → Act → World → Prop} (hgd : o.guard = none) (x : Operand) (ho : o.op = .load 89 x)
    (b off : Nat) (hx : a.eval x = .pointer (some ⟨b, off, none⟩)) (e : Ou) (hc : w.rangeAt b off e.cells)
    (h : wpList Try.prog ops Q rest (a.put o.dst (.agg e.arr)) w) : wpList Try.prog ops Q (o :: rest) a w :=
  wpList_load_mid hgd 89 x ho b off hx e.cells _ hc Try.underlying89 rfl (by exact size53) h
theorem y53 {ops : Array Oper} {S : World → Prop} {op : Oper} {a : Act} (hw : Region.wanted op (yielded ops a.tmps) = true) (x : Operand) (ho : op.op = .load 89 x)
    (b off : Nat) (hx : a.eval x = .pointer (some ⟨b, off, none⟩)) (e : Ou) (hS : ∀ w, S w → w.rangeAt b off e.cells) : YieldsIf Try.prog ops S op (.agg e.arr) a :=
  yieldsIf_load_mid hw 89 x ho b off hx e.cells _ hS Try.underlying89 rfl (by exact size53)
theorem st53n {ops : Array Oper} {rest : List Oper} {o : Oper} {a : Act} {Q : Exit → Act → World → Prop} (hgd : o.guard = none) (x y : Operand) (ho : o.op = .store 89 x y) (W : World) (g : Nat) (hgW : W.heap.size = g) {z : Array Value} (hz : z.size = 2)
    (e : Ou) (hx : a.eval x = .pointer (some ⟨g, 0, none⟩)) (hy : a.eval y = .agg e.arr)
    (h : wpList Try.prog ops Q rest (a.put o.dst undef) (W.alloc (.cells e.arr 89))) : wpList Try.prog ops Q (o :: rest) a (W.alloc (.cells z 89)) := by
  subst hgW
  exact wpList_store_new W z 89 hgd 89 x y ho e.arr hx hy (s53 e) (by rw [hz]; rfl) e.oneA h
/-- One account of the array. -/
theorem acA_part {ps : List Ac} (h2 : ∀ a ∈ ps, a.lk.length = 32) {k : Nat} {a : Ac} (ha : ps[k]? = some a) : (acA ps).extract (k * 34) (k * 34 + 34) = a.arr := by
  have hl := Ac.len (h2 a (List.mem_of_getElem? ha))
  have hk := (List.getElem?_eq_some_iff.1 ha).1
  have hs : (acA ps).size = ps.length * 34 := by simp [acA, acF_len h2]
  apply Array.ext_getElem?
  intro i
  by_cases hi : i < 34
  · have hx : ((acA ps).extract (k * 34) (k * 34 + 34))[i]? = (acA ps)[k * 34 + i]? := by
      rw [Array.getElem?_extract]; simp; omega
    have : i < a.cells.length := by omega
    have e := acF_at h2 ha (j := i) (List.getElem?_eq_getElem this)
    rw [hx]
    unfold acA Ac.arr
    rw [List.getElem?_toArray, List.getElem?_toArray, e, List.getElem?_eq_getElem this]
  · have e1 : (a.arr)[i]? = none := by
      rw [Array.getElem?_eq_none_iff, Ac.size (h2 a (List.mem_of_getElem? ha))]; omega
    rw [e1, Array.getElem?_eq_none_iff, Array.size_extract]
    omega
theorem index27 {ps : List Ac} (h2 : ∀ a ∈ ps, a.lk.length = 32) {k : Nat} (hk : k < 32) {a : Ac} (ha : ps[k]? = some a) (w : World) : (Instr.index 35 (.agg (acA ps)) (.int .i64 k)).run Try.prog w = .ok (.agg a.arr) w := by
  have hI : (0 : Int) ≤ k ∧ (k : Int) < 32 := by omega
  have hsz : (sizeOf 34).run Try.prog w = .ok 34 w := by
    have h := size26
    cases hq : Try.prog.info? 34 with
    | none => rw [hq] at h; cases h
    | some i =>
      rw [hq] at h
      have hz : i.size = 34 := by simpa using h
      simp [sizeOf, typeInfo, hq, hz]
  have hag : (isAgg 34).run Try.prog w = .ok true w := by
    unfold isAgg
    rw [Sem.run_bind, run_underlying Try.underlying34 w]
    rfl
  have hu : (underlying 35).run Try.prog w = .ok (.array 32 34) w := run_underlying Try.underlying35 w
  simp only [Instr.index, asIntOf, Sem.run_bind, Sem.run_pure, Result.andThen_ok, hu]
  rw [if_pos (show (0 : Int) ≤ k ∧ (k : Int) < ((32 : Nat) : Int) from hI)]
  simp only [Sem.run_bind, hsz, Result.andThen_ok, part, hag, if_true, Sem.run_pure, Int.toNat_natCast, acA_part h2 ha]
end Go.Proofs.Ytbfelelngoonjaa
/- Layer oracle: what the layers below give. -/
namespace Go.Proofs.Ytbfelelngoonjaa
open Go.RowKit
set_option maxRecDepth 100000
set_option linter.unusedVariables false
set_option linter.unusedSimpArgs false

theorem own_mono {w : World} {base base' e s n : Nat} {v : Value} {xs : List Value} (h : w.ownsRow base e s v n xs) (hb : base' ≤ base) : w.ownsRow base' e s v n xs :=
  ⟨h.1, h.2.imp id (fun ⟨g, cap, cur, q, hg, r⟩ => ⟨g, cap, cur, q, Nat.le_trans hb hg, r⟩)⟩
theorem e8_take {n : Int} {j : Nat} (hj : j < 8) : (e8 n).take (j + 1) = (e8 n).take j ++ [n / 2 ^ (56 - 8 * j) % 256] := by
  rw [List.take_add_one]
  congr 1
  simp [e8, hj]
theorem range_sl {w : World} {g o : Nat} {L : List Int} (h : w.rangeAt g o (by8 L)) : SlL w (some ⟨g, o, none⟩) L := fun _ => ⟨g, o, rfl, fun t ht => h t _ (by8_get ht)⟩
set_option maxHeartbeats 1000000 in
theorem appNum_any (base m : Nat) (v : Value) (L : List Int) (n : Int) (w : World) (hown : w.ownsRow base 5 1 v m (by8 L)) (hbase : base ≤ w.heap.size) (hm : m ≤ 1000) :
    Calls Try.prog 99 #[v, .int .u64 n] w fun e w' => ∃ v', e = .returned v' ∧ w'.ownsRow base 5 1 v' (m + 8) (by8 (L ++ e8 n)) ∧ Below base w w' := by
  go_enter Try.func99, Try.ntmps99
  go_wp2_with fail
  go_loopw [0, 5] (fun u q wr => ∃ j : Nat, q = .int .i64 (56 - 8 * (j : Int)) ∧ j ≤ 8 ∧ wr.ownsRow base 5 1 u (m + j) (by8 (L ++ (e8 n).take j)) ∧ Below base w wr ∧ base ≤ wr.heap.size) (fun _ q _ => (intOf q + 8).toNat)
  case atStart => exact ⟨0, rfl, by omega, by simpa using hown, Below.refl _ _, hbase⟩
  case round =>
    obtain ⟨j, rfl, hj, hou, hbl, hsz⟩ := hrel
    clear hown
    by_cases hlt : j < 8
    · have hs0 : (0 : Int) ≤ 56 - 8 * (j : Int) := by omega
      have het : Hid ((e8 n).take (j + 1) = (e8 n).take j ++ [n / 2 ^ (56 - 8 * j) % 256]) := Hid.mk' (e8_take hlt)
      go_wp2_with (at_builtin; go_must (refine append_bytes (by rfl) (.tmp 10) (.tmp 15) (by rfl) base _ (m + j) (L ++ (e8 n).take j) (by rfl) (hou.alloc _) (some ⟨wr.heap.size, 0, none⟩) 1 1 [n / 2 ^ (56 - 8 * j) % 256] (by rfl) (by rfl) (fun h => by cases h) (Arr.sl (Arr.new wr 5 _)) (by omega) (by simp; omega) ?_; intro v2 w2 hown2 hg2; have hB2 := (hbl.alloc hsz _).grown hg2 (by simp; omega) (fun k e => own_ge hou k e); have hs2 : base ≤ w2.heap.size := (by have := hg2.size; simp at this; omega)))
      go_roundw
      case rel => exact ⟨j + 1, by go_num, by omega, by rw [het.out, ← List.append_assoc]; exact hown2, hB2, hs2⟩
      case measure => simp [intOf]; omega
    · obtain rfl : j = 8 := by omega
      have e8' : Hid ((e8 n).take 8 = e8 n) := Hid.mk' (List.take_of_length_le (by rw [e8_len]; exact Nat.le_refl _))
      go_wp2_with fail
      go_ret
      exact ⟨_, rfl, by rw [← e8'.out]; exact hou, hbl⟩
set_option maxHeartbeats 1000000 in
theorem acBytes_any (a : Ac) (w : World) (ha : AcOK a) :
    Calls Try.prog 84 #[.agg a.arr] w fun e w' => ∃ v, e = .returned v ∧ w'.ownsRow w.heap.size 5 1 v 48 (by8 (acb a)) ∧ Below w.heap.size w w' := by
  obtain ⟨i0, hi, hz0, hz1, hz2⟩ := info_parts info5
  have A0 := Arr.new w 34 a.arr
  have H32 := Hid.mk' ha.l32
  have c0 := ac_c0 A0.ac
  go_enter Try.func84, Try.ntmps84
  go_upto_region 2 with (at_make; go_must (refine wpList_make_own _ (by rfl) (.const (.int .i64 0)) (.const (.int .i64 48)) 29 (by rfl) (w.heap.size + 1) 5 i0 (.int .u8 0) 1 Try.underlying29 hi hz0 hz1 .i64 .i64 _ 48 (by rfl) (by rfl) (by omega) (by rw [hz2]; omega) (Nat.le_trans (by omega) maxLen_ge) (by simp) ?_; intro w1 hown1 hg1; have hown1 : w1.ownsRow (w.heap.size + 1) 5 1 (.slice (some ⟨w.heap.size + 1, 0, none⟩) 0 48) 0 (by8 []) := (by simpa [by8] using hown1); have hs1 : w.heap.size + 1 ≤ w1.heap.size := (by have := hg1.size; simpa using this); have A1 : Arr w1 w.heap.size 34 a.arr := A0.grown hg1 (by simp); have hB1 : Below w.heap.size w w1 := ((Below.refl _ _).alloc (Nat.le_refl _) _).grown hg1 (by simp) (by simp)))
  clear c0 A0
  have c1 := ac_c0 A1.ac
  go_upto_region 3 with (go_at_call 99; go_must (refine (appNum_any (w.heap.size + 1) 0 _ [] a.bal _ hown1 hs1 (by omega)).mono ?_; rintro e w2 ⟨v2, rfl, hown2, hb2⟩))
  have A2 := A1.below hb2 (by omega)
  have hB2 := hB1.trans (hb2.mono (by omega))
  have hs2 := Nat.le_trans hs1 hb2.size
  have c2 := ac_c1 A2.ac
  go_upto_region 4 with (go_at_call 99; go_must (refine (appNum_any (w.heap.size + 1) (0 + 8) _ _ a.non _ hown2 hs2 (by omega)).mono ?_; rintro e w3 ⟨v3, rfl, hown3, hb3⟩))
  have A3 := A2.below hb3 (by omega)
  have hB3 := hB2.trans (hb3.mono (by omega))
  have hs3 := Nat.le_trans hs2 hb3.size
  have hl3 := range_sl (ac_lk A3.ac)
  go_wp2_with (at_builtin; go_must (refine append_bytes (by rfl) (.tmp 13) (.tmp 15) (by rfl) (w.heap.size + 1) _ (0 + 8 + 8) ([] ++ e8 a.bal ++ e8 a.non) (by rfl) hown3 (some ⟨w.heap.size, 0 + 2, none⟩) 32 32 a.lk (by rfl) H32.out.symm (fun h => by cases h) hl3 (by omega) hs3 ?_; intro v4 w4 hown4 hg4; have hB4 := hB3.grown hg4 hB3.size (fun k e => by have := own_ge hown3 k e; omega)))
  go_ret
  refine ⟨v4, rfl, ?_, hB4⟩
  have e : acb a = [] ++ e8 a.bal ++ e8 a.non ++ a.lk := rfl
  rw [e]
  exact own_mono hown4 (by omega)
set_option maxHeartbeats 1000000 in
theorem ouBytes_any (a : Ou) (w : World) :
    Calls Try.prog 86 #[.agg a.arr] w fun e w' => ∃ v, e = .returned v ∧ w'.ownsRow w.heap.size 5 1 v 16 (by8 (oub a)) ∧ Below w.heap.size w w' := by
  obtain ⟨i0, hi, hz0, hz1, hz2⟩ := info_parts info5
  have A0 := Arr.new w 89 a.arr
  go_enter Try.func86, Try.ntmps86
  go_upto_region 2 with (at_make; go_must (refine wpList_make_own _ (by rfl) (.const (.int .i64 0)) (.const (.int .i64 16)) 29 (by rfl) (w.heap.size + 1) 5 i0 (.int .u8 0) 1 Try.underlying29 hi hz0 hz1 .i64 .i64 _ 16 (by rfl) (by rfl) (by omega) (by rw [hz2]; omega) (Nat.le_trans (by omega) maxLen_ge) (by simp) ?_; intro w1 hown1 hg1; have hown1 : w1.ownsRow (w.heap.size + 1) 5 1 (.slice (some ⟨w.heap.size + 1, 0, none⟩) 0 16) 0 (by8 []) := (by simpa [by8] using hown1); have hs1 : w.heap.size + 1 ≤ w1.heap.size := (by have := hg1.size; simpa using this); have A1 : Arr w1 w.heap.size 89 a.arr := A0.grown hg1 (by simp); have hB1 : Below w.heap.size w w1 := ((Below.refl _ _).alloc (Nat.le_refl _) _).grown hg1 (by simp) (by simp)))
  clear A0
  have c1 := ou_c0 A1.ou
  go_upto_region 3 with (go_at_call 99; go_must (refine (appNum_any (w.heap.size + 1) 0 _ [] a.tw _ hown1 hs1 (by omega)).mono ?_; rintro e w2 ⟨v2, rfl, hown2, hb2⟩))
  have A2 := A1.below hb2 (by omega)
  have hB2 := hB1.trans (hb2.mono (by omega))
  have hs2 := Nat.le_trans hs1 hb2.size
  have c2 := ou_c1 A2.ou
  go_wp2_with (go_at_call 99; go_must (refine (appNum_any (w.heap.size + 1) (0 + 8) _ _ a.am _ hown2 hs2 (by omega)).mono ?_; rintro e w3 ⟨v3, rfl, hown3, hb3⟩))
  have hB3 := hB2.trans (hb3.mono (by omega))
  go_ret
  refine ⟨v3, rfl, ?_, hB3⟩
  have e : oub a = [] ++ e8 a.tw ++ e8 a.am := rfl
  rw [e]
  exact own_mono hown3 (by omega)
end Go.Proofs.Ytbfelelngoonjaa
