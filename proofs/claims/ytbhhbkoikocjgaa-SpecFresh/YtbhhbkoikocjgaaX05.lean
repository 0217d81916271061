/- Pa, Pb, La. -/
import Derived.Test.YtbhhbkoikocjgaaX04
import Derived.BigQuiet
import Derived.BigRegion
import Derived.ChangeKeysEq
import Derived.Deep.DeepCutAuto
import Derived.Deep.DrawnRows
import Derived.Deep.MidRow
import Derived.Deep.QuietTactic
import Derived.Deep.RegionHeld3
import Derived.Deep.RegionLaw
import Derived.Deep.RegionWith
import Derived.Deep.WholeRow
import Derived.JoinedTies
import Derived.KernelRfl
import Derived.Laws.AppendOwnNone
import Derived.Laws.BytesArg
import Derived.Laws.CopyOwn
import Derived.Lib.SlBytesConst
import Derived.WalkKit
import Derived.WalkLawsBesides
import Derived.WalkSpells
import GoSem.Claim
import GoSem.ClaimJoined
import GoSem.ClaimMapViews
import Derived.Test.YtbhhbkoikocjgaaX01
import Derived.Test.YtbhhbkoikocjgaaX02
import Derived.Test.YtbhhbkoikocjgaaX03
import Derived.ChangeOld
import Derived.Great.BuildSlice
import Derived.Great.FillDense
import Derived.Laws.BitsLemmas
import Derived.Laws.OwnMore
import Derived.Laws.Tables
import Derived.LoopIn
import Derived.LoopNIn
import Derived.Maps.AppendAt
import Derived.OpenShut
import Derived.OwnWalkIn
import Derived.ProofKit
import Derived.RangeFuncBound
import Derived.RangeFuncCalls
import Derived.RangeFuncLeaves
import Derived.RangeFuncNested
import Derived.RangeFuncRecord
import Derived.Shelf.Abstract
import Derived.Shelf.RegionOpen
import Derived.ShutString
import Derived.SizedLaws
import Derived.TacticsInMore
/- Layer spec: what the layers below give. -/
namespace Go.Proofs.Ytbhhbkoikocjgaa
open Go.RowKit
set_option maxRecDepth 100000
set_option linter.unusedVariables false
set_option linter.unusedSimpArgs false

/-- A number in eight bytes. -/
def e8 (n : Int) : List Int := (List.range 8).map fun j => n / 2 ^ (56 - 8 * j) % 256
theorem e8_len (n : Int) : (e8 n).length = 8 := by simp [e8]
/-- An account. -/
structure Ac where
  bal : Int
  non : Int
  lk : List Int
structure Ou where
  tw : Int
  am : Int
/-- Its bytes. -/
def acb (a : Ac) : List Int := e8 a.bal ++ e8 a.non ++ a.lk
def oub (o : Ou) : List Int := e8 o.tw ++ e8 o.am
/-- A leaf. -/
def lf (b : List Int) : List Int := shl (0 :: b)
def al (ps : List Ac) : List (List Int) := ps.map fun a => lf (acb a)
def ol (os : List Ou) : List (List Int) := os.map fun o => lf (oub o)
/-- The sum that stands for a number. -/
def cnt (n : Int) : List Int := List.replicate 24 0 ++ e8 n
/-- All balances together. -/
def tt : List Ac → Int → Option Int
  | [], t => some t
  | a :: r, t => if a.bal > 4611686018427387904 - t then none else tt r (t + a.bal)
def may (ps : List Ac) (n : Nat) : Bool := (tt ps 0).isSome && decide (n ≤ 32)
end Go.Proofs.Ytbhhbkoikocjgaa
/- Layer spec: what the layers below give. -/
namespace Go.Proofs.Ytbhhbkoikocjgaa
open Go.RowKit
set_option maxRecDepth 100000
set_option linter.unusedVariables false
set_option linter.unusedSimpArgs false

structure AcOK (a : Ac) : Prop where
  b0 : 0 ≤ a.bal
  b1 : a.bal < 18446744073709551616
  n0 : 0 ≤ a.non
  n1 : a.non < 18446744073709551616
  l32 : a.lk.length = 32
  lb : Bts a.lk
structure OuOK (o : Ou) : Prop where
  t0 : 0 ≤ o.tw
  t1 : o.tw < 18446744073709551616
  a0 : 0 ≤ o.am
  a1 : o.am < 18446744073709551616
theorem e8_bts (n : Int) : Bts (e8 n) := by
  intro x hx
  simp only [e8, List.mem_map] at hx
  obtain ⟨j, -, rfl⟩ := hx
  omega
theorem acb_bts {a : Ac} (h : AcOK a) : Bts (acb a) := ((e8_bts _).app (e8_bts _)).app h.lb
theorem acb_len {a : Ac} (h : AcOK a) : (acb a).length = 48 := by simp [acb, e8_len, h.l32]
theorem oub_bts (o : Ou) : Bts (oub o) := (e8_bts _).app (e8_bts _)
theorem oub_len (o : Ou) : (oub o).length = 16 := by simp [oub, e8_len]
theorem Bts.zero {L : List Int} (h : Bts L) : Bts (0 :: L) := by
  intro x hx; rcases List.mem_cons.1 hx with rfl | h1
  · omega
  · exact h x h1
theorem Z32_bts : Bts Z32 := by
  intro x hx; simp only [Z32, List.mem_replicate] at hx; omega
theorem cnt_bts (n : Int) : Bts (cnt n) := by
  refine Bts.app ?_ (e8_bts n)
  intro x hx; simp only [List.mem_replicate] at hx; omega
theorem pr_bts (x y : List Int) : Bts (pr x y) := shl_bts _
theorem lf_bts (x : List Int) : Bts (lf x) := shl_bts _
theorem tr_bts (d : Nat) : ∀ l : List (List Int), (∀ x ∈ l, Bts x) → Bts (tr d l) := by
  cases d with
  | zero =>
    intro l h
    cases l with
    | nil => exact Z32_bts
    | cons a r => exact h a (by simp)
  | succ d => intro l h; exact pr_bts _ _
theorem al_bts (ps : List Ac) : ∀ x ∈ al ps, Bts x := by
  intro x hx; simp only [al, List.mem_map] at hx; obtain ⟨a, -, rfl⟩ := hx; exact lf_bts _
theorem ol_bts (os : List Ou) : ∀ x ∈ ol os, Bts x := by
  intro x hx; simp only [ol, List.mem_map] at hx; obtain ⟨a, -, rfl⟩ := hx; exact lf_bts _
def Ac.cells (a : Ac) : List Value := .int .u64 a.bal :: .int .u64 a.non :: by8 a.lk
def Ac.arr (a : Ac) : Array Value := a.cells.toArray
theorem Ac.len {a : Ac} (h : a.lk.length = 32) : a.cells.length = 34 := by simp [Ac.cells, by8_len, h]
theorem Ac.size {a : Ac} (h : a.lk.length = 32) : a.arr.size = 34 := by simp [Ac.arr, Ac.len h]
theorem Ac.one (a : Ac) : ∀ v ∈ a.cells, v.oneCell' = true := by
  intro v hv
  rcases List.mem_cons.1 hv with rfl | hv
  · rfl
  rcases List.mem_cons.1 hv with rfl | hv
  · rfl
  exact by8_one _ v hv
theorem Ac.oneA (a : Ac) : a.arr.all (·.oneCell') = true := all_oneCell_toArray a.one
def Ou.cells (o : Ou) : List Value := [.int .u64 o.tw, .int .u64 o.am]
def Ou.arr (o : Ou) : Array Value := o.cells.toArray
theorem Ou.one (o : Ou) : ∀ v ∈ o.cells, v.oneCell' = true := by
  intro v hv
  simp only [Ou.cells, List.mem_cons, List.mem_nil_iff, or_false] at hv
  rcases hv with rfl | rfl <;> rfl
theorem Ou.oneA (o : Ou) : o.arr.all (·.oneCell') = true := all_oneCell_toArray o.one
/-- All accounts, one behind the other. -/
def acF (ps : List Ac) : List Value := (ps.map Ac.cells).flatten
theorem acF_len {ps : List Ac} (h : ∀ a ∈ ps, a.lk.length = 32) : (acF ps).length = ps.length * 34 := by
  induction ps with
  | nil => rfl
  | cons a r ih =>
    have := ih (fun x hx => h x (by simp [hx]))
    have ha := Ac.len (h a (by simp))
    simp only [acF, List.map_cons, List.flatten_cons, List.length_append, List.length_cons] at this ⊢
    omega
theorem acF_at {ps : List Ac} (h : ∀ a ∈ ps, a.lk.length = 32) {i : Nat} {a : Ac} (he : ps[i]? = some a) {j : Nat} {v : Value} (hv : a.cells[j]? = some v) : (acF ps)[i * 34 + j]? = some v := by
  induction ps generalizing i with
  | nil => simp at he
  | cons b r ih =>
    have ha := Ac.len (h b (by simp))
    have hj : j < 34 := by
      have := (List.getElem?_eq_some_iff.1 hv).1
      rw [Ac.len (h a (List.mem_of_getElem? he))] at this; exact this
    simp only [acF, List.map_cons, List.flatten_cons]
    cases i with
    | zero =>
      simp at he
      subst he
      rw [List.getElem?_append_left (by omega)]
      simpa using hv
    | succ i =>
      have := ih (fun x hx => h x (by simp [hx])) (i := i) (by simpa using he)
      rw [List.getElem?_append_right (by omega), ha, show (i + 1) * 34 + j - 34 = i * 34 + j by omega]
      exact this
theorem acF_one (ps : List Ac) : ∀ v ∈ acF ps, v.oneCell' = true := by
  intro v hv
  simp only [acF, List.mem_flatten, List.mem_map] at hv
  obtain ⟨l, ⟨a, -, rfl⟩, hv⟩ := hv
  exact Ac.one a v hv
/-- A state's cells. -/
def stC (ps : List Ac) (sp : Option Addr) (n cap : Nat) : List Value := acF ps ++ [.slice sp n cap]
def stA (ps : List Ac) (sp : Option Addr) (n cap : Nat) : Array Value := (stC ps sp n cap).toArray
def acA (ps : List Ac) : Array Value := (acF ps).toArray
theorem stC_len {ps : List Ac} {sp : Option Addr} {n cap : Nat} (h : ps.length = 32) (h2 : ∀ a ∈ ps, a.lk.length = 32) : (stC ps sp n cap).length = 1089 := by
  simp [stC, acF_len h2, h]
theorem stA_size {ps : List Ac} {sp : Option Addr} {n cap : Nat} (h : ps.length = 32) (h2 : ∀ a ∈ ps, a.lk.length = 32) : (stA ps sp n cap).size = 1089 := by
  simp [stA, stC_len h h2]
theorem stC_one (ps : List Ac) (sp : Option Addr) (n cap : Nat) : ∀ v ∈ stC ps sp n cap, v.oneCell' = true := by
  intro v hv
  rcases List.mem_append.1 hv with h | h
  · exact acF_one ps v h
  · simp at h; subst h; rfl
theorem stA_one (ps : List Ac) (sp : Option Addr) (n cap : Nat) : (stA ps sp n cap).all (·.oneCell') = true := all_oneCell_toArray (stC_one ps sp n cap)
/-- Withdrawals one behind the other, in blocks below N. -/
structure OS (N : Nat) (w : World) (sp : Option Addr) (n cap : Nat) (os : List Ou) : Prop where
  len : Hid (n = os.length)
  nil : sp = none → n = 0 ∧ cap = 0
  le : n ≤ cap
  big : cap ≤ 9223372036854775807
  small : n ≤ 140737488355328
  at0 : 0 < n → ∃ g off, sp = some ⟨g, off, none⟩ ∧ g < N ∧ ∀ i o, os[i]? = some o → w.rangeAt g (off + i * 2) o.cells
  ok : ∀ o ∈ os, OuOK o
theorem OS.below {N : Nat} {w w' : World} {sp : Option Addr} {n cap : Nat} {os : List Ou} (h : OS N w sp n cap os) (hb : Below N w w') : OS N w' sp n cap os :=
  ⟨h.len, h.nil, h.le, h.big, h.small, fun h0 => let ⟨b, off, e, hbN, hB⟩ := h.at0 h0; ⟨b, off, e, hbN, fun i X hX => range_below (hB i X hX) hb hbN⟩, h.ok⟩
theorem OS.mono {N N' : Nat} {w : World} {sp : Option Addr} {n cap : Nat} {os : List Ou} (h : OS N w sp n cap os) (hN : N ≤ N') : OS N' w sp n cap os :=
  ⟨h.len, h.nil, h.le, h.big, h.small, fun h0 => let ⟨b, off, e, hb, hB⟩ := h.at0 h0; ⟨b, off, e, by omega, hB⟩, h.ok⟩
theorem OS.here {N : Nat} {w : World} {sp : Option Addr} {n cap : Nat} {os : List Ou} (h : OS N w sp n cap os) : OS w.heap.size w sp n cap os :=
  ⟨h.len, h.nil, h.le, h.big, h.small, fun h0 => by
    obtain ⟨b, off, e, hbN, hB⟩ := h.at0 h0
    refine ⟨b, off, e, ?_, hB⟩
    have hl : 0 < os.length := by rw [← h.len.out]; exact h0
    exact block_lt_of_cell (hB 0 os[0] (List.getElem?_eq_getElem hl) 0 _ rfl), h.ok⟩
theorem OS.nil0 (N : Nat) (w : World) : OS N w none 0 0 [] := ⟨rfl, fun _ => ⟨rfl, rfl⟩, Nat.le_refl _, by omega, by omega, fun h => absurd h (by omega), fun o h => by cases h⟩
/-- A state: its accounts, and its withdrawals in blocks below N. -/
structure SS (N : Nat) (w : World) (ps : List Ac) (sp : Option Addr) (n cap : Nat) (os : List Ou) : Prop where
  a32 : Hid (ps.length = 32)
  ok : Hid (∀ a ∈ ps, AcOK a)
  outs : OS N w sp n cap os
theorem SS.below {N : Nat} {w w' : World} {ps : List Ac} {sp : Option Addr} {n cap : Nat} {os : List Ou} (h : SS N w ps sp n cap os) (hb : Below N w w') : SS N w' ps sp n cap os := ⟨h.a32, h.ok, h.outs.below hb⟩
theorem SS.mono {N N' : Nat} {w : World} {ps : List Ac} {sp : Option Addr} {n cap : Nat} {os : List Ou} (h : SS N w ps sp n cap os) (hN : N ≤ N') : SS N' w ps sp n cap os := ⟨h.a32, h.ok, h.outs.mono hN⟩
theorem SS.here {N : Nat} {w : World} {ps : List Ac} {sp : Option Addr} {n cap : Nat} {os : List Ou} (h : SS N w ps sp n cap os) : SS w.heap.size w ps sp n cap os := ⟨h.a32, h.ok, h.outs.here⟩
theorem SS.l32 {N : Nat} {w : World} {ps : List Ac} {sp : Option Addr} {n cap : Nat} {os : List Ou} (h : SS N w ps sp n cap os) : ∀ a ∈ ps, a.lk.length = 32 := fun a ha => (h.ok.out a ha).l32
theorem size30 : (Try.prog.info? 30).map (·.size) = some 1089 := by kernel_rfl
theorem size27 : (Try.prog.info? 27).map (·.size) = some 1088 := by kernel_rfl
theorem size26 : (Try.prog.info? 26).map (·.size) = some 34 := by kernel_rfl
theorem size53 : (Try.prog.info? 66).map (·.size) = some 2 := by kernel_rfl
theorem s26 {a : Ac} (h : a.lk.length = 32) : (Try.prog.info? 26).map (·.size) = some a.arr.size := by rw [Ac.size h]; exact size26
theorem s53 (o : Ou) : (Try.prog.info? 66).map (·.size) = some o.arr.size := size53
/-- A state in its block. -/
theorem Arr.st {w : World} {g ty : Nat} {ps : List Ac} {sp : Option Addr} {n cap : Nat} (h : Arr w g ty (stA ps sp n cap)) : w.rangeAt g 0 (stC ps sp n cap) := fun j v hv => by
  rw [Nat.zero_add, h.cell]; simpa [stA] using hv
theorem Arr.stAc {w : World} {g ty : Nat} {ps : List Ac} {sp : Option Addr} {n cap : Nat} (h : Arr w g ty (stA ps sp n cap)) : w.rangeAt g 0 (acF ps) := fun j v hv => by
  refine h.st j v ?_
  unfold stC
  rw [List.getElem?_append_left (List.getElem?_eq_some_iff.1 hv).1]; exact hv
theorem Arr.stAt {w : World} {g ty : Nat} {ps : List Ac} {sp : Option Addr} {n cap : Nat} (h : Arr w g ty (stA ps sp n cap)) (h2 : ∀ a ∈ ps, a.lk.length = 32) {i : Nat} {a : Ac} (ha : ps[i]? = some a) : w.rangeAt g (i * 34) a.cells := fun j v hv => by
  have := h.stAc (i * 34 + j) v (acF_at h2 ha hv)
  rwa [Nat.zero_add] at this
theorem Arr.stOut {w : World} {g ty : Nat} {ps : List Ac} {sp : Option Addr} {n cap : Nat} (h : Arr w g ty (stA ps sp n cap)) (h1 : ps.length = 32) (h2 : ∀ a ∈ ps, a.lk.length = 32) : w.cell? ⟨g, 1088, none⟩ = some (.slice sp n cap) := by
  have := h.st 1088 (.slice sp n cap) (by
    unfold stC
    rw [List.getElem?_append_right (by rw [acF_len h2, h1]; omega), acF_len h2, h1]; rfl)
  rwa [Nat.zero_add] at this
theorem Arr.ac {w : World} {g ty : Nat} {a : Ac} (h : Arr w g ty a.arr) : w.rangeAt g 0 a.cells := fun j v hv => by
  rw [Nat.zero_add, h.cell]; simpa [Ac.arr] using hv
theorem Arr.ou {w : World} {g ty : Nat} {o : Ou} (h : Arr w g ty o.arr) : w.rangeAt g 0 o.cells := fun j v hv => by
  rw [Nat.zero_add, h.cell]; simpa [Ou.arr] using hv
theorem ac_c0 {w : World} {g o : Nat} {a : Ac} (h : w.rangeAt g o a.cells) : w.cell? ⟨g, o, none⟩ = some (.int .u64 a.bal) := by simpa using h 0 _ rfl
theorem ac_c1 {w : World} {g o : Nat} {a : Ac} (h : w.rangeAt g o a.cells) : w.cell? ⟨g, o + 1, none⟩ = some (.int .u64 a.non) := h 1 _ rfl
theorem ac_lk {w : World} {g o : Nat} {a : Ac} (h : w.rangeAt g o a.cells) : w.rangeAt g (o + 2) (by8 a.lk) := fun j v hv => by
  rw [Nat.add_assoc, Nat.add_comm 2 j]
  exact h (j + 2) v (by simpa [Ac.cells] using hv)
theorem ou_c0 {w : World} {g o : Nat} {a : Ou} (h : w.rangeAt g o a.cells) : w.cell? ⟨g, o, none⟩ = some (.int .u64 a.tw) := by simpa using h 0 _ rfl
theorem ou_c1 {w : World} {g o : Nat} {a : Ou} (h : w.rangeAt g o a.cells) : w.cell? ⟨g, o + 1, none⟩ = some (.int .u64 a.am) := h 1 _ rfl
/-- The loads and stores. -/
theorem ld30 {ops : Array Oper} {rest : List Oper} {o : Oper} {a : Act} {w : World} {Q : Exit → Act → World → Prop} (hgd : o.guard = none) (x : Operand) (ho : o.op = .load 30 x)
    (g ty : Nat) (hx : a.eval x = .pointer (some ⟨g, 0, none⟩)) (ps : List Ac) (sp : Option Addr) (n cap : Nat) (h1 : ps.length = 32) (h2 : ∀ a ∈ ps, a.lk.length = 32) (hA : Arr w g ty (stA ps sp n cap))
    (h : wpList Try.prog ops Q rest (a.put o.dst (.agg (stA ps sp n cap))) w) : wpList Try.prog ops Q (o :: rest) a w :=
  wpList_load_mid hgd 30 x ho g 0 hx (stC ps sp n cap) _ hA.st Try.underlying30 rfl (by rw [stC_len h1 h2]; exact size30) h
theorem y30 {ops : Array Oper} {S : World → Prop} {op : Oper} {a : Act} (hw : Region.wanted op (yielded ops a.tmps) = true) (x : Operand) (ho : op.op = .load 30 x)
    (g ty : Nat) (hx : a.eval x = .pointer (some ⟨g, 0, none⟩)) (ps : List Ac) (sp : Option Addr) (n cap : Nat) (h1 : ps.length = 32) (h2 : ∀ a ∈ ps, a.lk.length = 32) (hS : ∀ w, S w → Arr w g ty (stA ps sp n cap)) : YieldsIf Try.prog ops S op (.agg (stA ps sp n cap)) a :=
  yieldsIf_load_mid hw 30 x ho g 0 hx (stC ps sp n cap) _ (fun w h => (hS w h).st) Try.underlying30 rfl (by rw [stC_len h1 h2]; exact size30)
theorem ld27 {ops : Array Oper} {rest : List Oper} {o : Oper} {a : Act} {w : World} {Q : Exit → Act → World → Prop} (hgd : o.guard = none) (x : Operand) (ho : o.op = .load 27 x)
    (g ty : Nat) (hx : a.eval x = .pointer (some ⟨g, 0, none⟩)) (ps : List Ac) (sp : Option Addr) (n cap : Nat) (h1 : ps.length = 32) (h2 : ∀ a ∈ ps, a.lk.length = 32) (hA : Arr w g ty (stA ps sp n cap))
    (h : wpList Try.prog ops Q rest (a.put o.dst (.agg (acA ps))) w) : wpList Try.prog ops Q (o :: rest) a w :=
  wpList_load_mid hgd 27 x ho g 0 hx (acF ps) _ hA.stAc Try.underlying27 rfl (by rw [acF_len h2, h1]; exact size27) h
theorem ld26 {ops : Array Oper} {rest : List Oper} {o : Oper} {a : Act} {w : World} {Q : Exit → Act → World → Prop} (hgd : o.guard = none) (x : Operand) (ho : o.op = .load 26 x)
    (b off : Nat) (hx : a.eval x = .pointer (some ⟨b, off, none⟩)) (e : Ac) (he : e.lk.length = 32) (hc : w.rangeAt b off e.cells)
    (h : wpList Try.prog ops Q rest (a.put o.dst (.agg e.arr)) w) : wpList Try.prog ops Q (o :: rest) a w :=
  wpList_load_mid hgd 26 x ho b off hx e.cells _ hc Try.underlying26 rfl (by rw [Ac.len he]; exact size26) h
theorem y26 {ops : Array Oper} {S : World → Prop} {op : Oper} {a : Act} (hw : Region.wanted op (yielded ops a.tmps) = true) (x : Operand) (ho : op.op = .load 26 x)
    (b off : Nat) (hx : a.eval x = .pointer (some ⟨b, off, none⟩)) (e : Ac) (he : e.lk.length = 32) (hS : ∀ w, S w → w.rangeAt b off e.cells) : YieldsIf Try.prog ops S op (.agg e.arr) a :=
  yieldsIf_load_mid hw 26 x ho b off hx e.cells _ hS Try.underlying26 rfl (by rw [Ac.len he]; exact size26)
theorem st26n {ops : Array Oper} {rest : List Oper} {o : Oper} {a : Act} {Q : Exit → Act → World → Prop} (hgd : o.guard = none) (x y : Operand) (ho : o.op = .store 26 x y) (W : World) (g : Nat) (hgW : W.heap.size = g) {z : Array Value} (hz : z.size = 34)
    (e : Ac) (hx : a.eval x = .pointer (some ⟨g, 0, none⟩)) (hy : a.eval y = .agg e.arr) (he : e.lk.length = 32)
    (h : wpList Try.prog ops Q rest (a.put o.dst undef) (W.alloc (.cells e.arr 26))) : wpList Try.prog ops Q (o :: rest) a (W.alloc (.cells z 26)) := by
  subst hgW
  exact wpList_store_new W z 26 hgd 26 x y ho e.arr hx hy (s26 he) (by rw [hz, Ac.size he]) e.oneA h
theorem ld53 {ops : Array Oper} {rest : List Oper} {o : Oper} {a : Act} {w : World} {Q : Exit → Act → World → Prop} (hgd : o.guard = none) (x : Operand) (ho : o.op = .load 66 x)
    (b off : Nat) (hx : a.eval x = .pointer (some ⟨b, off, none⟩)) (e : Ou) (hc : w.rangeAt b off e.cells)
    (h : wpList Try.prog ops Q rest (a.put o.dst (.agg e.arr)) w) : wpList Try.prog ops Q (o :: rest) a w :=
  wpList_load_mid hgd 66 x ho b off hx e.cells _ hc Try.underlying66 rfl (by exact size53) h
theorem y53 {ops : Array Oper} {S : World → Prop} {op : Oper} {a : Act} (hw : Region.wanted op (yielded ops a.tmps) = true) (x : Operand) (ho : op.op = .load 66 x)
    (b off : Nat) (hx : a.eval x = .pointer (some ⟨b, off, none⟩)) (e : Ou) (hS : ∀ w, S w → w.rangeAt b off e.cells) : YieldsIf Try.prog ops S op (.agg e.arr) a :=
  yieldsIf_load_mid hw 66 x ho b off hx e.cells _ hS Try.underlying66 rfl (by exact size53)
theorem st53n {ops : Array Oper} {rest : List Oper} {o : Oper} {a : Act} {Q : Exit → Act → World → Prop} (hgd : o.guard = none) (x y : Operand) (ho : o.op = .store 66 x y) (W : World) (g : Nat) (hgW : W.heap.size = g) {z : Array Value} (hz : z.size = 2)
    (e : Ou) (hx : a.eval x = .pointer (some ⟨g, 0, none⟩)) (hy : a.eval y = .agg e.arr)
    (h : wpList Try.prog ops Q rest (a.put o.dst undef) (W.alloc (.cells e.arr 66))) : wpList Try.prog ops Q (o :: rest) a (W.alloc (.cells z 66)) := by
  subst hgW
  exact wpList_store_new W z 66 hgd 66 x y ho e.arr hx hy (s53 e) (by rw [hz]; rfl) e.oneA h
/-- One account of the array. -/
theorem acA_part {ps : List Ac} (h2 : ∀ a ∈ ps, a.lk.length = 32) {k : Nat} {a : Ac} (ha : ps[k]? = some a) : (acA ps).extract (k * 34) (k * 34 + 34) = a.arr := by
  have hl := Ac.len (h2 a (List.mem_of_getElem? ha))
  have hk := (List.getElem?_eq_some_iff.1 ha).1
  have hs : (acA ps).size = ps.length * 34 := by simp [acA, acF_len h2]
  apply Array.ext_getElem?
  intro i
  by_cases hi : i < 34
  · have hx : ((acA ps).extract (k * 34) (k * 34 + 34))[i]? = (acA ps)[k * 34 + i]? := by
      rw [Array.getElem?_extract]; simp; omega
    have : i < a.cells.length := by omega
    have e := acF_at h2 ha (j := i) (List.getElem?_eq_getElem this)
    rw [hx]
    unfold acA Ac.arr
    rw [List.getElem?_toArray, List.getElem?_toArray, e, List.getElem?_eq_getElem this]
  · have e1 : (a.arr)[i]? = none := by
      rw [Array.getElem?_eq_none_iff, Ac.size (h2 a (List.mem_of_getElem? ha))]; omega
    rw [e1, Array.getElem?_eq_none_iff, Array.size_extract]
    omega
theorem index27 {ps : List Ac} (h2 : ∀ a ∈ ps, a.lk.length = 32) {k : Nat} (hk : k < 32) {a : Ac} (ha : ps[k]? = some a) (w : World) : (Instr.index 27 (.agg (acA ps)) (.int .i64 k)).run Try.prog w = .ok (.agg a.arr) w := by
  have hI : (0 : Int) ≤ k ∧ (k : Int) < 32 := by omega
  have hsz : (sizeOf 26).run Try.prog w = .ok 34 w := by
    have h := size26
    cases hq : Try.prog.info? 26 with
    | none => rw [hq] at h; cases h
    | some i =>
      rw [hq] at h
      have hz : i.size = 34 := by simpa using h
      simp [sizeOf, typeInfo, hq, hz]
  have hag : (isAgg 26).run Try.prog w = .ok true w := by
    unfold isAgg
    rw [Sem.run_bind, run_underlying Try.underlying26 w]
    rfl
  have hu : (underlying 27).run Try.prog w = .ok (.array 32 26) w := run_underlying Try.underlying27 w
  simp only [Instr.index, asIntOf, Sem.run_bind, Sem.run_pure, Result.andThen_ok, hu]
  rw [if_pos (show (0 : Int) ≤ k ∧ (k : Int) < ((32 : Nat) : Int) from hI)]
  simp only [Sem.run_bind, hsz, Result.andThen_ok, part, hag, if_true, Sem.run_pure, Int.toNat_natCast, acA_part h2 ha]
end Go.Proofs.Ytbhhbkoikocjgaa
/- Layer spec: what the layers below give. -/
namespace Go.Proofs.Ytbhhbkoikocjgaa
open Go.RowKit
set_option maxRecDepth 100000
set_option linter.unusedVariables false
set_option linter.unusedSimpArgs false

theorem own_some {w : World} {base n e s : Nat} {v : Value} {xs : List Value} (h : w.ownsRow base e s v (n + 1) xs) : ∃ g cap, v = .slice (some ⟨g, 0, none⟩) (n + 1) cap := by
  obtain ⟨-, h | ⟨g, cap, cur, rfl, -⟩⟩ := h
  · omega
  · exact ⟨g, cap, rfl⟩
/-- Nothing that was there has changed but some blocks. -/
structure Chg (S : Nat → Prop) (w w' : World) : Prop where
  os : w'.os = w.os
  tape : w'.tape = w.tape
  output : w'.output = w.output
  size : w.heap.size ≤ w'.heap.size
  block : ∀ b, b < w.heap.size → ¬ S b → w'.heap[b]? = w.heap[b]?
theorem Chg.refl (S : Nat → Prop) (w : World) : Chg S w w := ⟨rfl, rfl, rfl, Nat.le_refl _, fun _ _ _ => rfl⟩
theorem Chg.trans {S : Nat → Prop} {a b c : World} (h : Chg S a b) (k : Chg S b c) : Chg S a c :=
  ⟨k.os.trans h.os, k.tape.trans h.tape, k.output.trans h.output, Nat.le_trans h.size k.size, fun i hi hs => (k.block i (Nat.lt_of_lt_of_le hi h.size) hs).trans (h.block i hi hs)⟩
theorem Chg.mono {S T : Nat → Prop} {a b : World} (h : Chg S a b) (hST : ∀ i, i < a.heap.size → S i → T i) : Chg T a b :=
  ⟨h.os, h.tape, h.output, h.size, fun i hi ht => h.block i hi fun hs => ht (hST i hi hs)⟩
theorem Chg.of_below {S : Nat → Prop} {a b : World} (h : Below a.heap.size a b) : Chg S a b := ⟨h.os, h.tape, h.output, h.size, fun i hi _ => h.block i hi⟩
theorem Chg.below {S : Nat → Prop} {a b : World} {N : Nat} (h : Chg S a b) (hN : ∀ i, i < N → i < a.heap.size ∧ ¬ S i) : Below N a b := ⟨h.os, h.tape, h.output, h.size, fun i hi => h.block i (hN i hi).1 (hN i hi).2⟩
theorem Chg.alloc {S : Nat → Prop} {a b : World} (h : Chg S a b) (o : Obj) : Chg S a (b.alloc o) :=
  h.trans (Chg.of_below (alloc_bel' b o))
theorem Chg.grown {S : Nat → Prop} {a b c : World} {row : Option Nat} (h : Chg S a b) (hg : b.grownBy c row) (hr : ∀ k, k < a.heap.size → row = some k → S k) : Chg S a c :=
  ⟨hg.os.trans h.os, hg.tape.trans h.tape, hg.output.trans h.output, Nat.le_trans h.size hg.size, fun i hi hs => (hg.block i (Nat.lt_of_lt_of_le hi h.size) (fun e => hs (hr i hi e.symm))).trans (h.block i hi hs)⟩
theorem Chg.setCell {S : Nat → Prop} {a b : World} (h : Chg S a b) {g j : Nat} (v : Value) (hg : g < a.heap.size → S g) : Chg S a (b.setCell ⟨g, j, none⟩ v) :=
  ⟨h.os, h.tape, h.output, by simpa [World.setCell] using h.size, fun i hi hs => (Below.heap_setCell _ _ _ _ (fun e => hs (by have e : i = g := e; subst e; exact hg hi))).trans (h.block i hi hs)⟩
/-- A byte of a row is written. -/
theorem own_set {w : World} {base g n cap j : Nat} {L : List Int} (h : w.ownsRow base 5 1 (.slice (some ⟨g, 0, none⟩) n cap) n (by8 L)) (hj : j < n) (x : Int) : (w.setCell ⟨g, j, none⟩ (.int .u8 x)).ownsRow base 5 1 (.slice (some ⟨g, 0, none⟩) n cap) n (by8 (L.set j x)) := by
  obtain ⟨hl, h | ⟨g', cap', cur, e, hg, hh, hn, hm, hc, ht⟩⟩ := h
  · cases h.1
  · cases e
    have hA : Arr w g 5 cur := hh
    refine ⟨by simpa [by8_len] using hl, .inr ⟨g, cap, cur.setIfInBounds j (.int .u8 x), rfl, hg, hA.set j _, hn, hm, by simpa using hc, ?_⟩⟩
    rw [Array.toList_setIfInBounds, List.take_set, ht]
    simp [by8, List.map_set]
theorem row_arr {w : World} {base g n cap e s : Nat} {xs : List Value} (h : w.ownsRow base e s (.slice (some ⟨g, 0, none⟩) n cap) n xs) : ∃ C, Arr w g e C ∧ C.size = cap * s ∧ n ≤ cap := by
  obtain ⟨hl, h | ⟨g', cap', cur, e, hg, hh, hn, hm, hc, ht⟩⟩ := h
  · cases h.1
  · cases e; exact ⟨cur, hh, hc, hn⟩
theorem own_len {w : World} {base n : Nat} {v : Value} {L : List Int} (h : w.ownsRow base 5 1 v n (by8 L)) : L.length = n := by
  have := h.1; rw [by8_len] at this; omega
theorem own_cell {w : World} {base g n cap j : Nat} {L : List Int} (h : w.ownsRow base 5 1 (.slice (some ⟨g, 0, none⟩) n cap) n (by8 L)) (hj : j < n) : w.cell? ⟨g, j, none⟩ = some (.int .u8 (bat L j)) := by
  have hl := own_len h
  have := h.cells (g := g) rfl j (.int .u8 (bat L j)) (by8_get (by omega))
  rwa [Addr.add_mid, Nat.zero_add] at this
/-- Where what append answers lies, and what it leaves. -/
theorem append_where {P : Program} {w : World} {base t ty e : Nat} {i : TypeInfo} {z : Value} (ht : P.underlying t = some (.slice e)) (hi : P.info? e = some i) (hz : i.zero = some z)
    {v : Value} {n : Nat} {xs : List Value} (hown : w.ownsRow base e i.size v n xs) {a : Addr} {m c : Nat} {news : List Value} (hm : 0 < m) (hl : news.length = m * i.size) (hnews : ∀ j u, news[j]? = some u → w.cell? (a.add j) = some u) (h1 : ∀ u ∈ news, u.oneCell' = true)
    (h63 : n + m ≤ maxLen) (hbytes : (n + m) * i.bytes ≤ 140737488355328) {v' : Value} {w' : World} (hr : (Builtin.append_ #[t, t] ty #[v, .slice (some a) m c]).run P w = .ok v' w') :
    (∃ g cap, v = .slice (some ⟨g, 0, none⟩) n cap ∧ v' = .slice (some ⟨g, 0, none⟩) (n + m) cap) ∨ (v'.ownBlock = some w.heap.size ∧ ∀ b, b < w.heap.size → w'.heap[b]? = w.heap[b]?) := by
  have hsmall : n + m ≤ 9223372036854775807 := by simp only [maxLen] at h63; omega
  rcases hown.2 with ⟨rfl, rfl⟩ | ⟨g, cap, cur, rfl, hbg, hg, hnc, hcm, hcs, htake⟩
  · have h := run_append_nil (P := P) w t ty e i z ht hi hz a m c news hl hnews (by omega) (by omega) (by have hb := hbytes; simp only [Nat.zero_add] at hb; omega)
    rw [h] at hr
    cases hr
    exact .inr ⟨rfl, fun b hb => Below.heap_alloc _ _ _ hb⟩
  · by_cases hroom : n + m ≤ cap
    · have hfit : n * i.size + news.length ≤ cur.size := by rw [hl, hcs, ← Nat.add_mul]; exact Nat.mul_le_mul_right _ hroom
      have h := run_append_room (P := P) w t ty e i ht hi g n cap cur hg a m c news hl hnews h1 hroom hfit
      rw [h] at hr
      cases hr
      exact .inl ⟨g, cap, rfl, rfl⟩
    · have holds : ∀ j u, xs[j]? = some u → w.cell? ((⟨g, 0, none⟩ : Addr).add j) = some u := hown.cells (g := g) rfl
      have h := run_append_grow (P := P) w t ty e i z ht hi hz ⟨g, 0, none⟩ n cap xs hown.1 holds a m c news hl hnews (by omega) (by omega) (growslice_fits (by omega) hbytes)
      rw [h] at hr
      cases hr
      exact .inr ⟨rfl, fun b hb => Below.heap_alloc _ _ _ hb⟩
/-- append of bytes onto a row of the call's own, and where the answer lies. -/
theorem append_marks {ops : Array Oper} {rest : List Oper} {o : Oper} {a : Act} {w : World} {Q : Exit → Act → World → Prop} (hgd : Region.wanted o (yielded ops a.tmps) = true) (s x : Operand)
    (ho : o.op = .call { callee := .builtin .append, args := #[s, x], argTypes := #[63, 63] })
    (base : Nat) (v : Value) (n : Nat) (L : List Value) (hs : a.eval s = v) (hown : w.ownsRow base 5 1 v n L)
    (ad : Addr) (m c : Nat) (M : List Int) (hx : a.eval x = .slice (some ad) m c) (hm : m = M.length) (hm0 : 0 < m) (hS : SlL w (some ad) M) (hb : n + m ≤ 140737488355328) (hbase : base ≤ w.heap.size)
    (h : ∀ v' w', w'.ownsRow base 5 1 v' (n + m) (L ++ by8 M) → w.grownBy w' v.ownBlock → ((∃ g cap, v = .slice (some ⟨g, 0, none⟩) n cap ∧ v' = .slice (some ⟨g, 0, none⟩) (n + m) cap) ∨ (v'.ownBlock = some w.heap.size ∧ ∀ b, b < w.heap.size → w'.heap[b]? = w.heap[b]?)) → wpList Try.prog ops Q rest (a.put o.dst v') w') : wpList Try.prog ops Q (o :: rest) a w := by
  obtain ⟨i0, hi, hz0, hz1, hz2⟩ := info_parts info5
  subst hm
  refine wpList_want hgd fun K hK => ?_
  have hnews : ∀ j u, (by8 M)[j]? = some u → w.cell? (ad.add j) = some u := by
    intro j u hj
    have hjl : j < M.length := by have := (List.getElem?_eq_some_iff.1 hj).1; rwa [by8_len] at this
    obtain ⟨b, off, e, hB⟩ := hS (by omega)
    obtain rfl := Option.some.inj e
    rw [by8_get hjl] at hj
    rw [Addr.add_mid, hB j hjl]; exact hj
  obtain ⟨v', w', hr, h2, h3, -⟩ := run_append_own (P := Try.prog) w base 63 o.type 5 i0 _ 1 1 Try.underlying63 hi hz0 hz1 hz2 rfl (by omega) v n _ hown ad M.length c (by8 M) (by rw [by8_len]; omega) hnews (by8_one M) (Nat.le_trans hb maxLen_ge) (by omega) hbase
  have h4 := append_where (base := base) Try.underlying63 hi hz0 (by rw [hz1]; exact hown) hm0 (by rw [by8_len, hz1]; omega) hnews (by8_one M) (Nat.le_trans hb maxLen_ge) (by rw [hz2]; omega) hr
  unfold Oper.wp execOp
  simp only [ho, resolve, invoke, builtin, Sem.run_bind, Sem.run_pure, Result.andThen_ok, List.map_toArray, List.map_cons, List.map_nil, hs, hx, hr]
  exact hK _ _ (h v' w' h2 h3 h4)
theorem row_of_arr {w : World} {g n cap : Nat} {C : Array Value} (h : Arr w g 5 C) (hC : C.size = cap) (hn : n ≤ cap) (hm : cap ≤ maxLen) : w.ownsRow 0 5 1 (.slice (some ⟨g, 0, none⟩) n cap) n (C.toList.take n) :=
  ⟨by rw [List.length_take, Array.length_toList]; omega, .inr ⟨g, cap, C, rfl, Nat.zero_le _, h, hn, hm, by omega, by rw [Nat.mul_one]⟩⟩
theorem Arr.at {w : World} {g ty : Nat} {C : Array Value} (h : Arr w g ty C) {j : Nat} (hj : j < C.size) : ∃ u, w.cell? ⟨g, j, none⟩ = some u := ⟨C[j], by rw [h.cell, Array.getElem?_eq_getElem hj]⟩
end Go.Proofs.Ytbhhbkoikocjgaa
