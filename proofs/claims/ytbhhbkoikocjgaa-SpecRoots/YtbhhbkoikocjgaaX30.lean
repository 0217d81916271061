/- ZCg, ZCh, ZPa, ZQa, ZCb, ZCd, ZCf, Pd, ZPd. -/
import Derived.Test.YtbhhbkoikocjgaaX01
import Derived.Test.YtbhhbkoikocjgaaX02
import Derived.Test.YtbhhbkoikocjgaaX03
import Derived.Test.YtbhhbkoikocjgaaX04
import Derived.Test.YtbhhbkoikocjgaaX05
import Derived.Test.YtbhhbkoikocjgaaX06
import Derived.Test.YtbhhbkoikocjgaaX07
import Derived.BigQuiet
import Derived.BigRegion
import Derived.ChangeKeysEq
import Derived.Deep.DeepCutAuto
import Derived.Deep.DrawnRows
import Derived.Deep.MidRow
import Derived.Deep.QuietTactic
import Derived.Deep.RegionHeld3
import Derived.Deep.RegionLaw
import Derived.Deep.RegionWith
import Derived.Deep.WholeRow
import Derived.Great.BuildSlice
import Derived.Laws.AppendOwnNone
import Derived.Laws.BitsLemmas
import Derived.Laws.BytesArg
import Derived.Laws.CopyOwn
import Derived.Laws.Tables
import Derived.Lib.SlBytesConst
import Derived.LoopIn
import Derived.LoopNIn
import Derived.OwnWalkIn
import Derived.RangeFuncBound
import Derived.RangeFuncCalls
import Derived.RangeFuncLeaves
import Derived.RangeFuncNested
import Derived.RangeFuncRecord
import Derived.Shelf.Abstract
import Derived.Shelf.RegionOpen
import Derived.TacticsInMore
import Derived.WalkKit
import Derived.WalkLawsBesides
import Derived.WalkSpells
import Derived.Test.YtbhhbkoikocjgaaX12
import Derived.Test.YtbhhbkoikocjgaaX17
import Derived.Test.YtbhhbkoikocjgaaX25
import Derived.Maps.AppendAt
import Derived.Test.YtbhhbkoikocjgaaX11
import Derived.Test.YtbhhbkoikocjgaaX27
import Derived.JoinedTies
import Derived.KernelRfl
import GoSem.Claim
import GoSem.ClaimJoined
import GoSem.ClaimMapViews
import Derived.Test.YtbhhbkoikocjgaaX08
/- Layer spec: what the layers below give. -/
namespace Go.Proofs.Ytbhhbkoikocjgaa
set_option linter.unusedSectionVars false
set_option maxHeartbeats 1000000
open Go.RowKit
set_option maxRecDepth 100000
set_option linter.unusedVariables false
set_option linter.unusedSimpArgs false

variable [DecidableEq Ac] [DecidableEq Ou] [DecidableEq Mg]
/-- A climber in block g. -/
structure CL (w : World) (g : Nat) (m : Int) (X : List Int) : Prop where
  c0 : w.cell? ⟨g, 0, none⟩ = some (.func (Fn.func 95) #[] #[])
  c1 : w.cell? ⟨g, 1, none⟩ = some (.int .i64 m)
  rg : w.rangeAt g 2 (by8 X)
  th : w.there g 0 34
theorem CL.below {w w' : World} {g B : Nat} {m : Int} {X : List Int} (h : CL w g m X) (hb : Below B w w') (hg : g < B) : CL w' g m X :=
  ⟨(hb.cell (p := ⟨g, 0, none⟩) hg).trans h.c0, (hb.cell (p := ⟨g, 1, none⟩) hg).trans h.c1, range_below h.rg hb hg, there_below h.th hb hg⟩
theorem CL.lt {w : World} {g : Nat} {m : Int} {X : List Int} (h : CL w g m X) : g < w.heap.size := block_lt_of_cell h.c0
theorem CL.grown {w w' : World} {g g' : Nat} {m : Int} {X : List Int} (h : CL w g m X) (hg : w.grownBy w' (some g')) (hne : g ≠ g') : CL w' g m X := by
  have hb := hg.block g h.lt (fun e => hne (Option.some.inj e))
  refine ⟨(World.cell?_of_block (w := w) (a := ⟨g, 0, none⟩) hb).trans h.c0, (World.cell?_of_block (w := w) (a := ⟨g, 1, none⟩) hb).trans h.c1, fun j v hv => (World.cell?_of_block (w := w) (a := ⟨g, 2 + j, none⟩) hb).trans (h.rg j v hv), fun j hj => ⟨?_, ?_⟩⟩
  · rw [World.cell?_of_block (w := w) (a := ⟨g, 0 + j, none⟩) hb]; exact (h.th j hj).1
  · have h2 := (h.th j hj).2; simp only [World.frozen?] at h2 ⊢; rw [hb]; exact h2
end Go.Proofs.Ytbhhbkoikocjgaa
/- Layer spec: what the layers below give. -/
namespace Go.Proofs.Ytbhhbkoikocjgaa
set_option linter.unusedSectionVars false
set_option maxHeartbeats 1000000
open Go.RowKit
set_option maxRecDepth 100000
set_option linter.unusedVariables false
set_option linter.unusedSimpArgs false

variable [DecidableEq Ac] [DecidableEq Ou] [DecidableEq Mg]
theorem info54 : (Try.prog.info? 160).map (fun i => (i.zero, i.size, i.bytes)) = some (some (.agg (En.arr ⟨none, 0, 0, [], Z32⟩)), 33, 56) := by kernel_rfl
theorem flatE_app (es : List En) (e : En) : flatE (es ++ [e]) = flatE es ++ e.cells := by simp [flatE]
theorem flatE_at {es : List En} (h : ∀ e ∈ es, e.sm.length = 32) {i : Nat} {e : En} (he : es[i]? = some e) {j : Nat} {v : Value} (hv : e.cells[j]? = some v) : (flatE es)[i * 33 + j]? = some v := by
  induction es generalizing i with
  | nil => simp at he
  | cons a r ih =>
    have ha := En.len (h a (by simp))
    have hj : j < 33 := by
      have := (List.getElem?_eq_some_iff.1 hv).1
      rw [En.len (h e (List.mem_of_getElem? he))] at this; exact this
    simp only [flatE, List.map_cons, List.flatten_cons]
    cases i with
    | zero =>
      simp at he
      subst he
      rw [List.getElem?_append_left (by omega)]
      simpa using hv
    | succ i =>
      have := ih (fun x hx => h x (by simp [hx])) (i := i) (by simpa using he)
      rw [List.getElem?_append_right (by omega), ha, show (i + 1) * 33 + j - 33 = i * 33 + j by omega]
      exact this
/-- A slice of entries of the call's own; no bytes lie in it, nor in block ax. -/
structure EOS (base ax : Nat) (w : World) (v : Value) (es : List En) : Prop where
  own : w.ownsRow base 160 33 v es.length (flatE es)
  ok : ∀ e ∈ es, EnOK w.heap.size w e
  ap : ∀ e ∈ es, ∀ b off, e.sp = some ⟨b, off, none⟩ → base ≤ b ∧ b < w.heap.size ∧ some b ≠ v.ownBlock ∧ b ≠ ax
theorem EOS.below {base ax : Nat} {w w' : World} {v : Value} {es : List En} (h : EOS base ax w v es) (hb : Below w.heap.size w w') : EOS base ax w' v es :=
  ⟨own_same h.own (fun k hk => hb.block k (own_lt h.own hk)), fun e he => ((h.ok e he).below hb).mono hb.size, fun e he b off hs => by have := h.ap e he b off hs; have := hb.size; exact ⟨by omega, by omega, (h.ap e he b off hs).2.2⟩⟩
theorem EOS.grown {base ax : Nat} {w w' : World} {v : Value} {es : List En} (h : EOS base ax w v es) (hg : w.grownBy w' (some ax)) (hv : v.ownBlock ≠ some ax) : EOS base ax w' v es :=
  ⟨own_same h.own (fun k hk => hg.block k (own_lt h.own hk) (fun e => hv (hk.trans e))), fun e he => ⟨((h.ok e he).body.grown hg (fun b off hs => (h.ap e he b off hs).2.2.2)).mono hg.size, (h.ok e he).s32⟩, fun e he b off hs => by have := h.ap e he b off hs; have := hg.size; exact ⟨by omega, by omega, (h.ap e he b off hs).2.2⟩⟩
theorem EOS.s32 {base ax : Nat} {w : World} {v : Value} {es : List En} (h : EOS base ax w v es) : ∀ e ∈ es, e.sm.length = 32 := fun e he => (h.ok e he).s32
theorem EOS.nil (base ax : Nat) (w : World) : EOS base ax w (.slice none 0 0) [] := ⟨World.ownsRow_nil _ _ _ _, (fun e he => by cases he), (fun e he => by cases he)⟩
/-- .. as a slice of entries. -/
theorem EOS.es {base ax : Nat} {w : World} {v : Value} {es : List En} (h : EOS base ax w v es) (hn : es.length ≤ 140737488355328) : ∃ sp cap, v = .slice sp es.length cap ∧ ES w.heap.size w sp es.length cap es := by
  obtain ⟨-, h' | ⟨g, cap, cur, rfl, hg, hh, hnc, hcm, hc, ht⟩⟩ := h.own
  · obtain ⟨rfl, h0⟩ := h'
    obtain rfl : es = [] := List.eq_nil_of_length_eq_zero h0
    exact ⟨none, 0, rfl, ES.nil0 _ _⟩
  · refine ⟨_, cap, rfl, ⟨rfl, (fun e => by cases e), hnc, by unfold maxLen at hcm; omega, hn, fun h0 => ⟨g, 0, rfl, (Array.getElem?_eq_some_iff.1 hh).1, fun i e he j u hu => ?_⟩, h.ok⟩⟩
    have hi := (List.getElem?_eq_some_iff.1 he).1
    have hj : j < 33 := by
      have := (List.getElem?_eq_some_iff.1 hu).1
      rw [En.len (h.s32 e (List.mem_of_getElem? he))] at this; exact this
    rw [Nat.zero_add, cell_of_row w g _ cur 160 (0, 0) hh, ← Array.getElem?_toList, ← List.getElem?_take_of_lt (show i * 33 + j < es.length * 33 by omega), ht]
    exact flatE_at h.s32 he hu
theorem apart {base ax : Nat} {v : Value} {sp : Option Addr} {n cap : Nat} {L : List Int} {N M K : Nat} {w : World} (hb : BS N w sp n cap L) (hn : 0 < n) (hg : ∀ g off, sp = some ⟨g, off, none⟩ → M ≤ g) (hob : ∀ k, v.ownBlock = some k → k < M) (hbase : base ≤ M) (hax : ax < M) (hNK : N ≤ K) : ∀ b off, sp = some ⟨b, off, none⟩ → base ≤ b ∧ b < K ∧ some b ≠ v.ownBlock ∧ b ≠ ax := by
  intro b off e
  have h1 := hg b off e
  obtain ⟨b', off', e', hb', -⟩ := hb.at0 hn
  rw [e] at e'; cases e'
  exact ⟨by omega, by omega, fun h' => by have := hob b h'.symm; omega, by omega⟩
end Go.Proofs.Ytbhhbkoikocjgaa
/- Layer spec: what the layers below give. -/
namespace Go.Proofs.Ytbhhbkoikocjgaa
set_option linter.unusedSectionVars false
set_option maxHeartbeats 1000000
open Go.RowKit
set_option maxRecDepth 100000
set_option linter.unusedVariables false
set_option linter.unusedSimpArgs false

variable [DecidableEq Ac] [DecidableEq Ou] [DecidableEq Mg]
theorem lf_len (b : List Int) : (lf b).length = 32 := shl_len _
theorem al_len (ps : List Ac) : (al ps).length = ps.length := by simp [al]
theorem ol_len (os : List Ou) : (ol os).length = os.length := by simp [ol]
theorem al_32 (ps : List Ac) : ∀ x ∈ al ps, x.length = 32 := by
  intro x hx; simp only [al, List.mem_map] at hx; obtain ⟨a, -, rfl⟩ := hx; exact lf_len _
theorem ol_32 (os : List Ou) : ∀ x ∈ ol os, x.length = 32 := by
  intro x hx; simp only [ol, List.mem_map] at hx; obtain ⟨a, -, rfl⟩ := hx; exact lf_len _
theorem cnt_len (n : Int) : (cnt n).length = 32 := by simp [cnt, e8_len]
/-- The root of both trees' roots and the number. -/
def jn (a o : List Int) (n : Int) : List Int := pr (pr a o) (cnt n)
theorem jn_len (a o : List Int) (n : Int) : (jn a o n).length = 32 := pr_len _ _
/-- The bytes of the pairs of a level. -/
def lvl : List (List Int) → List (List Int)
  | x :: y :: r => (1 :: (x ++ y)) :: lvl r
  | _ => []
/-- The root. -/
def rtS (ps : List Ac) (os : List Ou) : List Int := jn (tr 5 (al ps)) (tr 5 (ol os)) os.length
end Go.Proofs.Ytbhhbkoikocjgaa
/- Layer spec: what the layers below give. -/
namespace Go.Proofs.Ytbhhbkoikocjgaa
set_option linter.unusedSectionVars false
set_option maxHeartbeats 1000000
open Go.RowKit
set_option maxRecDepth 100000
set_option linter.unusedVariables false
set_option linter.unusedSimpArgs false

variable [DecidableEq Ac] [DecidableEq Ou] [DecidableEq Mg]
def v1 : List Int := [133, 250, 70, 93, 45, 157, 19, 19, 18, 196, 187, 15, 137, 150, 210, 101, 48, 138, 234, 65, 151, 43, 100, 241, 213, 52, 209, 137, 180, 48, 173, 53]
def e1 : List Int := [174, 7, 152, 208, 236, 174, 210, 183, 120, 237, 222, 191, 24, 240, 113, 165, 97, 197, 54, 88, 192, 94, 118, 206, 222, 204, 39, 202, 251, 219, 197, 119]
def e2 : List Int := [144, 83, 79, 224, 175, 246, 219, 158, 219, 41, 238, 231, 78, 120, 163, 134, 145, 106, 88, 28, 142, 100, 101, 52, 148, 147, 225, 166, 200, 114, 65, 225]
def c0 : List Int := [0, 0, 0, 0, 0, 0, 0, 0, 0, 0, 0, 0, 0, 0, 0, 0, 0, 0, 0, 0, 0, 0, 0, 0, 0, 0, 0, 0, 0, 0, 0, 0]
end Go.Proofs.Ytbhhbkoikocjgaa
/- Layer spec: what the layers below give. -/
namespace Go.Proofs.Ytbhhbkoikocjgaa
set_option linter.unusedSectionVars false
set_option maxHeartbeats 1000000
open Go.RowKit
set_option maxRecDepth 100000
set_option linter.unusedVariables false
set_option linter.unusedSimpArgs false

variable [DecidableEq Ac] [DecidableEq Ou] [DecidableEq Mg]
theorem size54 : (Try.prog.info? 160).map (·.size) = some 33 := by kernel_rfl
theorem s54 {e : En} (h : e.sm.length = 32) : (Try.prog.info? 160).map (·.size) = some e.arr.size := by rw [En.size h]; exact size54
theorem rangeE {w : World} {g ty : Nat} {e : En} (h : Arr w g ty e.arr) : w.rangeAt g 0 e.cells := fun j v hv => by
  rw [Nat.zero_add, h.cell]; simpa [En.arr] using hv
theorem range_sm {w : World} {g o : Nat} {e : En} (h : w.rangeAt g o e.cells) : w.rangeAt g (o + 1) (by8 e.sm) := fun j v hv => by
  rw [Nat.add_assoc, Nat.add_comm 1 j]
  exact h (j + 1) v (by simpa [En.cells] using hv)
/-- An entry out of memory. -/
theorem ld54 {ops : Array Oper} {rest : List Oper} {o : Oper} {a : Act} {w : World} {Q : Exit → Act → World → Prop} (hgd : o.guard = none) (x : Operand) (ho : o.op = .load 160 x)
    (b off : Nat) (hx : a.eval x = .pointer (some ⟨b, off, none⟩)) (e : En) (he : e.sm.length = 32) (hc : w.rangeAt b off e.cells)
    (h : wpList Try.prog ops Q rest (a.put o.dst (.agg e.arr)) w) : wpList Try.prog ops Q (o :: rest) a w :=
  wpList_load_mid hgd 160 x ho b off hx e.cells _ hc Try.underlying160 rfl (by rw [En.len he]; exact size54) h
/-- .. into the newest block. -/
theorem st54n {ops : Array Oper} {rest : List Oper} {o : Oper} {a : Act} {Q : Exit → Act → World → Prop} (hgd : o.guard = none) (x y : Operand) (ho : o.op = .store 160 x y) (W : World) (g : Nat) (hgW : W.heap.size = g) {z : Array Value} (hz : z.size = 33)
    (e : En) (hx : a.eval x = .pointer (some ⟨g, 0, none⟩)) (hy : a.eval y = .agg e.arr) (he : e.sm.length = 32)
    (h : wpList Try.prog ops Q rest (a.put o.dst undef) (W.alloc (.cells e.arr 160))) : wpList Try.prog ops Q (o :: rest) a (W.alloc (.cells z 160)) := by
  subst hgW
  exact wpList_store_new W z 160 hgd 160 x y ho e.arr hx hy (s54 he) (by rw [hz, En.size he]) e.oneA h
/-- Do they collide? -/
def hitE (e f : En) : Bool := decide (e.sm = f.sm) && !decide (e.bs = f.bs)
end Go.Proofs.Ytbhhbkoikocjgaa
/- Layer spec: what the layers below give. -/
namespace Go.Proofs.Ytbhhbkoikocjgaa
set_option linter.unusedSectionVars false
set_option maxHeartbeats 1000000
open Go.RowKit
set_option maxRecDepth 100000
set_option linter.unusedVariables false
set_option linter.unusedSimpArgs false

variable [DecidableEq Ac] [DecidableEq Ou] [DecidableEq Mg]
/-- Do the entries i and j collide? -/
def hit (es : List En) (i j : Nat) : Bool := match es[i]?, es[j]? with
  | some e, some f => hitE e f
  | _, _ => false
/-- What is found. -/
def Fnd (es : List En) (a b : Int) (c : Bool) : Prop :=
  (c = true ∧ ∃ i j : Nat, a = i ∧ b = j ∧ i < j ∧ j < es.length ∧ hit es i j = true ∧ (∀ j', j' < j → ∀ i', i' < j' → hit es i' j' = false) ∧ ∀ i', i' < i → hit es i' j = false)
  ∨ (c = false ∧ a = 0 ∧ b = 0 ∧ ∀ j, j < es.length → ∀ i, i < j → hit es i j = false)
theorem Fnd.one {es : List En} {a b a' b' : Int} {c c' : Bool} (h : Fnd es a b c) (h' : Fnd es a' b' c') : a' = a ∧ b' = b ∧ c' = c := by
  rcases h with ⟨rfl, i, j, rfl, rfl, h1, h2, h3, h4, h5⟩ | ⟨rfl, rfl, rfl, h1⟩
  · rcases h' with ⟨rfl, i', j', rfl, rfl, k1, k2, k3, k4, k5⟩ | ⟨rfl, rfl, rfl, k1⟩
    · have hj : j' = j := by
        rcases Nat.lt_trichotomy j' j with h | h | h
        · rw [h4 j' h i' k1] at k3; cases k3
        · exact h
        · rw [k4 j h i h1] at h3; cases h3
      subst hj
      have hi : i' = i := by
        rcases Nat.lt_trichotomy i' i with h | h | h
        · rw [h5 i' h] at k3; cases k3
        · exact h
        · rw [k5 i h] at h3; cases h3
      subst hi
      exact ⟨rfl, rfl, rfl⟩
    · rw [k1 j h2 i h1] at h3; cases h3
  · rcases h' with ⟨rfl, i', j', rfl, rfl, k1, k2, k3, k4, k5⟩ | ⟨rfl, rfl, rfl, k1⟩
    · rw [h1 j' k2 i' k1] at k3; cases k3
    · exact ⟨rfl, rfl, rfl⟩
end Go.Proofs.Ytbhhbkoikocjgaa
/- Layer spec: what the layers below give. -/
namespace Go.Proofs.Ytbhhbkoikocjgaa
set_option linter.unusedSectionVars false
set_option maxHeartbeats 1000000
open Go.RowKit
set_option maxRecDepth 100000
set_option linter.unusedVariables false
set_option linter.unusedSimpArgs false

variable [DecidableEq Ac] [DecidableEq Ou] [DecidableEq Mg]
set_option maxRecDepth 100000 in
theorem built54S (sp : Option Addr) (n cap : Nat) (X : List Int) (hX : X.length = 32) (bs : List Int) : Try.prog.built 160 [(0, .slice sp n cap), (1, .agg (h8 X))] = some (En.arr ⟨sp, n, cap, bs, X⟩) :=
  list32 (P := fun X => Try.prog.built 160 [(0, .slice sp n cap), (1, .agg (h8 X))] = some (En.arr ⟨sp, n, cap, bs, X⟩)) (fun x0 x1 x2 x3 x4 x5 x6 x7 x8 x9 x10 x11 x12 x13 x14 x15 x16 x17 x18 x19 x20 x21 x22 x23 x24 x25 x26 x27 x28 x29 x30 x31 => by kernel_rfl) X hX
theorem bdTS {ops : Array Oper} {rest : List Oper} {o : Oper} {a : Act} {w : World} {Q : Exit → Act → World → Prop} (hg : o.guard = none) (t : TypeId) (parts : Array (Nat × Operand)) (ho : o.op = .build t parts) {ps : List (Nat × Value)} (hp : parts.toList.map (fun p => (p.1, a.eval p.2)) = ps) {C : Array Value} (hb : Try.prog.built t ps = some C)
    (h : wpList Try.prog ops Q rest (a.put o.dst (.agg C)) w) : wpList Try.prog ops Q (o :: rest) a w :=
  wpList_plain hg fun _ hK => wp_bdT t parts ho hp hb (hK _ _ h)
end Go.Proofs.Ytbhhbkoikocjgaa
/- Layer spec: what the layers below give. -/
namespace Go.Proofs.Ytbhhbkoikocjgaa
set_option linter.unusedSectionVars false
set_option maxHeartbeats 1000000
open Go.RowKit
set_option maxRecDepth 100000
set_option linter.unusedVariables false
set_option linter.unusedSimpArgs false

variable [DecidableEq Ac] [DecidableEq Ou] [DecidableEq Mg]
theorem e8_take {n : Int} {j : Nat} (hj : j < 8) : (e8 n).take (j + 1) = (e8 n).take j ++ [n / 2 ^ (56 - 8 * j) % 256] := by
  rw [List.take_add_one]
  congr 1
  simp [e8, hj]
theorem range_sl {w : World} {g o : Nat} {L : List Int} (h : w.rangeAt g o (by8 L)) : SlL w (some ⟨g, o, none⟩) L := fun _ => ⟨g, o, rfl, fun t ht => h t _ (by8_get ht)⟩
end Go.Proofs.Ytbhhbkoikocjgaa
/- Layer spec: what the layers below give. -/
namespace Go.Proofs.Ytbhhbkoikocjgaa
set_option linter.unusedSectionVars false
set_option maxHeartbeats 1000000
open Go.RowKit
set_option maxRecDepth 100000
set_option linter.unusedVariables false
set_option linter.unusedSimpArgs false

variable [DecidableEq Ac] [DecidableEq Ou] [DecidableEq Mg]
theorem own_monoS {w : World} {base base' e s n : Nat} {v : Value} {xs : List Value} (h : w.ownsRow base e s v n xs) (hb : base' ≤ base) : w.ownsRow base' e s v n xs :=
  ⟨h.1, h.2.imp id (fun ⟨g, cap, cur, q, hg, r⟩ => ⟨g, cap, cur, q, Nat.le_trans hb hg, r⟩)⟩
set_option maxHeartbeats 1000000 in
theorem appNum_any (base m : Nat) (v : Value) (L : List Int) (n : Int) (w : World) (hown : w.ownsRow base 5 1 v m (by8 L)) (hbase : base ≤ w.heap.size) (hm : m ≤ 1000) :
    Calls Try.prog 97 #[v, .int .u64 n] w fun e w' => ∃ v', e = .returned v' ∧ w'.ownsRow base 5 1 v' (m + 8) (by8 (L ++ e8 n)) ∧ Below base w w' := by
  go_enter Try.func97, Try.ntmps97
  go_wp2_with fail
  go_loopw [0, 5] (fun u q wr => ∃ j : Nat, q = .int .i64 (56 - 8 * (j : Int)) ∧ j ≤ 8 ∧ wr.ownsRow base 5 1 u (m + j) (by8 (L ++ (e8 n).take j)) ∧ Below base w wr ∧ base ≤ wr.heap.size) (fun _ q _ => (intOf q + 8).toNat)
  case atStart => exact ⟨0, rfl, by omega, by simpa using hown, Below.refl _ _, hbase⟩
  case round =>
    obtain ⟨j, rfl, hj, hou, hbl, hsz⟩ := hrel
    clear hown
    by_cases hlt : j < 8
    · have hs0 : (0 : Int) ≤ 56 - 8 * (j : Int) := by omega
      have het : Hid ((e8 n).take (j + 1) = (e8 n).take j ++ [n / 2 ^ (56 - 8 * j) % 256]) := Hid.mk' (e8_take hlt)
      go_wp2_with (at_builtin; go_must (refine append_bytes (by rfl) (.tmp 10) (.tmp 15) (by rfl) base _ (m + j) (L ++ (e8 n).take j) (by rfl) (hou.alloc _) (some ⟨wr.heap.size, 0, none⟩) 1 1 [n / 2 ^ (56 - 8 * j) % 256] (by rfl) (by rfl) (fun h => by cases h) (Arr.sl (Arr.new wr 5 _)) (by omega) (by simp; omega) ?_; intro v2 w2 hown2 hg2; have hB2 := (hbl.alloc hsz _).grown hg2 (by simp; omega) (fun k e => own_ge hou k e); have hs2 : base ≤ w2.heap.size := (by have := hg2.size; simp at this; omega)))
      go_roundw
      case rel => exact ⟨j + 1, by go_num, by omega, by rw [het.out, ← List.append_assoc]; exact hown2, hB2, hs2⟩
      case measure => simp [intOf]; omega
    · obtain rfl : j = 8 := by omega
      have e8' : Hid ((e8 n).take 8 = e8 n) := Hid.mk' (List.take_of_length_le (by rw [e8_len]; exact Nat.le_refl _))
      go_wp2_with fail
      go_ret
      exact ⟨_, rfl, by rw [← e8'.out]; exact hou, hbl⟩
set_option maxHeartbeats 1000000 in
theorem acBytes_any (a : Ac) (w : World) (ha : AcOK a) :
    Calls Try.prog 74 #[.agg a.arr] w fun e w' => ∃ v, e = .returned v ∧ w'.ownsRow w.heap.size 5 1 v 48 (by8 (acb a)) ∧ Below w.heap.size w w' := by
  obtain ⟨i0, hi, hz0, hz1, hz2⟩ := info_parts info5
  have A0 := Arr.new w 26 a.arr
  have H32 := Hid.mk' ha.l32
  have c0 := ac_c0 A0.ac
  go_enter Try.func74, Try.ntmps74
  go_upto_region 2 with (at_make; go_must (refine wpList_make_own _ (by rfl) (.const (.int .i64 0)) (.const (.int .i64 48)) 63 (by rfl) (w.heap.size + 1) 5 i0 (.int .u8 0) 1 Try.underlying63 hi hz0 hz1 .i64 .i64 _ 48 (by rfl) (by rfl) (by omega) (by rw [hz2]; omega) (Nat.le_trans (by omega) maxLen_ge) (by simp) ?_; intro w1 hown1 hg1; have hown1 : w1.ownsRow (w.heap.size + 1) 5 1 (.slice (some ⟨w.heap.size + 1, 0, none⟩) 0 48) 0 (by8 []) := (by simpa [by8] using hown1); have hs1 : w.heap.size + 1 ≤ w1.heap.size := (by have := hg1.size; simpa using this); have A1 : Arr w1 w.heap.size 26 a.arr := A0.grown hg1 (by simp); have hB1 : Below w.heap.size w w1 := ((Below.refl _ _).alloc (Nat.le_refl _) _).grown hg1 (by simp) (by simp)))
  clear c0 A0
  have c1 := ac_c0 A1.ac
  go_upto_region 3 with (go_at_call 97; go_must (refine (appNum_any (w.heap.size + 1) 0 _ [] a.bal _ hown1 hs1 (by omega)).mono ?_; rintro e w2 ⟨v2, rfl, hown2, hb2⟩))
  have A2 := A1.below hb2 (by omega)
  have hB2 := hB1.trans (hb2.mono (by omega))
  have hs2 := Nat.le_trans hs1 hb2.size
  have c2 := ac_c1 A2.ac
  go_upto_region 4 with (go_at_call 97; go_must (refine (appNum_any (w.heap.size + 1) (0 + 8) _ _ a.non _ hown2 hs2 (by omega)).mono ?_; rintro e w3 ⟨v3, rfl, hown3, hb3⟩))
  have A3 := A2.below hb3 (by omega)
  have hB3 := hB2.trans (hb3.mono (by omega))
  have hs3 := Nat.le_trans hs2 hb3.size
  have hl3 := range_sl (ac_lk A3.ac)
  go_wp2_with (at_builtin; go_must (refine append_bytes (by rfl) (.tmp 13) (.tmp 15) (by rfl) (w.heap.size + 1) _ (0 + 8 + 8) ([] ++ e8 a.bal ++ e8 a.non) (by rfl) hown3 (some ⟨w.heap.size, 0 + 2, none⟩) 32 32 a.lk (by rfl) H32.out.symm (fun h => by cases h) hl3 (by omega) hs3 ?_; intro v4 w4 hown4 hg4; have hB4 := hB3.grown hg4 hB3.size (fun k e => by have := own_ge hown3 k e; omega)))
  go_ret
  refine ⟨v4, rfl, ?_, hB4⟩
  have e : acb a = [] ++ e8 a.bal ++ e8 a.non ++ a.lk := rfl
  rw [e]
  exact own_monoS hown4 (by omega)
set_option maxHeartbeats 1000000 in
theorem ouBytes_any (a : Ou) (w : World) :
    Calls Try.prog 78 #[.agg a.arr] w fun e w' => ∃ v, e = .returned v ∧ w'.ownsRow w.heap.size 5 1 v 16 (by8 (oub a)) ∧ Below w.heap.size w w' := by
  obtain ⟨i0, hi, hz0, hz1, hz2⟩ := info_parts info5
  have A0 := Arr.new w 66 a.arr
  go_enter Try.func78, Try.ntmps78
  go_upto_region 2 with (at_make; go_must (refine wpList_make_own _ (by rfl) (.const (.int .i64 0)) (.const (.int .i64 16)) 63 (by rfl) (w.heap.size + 1) 5 i0 (.int .u8 0) 1 Try.underlying63 hi hz0 hz1 .i64 .i64 _ 16 (by rfl) (by rfl) (by omega) (by rw [hz2]; omega) (Nat.le_trans (by omega) maxLen_ge) (by simp) ?_; intro w1 hown1 hg1; have hown1 : w1.ownsRow (w.heap.size + 1) 5 1 (.slice (some ⟨w.heap.size + 1, 0, none⟩) 0 16) 0 (by8 []) := (by simpa [by8] using hown1); have hs1 : w.heap.size + 1 ≤ w1.heap.size := (by have := hg1.size; simpa using this); have A1 : Arr w1 w.heap.size 66 a.arr := A0.grown hg1 (by simp); have hB1 : Below w.heap.size w w1 := ((Below.refl _ _).alloc (Nat.le_refl _) _).grown hg1 (by simp) (by simp)))
  clear A0
  have c1 := ou_c0 A1.ou
  go_upto_region 3 with (go_at_call 97; go_must (refine (appNum_any (w.heap.size + 1) 0 _ [] a.tw _ hown1 hs1 (by omega)).mono ?_; rintro e w2 ⟨v2, rfl, hown2, hb2⟩))
  have A2 := A1.below hb2 (by omega)
  have hB2 := hB1.trans (hb2.mono (by omega))
  have hs2 := Nat.le_trans hs1 hb2.size
  have c2 := ou_c1 A2.ou
  go_wp2_with (go_at_call 97; go_must (refine (appNum_any (w.heap.size + 1) (0 + 8) _ _ a.am _ hown2 hs2 (by omega)).mono ?_; rintro e w3 ⟨v3, rfl, hown3, hb3⟩))
  have hB3 := hB2.trans (hb3.mono (by omega))
  go_ret
  refine ⟨v3, rfl, ?_, hB3⟩
  have e : oub a = [] ++ e8 a.tw ++ e8 a.am := rfl
  rw [e]
  exact own_monoS hown3 (by omega)
end Go.Proofs.Ytbhhbkoikocjgaa
