/- K1, K2. -/
import Derived.Test.YtimmiidkjpbffaaX04
import Derived.Test.YtimmiidkjpbffaaX03
import Derived.Test.YtimmiidkjpbffaaX02
import Derived.Laws.OwnMore
import Derived.Maps.AppendAt
import Derived.RangeFuncRecord
import Derived.Handy
import Derived.BigQuiet
import Derived.BigRegion
/- Layer compile: a program that is being compiled, in memory. -/
namespace Go.Proofs.Ytimmiidkjpbffaa
open Go.RowKit
set_option maxRecDepth 100000
set_option linter.unusedVariables false
set_option linter.unusedSimpArgs false

def ccell (c : KI) : List Value := [.int .u8 c.o, .int .u8 c.a, .int .u8 c.b, .int .u8 c.c, .int .u32 c.i]
def flatC (l : List KI) : List Value := (l.map ccell).flatten
def gcell (g : Int × Int) : List Value := [.int .i64 g.1, .int .i64 g.2]
def flatG (l : List (Int × Int)) : List Value := (l.map gcell).flatten
def zCI : Value := .agg #[.int .u8 0, .int .u8 0, .int .u8 0, .int .u8 0, .int .u32 0]
def zGp : Value := .agg #[.int .i64 0, .int .i64 0]
theorem info108 : (Try.prog.info? 108).map (fun i => (i.zero, i.size, i.bytes)) = some (some zCI, 5, 8) := by kernel_rfl
theorem info105 : (Try.prog.info? 105).map (fun i => (i.zero, i.size, i.bytes)) = some (some zGp, 2, 16) := by kernel_rfl
theorem info73 : (Try.prog.info? 3).map (fun i => (i.zero, i.size, i.bytes)) = some (some (.int .i64 0), 1, 8) := by kernel_rfl
theorem info_parts' {e : TypeId} {z : Value} {s b : Nat} (h : (Try.prog.info? e).map (fun i => (i.zero, i.size, i.bytes)) = some (some z, s, b)) : ∃ i, Try.prog.info? e = some i ∧ i.zero = some z ∧ i.size = s ∧ i.bytes = b := by
  cases h0 : Try.prog.info? e with
  | none => rw [h0] at h; cases h
  | some i =>
    rw [h0] at h
    simp only [Option.map_some, Option.some.injEq, Prod.mk.injEq] at h
    exact ⟨i, rfl, h.1, h.2.1, h.2.2⟩
theorem flatC_app (l m : List KI) : flatC (l ++ m) = flatC l ++ flatC m := by simp [flatC]
theorem flatG_app (l m : List (Int × Int)) : flatG (l ++ m) = flatG l ++ flatG m := by simp [flatG]
theorem flatC_len (l : List KI) : (flatC l).length = l.length * 5 := by
  induction l with
  | nil => rfl
  | cons a r ih => simp only [flatC, List.map_cons, List.flatten_cons, List.length_append, List.length_cons] at ih ⊢; rw [ih]; simp [ccell]; omega
theorem flatG_len (l : List (Int × Int)) : (flatG l).length = l.length * 2 := by
  induction l with
  | nil => rfl
  | cons a r ih => simp only [flatG, List.map_cons, List.flatten_cons, List.length_append, List.length_cons] at ih ⊢; rw [ih]; simp [gcell]; omega
theorem flatC_one (l : List KI) : ∀ u ∈ flatC l, u.oneCell' = true := by
  intro u hu
  obtain ⟨L, hL, hv⟩ := List.mem_flatten.1 hu
  obtain ⟨c, -, rfl⟩ := List.mem_map.1 hL
  simp [ccell] at hv
  rcases hv with rfl | rfl | rfl | rfl | rfl <;> rfl
theorem flatG_one (l : List (Int × Int)) : ∀ u ∈ flatG l, u.oneCell' = true := by
  intro u hu
  obtain ⟨L, hL, hv⟩ := List.mem_flatten.1 hu
  obtain ⟨c, -, rfl⟩ := List.mem_map.1 hL
  simp [gcell] at hv
  rcases hv with rfl | rfl <;> rfl
theorem own_slc {w : World} {base e z n : Nat} {v : Value} {xs : List Value} (h : w.ownsRow base e z v n xs) : ∃ sp cap, v = .slice sp n cap := by
  rcases h.2 with ⟨rfl, rfl⟩ | ⟨g, cap, cur, rfl, -⟩
  · exact ⟨_, _, rfl⟩
  · exact ⟨_, _, rfl⟩
theorem own_mv {w w' : World} {base e z n : Nat} {v : Value} {xs : List Value} (h : w.ownsRow base e z v n xs) (h1 : ∀ k, v.ownBlock = some k → w'.heap[k]? = w.heap[k]?) : w'.ownsRow base e z v n xs := by
  refine ⟨h.1, ?_⟩
  rcases h.2 with h' | ⟨g, cap, cur, rfl, a, b, c⟩
  · exact .inl h'
  · exact .inr ⟨g, cap, cur, rfl, a, (h1 g rfl).trans b, c⟩
theorem own_in {w : World} {base e z n : Nat} {v : Value} {xs : List Value} (h : w.ownsRow base e z v n xs) : ∀ k, v.ownBlock = some k → base ≤ k ∧ k < w.heap.size := by
  intro k hk
  rcases h.2 with ⟨rfl, -⟩ | ⟨g, cap, cur, rfl, a, b, -⟩
  · cases hk
  · cases hk
    exact ⟨a, (Array.getElem?_eq_some_iff.1 b).1⟩
/-- A map of labels' places. -/
def lents (L : List (Int × Value × Nat)) : List MapEntry := L.map fun x => { key := .int .i64 x.1, val := x.2.1, born := x.2.2 }
def lkv (L : List (Int × Value × Nat)) (k : Int) : Option Value := (L.find? (·.1 == k)).map (·.2.1)
def MapL (w : World) (r : Nat) (m : Int → Option Int) : Prop := ∃ L clock, w.heap[r]? = some (.map (lents L).toArray clock) ∧ ∀ k, lkv L k = (m k).map (Value.int .i64)
theorem MapL.new (w : World) : MapL (w.alloc (.map #[] 0)) w.heap.size (fun _ => none) := ⟨[], 0, heap_alloc_new w _, fun _ => rfl⟩
theorem MapL.same {w w' : World} {r : Nat} {m : Int → Option Int} (h : MapL w r m) (he : w'.heap[r]? = w.heap[r]?) : MapL w' r m := by
  obtain ⟨L, clock, h1, h2⟩ := h
  exact ⟨L, clock, he.trans h1, h2⟩
theorem MapL.lt {w : World} {r : Nat} {m : Int → Option Int} (h : MapL w r m) : r < w.heap.size := by
  obtain ⟨L, clock, h1, h2⟩ := h
  exact (Array.getElem?_eq_some_iff.1 h1).1
theorem lfind (k : Int) : ∀ (L : List (Int × Value × Nat)) (i : Nat), (lkv L k = none ∧ Instr.findNow (.int .i64) (.int .i64 k) (lents L) i = some none) ∨ ∃ L1 v b L2, L = L1 ++ (k, v, b) :: L2 ∧ (∀ x ∈ L1, x.1 ≠ k) ∧ lkv L k = some v ∧ Instr.findNow (.int .i64) (.int .i64 k) (lents L) i = some (some (i + L1.length, v))
  | [], i => .inl ⟨rfl, rfl⟩
  | x :: L, i => by
    by_cases h : x.1 = k
    · right
      obtain ⟨x1, x2, x3⟩ := x
      replace h : x1 = k := h
      subst h
      exact ⟨[], x2, x3, L, rfl, by simp, by simp [lkv], by simp [lents, Instr.findNow, Instr.sameNow]⟩
    · have hb : (k == x.1) = false := by simpa using fun e => h e.symm
      have h1 : lkv (x :: L) k = lkv L k := by simp [lkv, h]
      have h2 : Instr.findNow (.int .i64) (.int .i64 k) (lents (x :: L)) i = Instr.findNow (.int .i64) (.int .i64 k) (lents L) (i + 1) := by
        simp [lents, Instr.findNow, Instr.sameNow, hb]
      rw [h1, h2]
      rcases lfind k L (i + 1) with e | ⟨L1, v, b, L2, e1, e2, e3, e4⟩
      · exact .inl e
      · refine .inr ⟨x :: L1, v, b, L2, by rw [e1]; rfl, ?_, e3, ?_⟩
        · intro y hy
          rcases List.mem_cons.1 hy with rfl | hy
          · exact h
          · exact e2 y hy
        · rw [e4, List.length_cons]; congr 3; omega
theorem lkey (k : Int) (w : World) (b : Bool) : (Instr.checkKey b 10000 72 (.int .i64 k)).run Try.prog w = .ok () w := by
  rw [show (10000 : Nat) = 9999 + 1 from rfl, Instr.checkKey]
  simp only [Sem.run_bind, run_underlying Try.underlying72, Result.andThen_ok]
  rfl
theorem lzero (w : World) : (zeroValue 3).run Try.prog w = .ok (.int .i64 0) w := by kernel_rfl
theorem llook {w : World} {r : Nat} {m : Int → Option Int} (h : MapL w r m) (k : Int) :
    (Instr.lookup 70 (.map (some r)) (.int .i64 k) false).run Try.prog w = .ok (.int .i64 ((m k).getD 0)) w := by
  obtain ⟨L, clock, h1, h2⟩ := h
  have hg : (getObj r).run Try.prog w = .ok (.map (lents L).toArray clock) w := by simp [getObj, Sem.run, h1]
  have hk := lkey k w
  rcases lfind k L 0 with ⟨e1, e2⟩ | ⟨L1, v, b, L2, -, -, e1, e2⟩
  · have : m k = none := by have := h2 k; rw [e1] at this; cases hm : m k with | none => rfl | some x => rw [hm] at this; cases this
    rw [this]
    simp [Instr.lookup, Sem.run_bind, run_underlying Try.underlying70, run_underlying Try.underlying72, hg, hk, Instr.findKey, e2, Result.andThen, lzero]
  · have hx := h2 k
    rw [e1] at hx
    cases hm : m k with
    | none => rw [hm] at hx; cases hx
    | some x =>
      rw [hm] at hx
      obtain rfl : v = .int .i64 x := by simpa using hx
      simp [Instr.lookup, Sem.run_bind, run_underlying Try.underlying70, run_underlying Try.underlying72, hg, hk, Instr.findKey, e2, Result.andThen]
theorem lmod {α : Type} (f : α → α) : ∀ (l : List α) (a : α) (r : List α), (l ++ a :: r).modify l.length f = l ++ f a :: r
  | [], a, r => rfl
  | b :: l, a, r => by simp [List.modify_succ_cons, lmod f l a r]
theorem lupd {w : World} {r : Nat} {m : Int → Option Int} (h : MapL w r m) (k x : Int) :
    ∃ o, (Instr.mapUpdate 70 (.map (some r)) (.int .i64 k) (.int .i64 x)).run Try.prog w = .ok () (w.putObj r o) ∧ MapL (w.putObj r o) r (fun j => if j = k then some x else m j) := by
  obtain ⟨L, clock, h1, h2⟩ := h
  have hlt := (Array.getElem?_eq_some_iff.1 h1).1
  have hg : (getObj r).run Try.prog w = .ok (.map (lents L).toArray clock) w := by simp [getObj, Sem.run, h1]
  have hs : ∀ o, (setObj r o).run Try.prog w = .ok () (w.putObj r o) := fun o => by simp [setObj, Sem.run, h1, World.putObj]
  have hk := lkey k w
  rcases lfind k L 0 with ⟨e1, e2⟩ | ⟨L1, v', b, L2, e0, e3, e1, e2⟩
  · refine ⟨.map ((lents L).toArray.push { key := .int .i64 k, val := .int .i64 x, born := clock }) (clock + 1), ?_, L ++ [(k, .int .i64 x, clock)], clock + 1, ?_, fun j => ?_⟩
    · simp [Instr.mapUpdate, Sem.run_bind, run_underlying Try.underlying70, run_underlying Try.underlying72, hg, hk, hs, Instr.findKey, e2, Result.andThen]
    · rw [World.putObj_heap_same hlt]; simp [lents]
    · have : lkv (L ++ [(k, .int .i64 x, clock)]) j = (lkv L j).or (if j = k then some (.int .i64 x) else none) := by
        simp only [lkv, List.find?_append, Option.map_or]
        congr 1
        by_cases e : j = k
        · subst e; simp
        · simp [e, Ne.symm e]
      rw [this, h2]
      by_cases e : j = k
      · subst e
        have hx := h2 j
        rw [e1] at hx
        cases hm : m j with
        | none => simp
        | some y => rw [hm] at hx; cases hx
      · simp [e]
  · have hkey : ∀ u : World, (Instr.keyThatStays (.int .i64 k) (.int .i64 k)).run Try.prog u = .ok (.int .i64 k) u := fun u => by
      unfold Instr.keyThatStays
      have : Instr.sameBits 10000 (.int .i64 k) (.int .i64 k) = true := by
        rw [show (10000 : Nat) = 9999 + 1 from rfl]; unfold Instr.sameBits; first | simp | rfl
      rw [if_pos this]
      rfl
    have hget : ((((lents L).toArray[0 + L1.length]?).map (·.key)).getD (.int .i64 k)) = .int .i64 k := by
      rw [e0]; simp [lents]
    refine ⟨.map ((lents L).toArray.modify (0 + L1.length) fun e => { e with key := .int .i64 k, val := .int .i64 x }) clock, ?_, L1 ++ (k, .int .i64 x, b) :: L2, clock, ?_, fun j => ?_⟩
    · simp [Instr.mapUpdate, Sem.run_bind, run_underlying Try.underlying70, run_underlying Try.underlying72, hg, hk, hs, Instr.findKey, e2, Result.andThen, hget, hkey]
      first | done | (simp at hget; rw [hget, hkey]; exact hs _)
    · rw [World.putObj_heap_same hlt]
      congr 2
      rw [e0]
      apply Array.ext'
      simp only [Array.toList_modify, List.toList_toArray, Nat.zero_add]
      have hl : L1.length = (lents L1).length := by simp [lents]
      rw [show lents (L1 ++ (k, v', b) :: L2) = lents L1 ++ { key := .int .i64 k, val := v', born := b } :: lents L2 by simp [lents], hl, lmod]
      simp [lents]
    · have hf : ∀ y : Value, (L1 ++ (k, y, b) :: L2).find? (·.1 == j) = if j = k then some (k, y, b) else (L1 ++ L2).find? (·.1 == j) := fun y => by
        by_cases e : j = k
        · subst e
          rw [if_pos rfl, List.find?_append, List.find?_eq_none.2 (fun z hz => by simpa using e3 z hz)]
          simp
        · rw [if_neg e, List.find?_append, List.find?_append, List.find?_cons_of_neg (by simpa using fun e' => e e'.symm)]
      have h2j := h2 j
      unfold lkv at h2j ⊢
      rw [e0, hf] at h2j
      rw [hf]
      by_cases e : j = k
      · simp [e]
      · rw [if_neg e] at h2j ⊢
        simpa [e] using h2j
end Go.Proofs.Ytimmiidkjpbffaa
/- Layer compile: the builder in memory; code is put behind code. -/
namespace Go.Proofs.Ytimmiidkjpbffaa
open Go.RowKit
set_option maxRecDepth 100000
set_option linter.unusedVariables false
set_option linter.unusedSimpArgs false

/-- What stays all through the compiling of a function. -/
structure KQ where
  g : Nat
  gc : Nat
  gm : Nat
  sv : Value
  E : KE
  fv : Value
  sl : Int
  f : Int
  lv : Int
def pF (gc : Nat) : Value := .func (Fn.func 29) #[] #[.pointer (some ⟨gc, 0, none⟩)]
def mF (n g : Nat) : Value := .func (Fn.func n) #[.pointer (some ⟨g, 0, none⟩)] #[]
def kbA (q : KQ) (gv : Value) (nx : Int) : Array Value := #[q.sv, .int .i64 q.E.da, pF q.gc, .map (some q.gm), gv, .int .i64 nx, q.fv, .int .i64 q.sl, .int .i64 q.f, .int .i64 q.lv, .nilFunc, mF 49 q.g, mF 50 q.g, mF 51 q.g, mF 52 q.g, mF 53 q.g, mF 54 q.g, mF 55 q.g, mF 56 q.g, mF 57 q.g, .nilFunc, mF 58 q.g, mF 59 q.g, mF 60 q.g, mF 61 q.g]
/-- The builder; P: the blocks that may change. -/
structure KB (P : Nat → Prop) (q : KQ) (s : KS) (cv gv : Value) (w : World) : Prop where
  ar : Arr w q.g 79 (kbA q gv s.nx)
  cd : Arr w q.gc 65 #[cv]
  oc : w.ownsRow 0 108 5 cv s.code.length (flatC s.code)
  og : w.ownsRow 0 105 2 gv s.gaps.length (flatG s.gaps)
  mp : MapL w q.gm s.pl
  n1 : q.g ≠ q.gc ∧ q.g ≠ q.gm ∧ q.gc ≠ q.gm
  n2 : cv.ownBlock ≠ some q.g ∧ cv.ownBlock ≠ some q.gc ∧ cv.ownBlock ≠ some q.gm
  n3 : gv.ownBlock ≠ some q.g ∧ gv.ownBlock ≠ some q.gc ∧ gv.ownBlock ≠ some q.gm
  n4 : ∀ k, cv.ownBlock = some k → gv.ownBlock ≠ some k
  pg : P q.g ∧ P q.gc ∧ P q.gm
  pc : ∀ k, cv.ownBlock = some k → P k
  pp : ∀ k, gv.ownBlock = some k → P k
  up : ∀ k, w.heap.size ≤ k → P k
  le : s.gaps.length ≤ s.code.length
def KBE (P : Nat → Prop) (q : KQ) (s : KS) (w : World) : Prop := ∃ cv gv, KB P q s cv gv w
/-- What a call of one of the builder's methods leaves. -/
def KP (P : Nat → Prop) (q : KQ) (s : KS) (r : Value) (w : World) (e : Ending) (w' : World) : Prop := e = .returned r ∧ KBE P q s w' ∧ Ch P w w'
theorem KB.gcs {P : Nat → Prop} {q : KQ} {s : KS} {cv gv : Value} {w : World} (h : KB P q s cv gv w) : ∃ spc cc spg cg, cv = .slice spc s.code.length cc ∧ gv = .slice spg s.gaps.length cg := by
  obtain ⟨a, b, e⟩ := own_slc h.oc
  obtain ⟨c, d, e'⟩ := own_slc h.og
  exact ⟨a, b, c, d, e, e'⟩
/-- Blocks that are none of the builder's may change. -/
theorem KB.mv {P P' : Nat → Prop} {q : KQ} {s : KS} {cv gv : Value} {w w' : World} (h : KB P q s cv gv w) (hk : ∀ k, k < w.heap.size → (k = q.g ∨ k = q.gc ∨ k = q.gm ∨ cv.ownBlock = some k ∨ gv.ownBlock = some k) → w'.heap[k]? = w.heap[k]? ∧ P' k) (hu : ∀ k, w'.heap.size ≤ k → P' k) : KB P' q s cv gv w' :=
  have g1 := hk q.g h.ar.lt (.inl rfl)
  have g2 := hk q.gc h.cd.lt (.inr (.inl rfl))
  have g3 := hk q.gm h.mp.lt (.inr (.inr (.inl rfl)))
  { ar := g1.1.trans h.ar, cd := g2.1.trans h.cd, oc := own_mv h.oc fun k e => (hk k (own_in h.oc k e).2 (.inr (.inr (.inr (.inl e))))).1, og := own_mv h.og fun k e => (hk k (own_in h.og k e).2 (.inr (.inr (.inr (.inr e))))).1,
     mp := h.mp.same g3.1, n1 := h.n1, n2 := h.n2, n3 := h.n3, n4 := h.n4, pg := ⟨g1.2, g2.2, g3.2⟩, pc := fun k e => (hk k (own_in h.oc k e).2 (.inr (.inr (.inr (.inl e))))).2, pp := fun k e => (hk k (own_in h.og k e).2 (.inr (.inr (.inr (.inr e))))).2, up := hu, le := h.le }
theorem KB.al {P : Nat → Prop} {q : KQ} {s : KS} {cv gv : Value} {w : World} (h : KB P q s cv gv w) (o : Obj) : KB (fun k => P k ∧ k ≠ w.heap.size) q s cv gv (w.alloc o) :=
  h.mv (fun k hk hh => ⟨heap_alloc_old w o hk, by rcases hh with rfl | rfl | rfl | e | e <;> first | exact h.pg.1 | exact h.pg.2.1 | exact h.pg.2.2 | exact h.pc _ e | exact h.pp _ e, by omega⟩) fun k hk => ⟨h.up k (by simp at hk; omega), by simp at hk; omega⟩
/-- A block that is laid and forgotten. -/
theorem KB.al0 {P : Nat → Prop} {q : KQ} {s : KS} {cv gv : Value} {w : World} (h : KB P q s cv gv w) (o : Obj) : KB P q s cv gv (w.alloc o) :=
  h.mv (fun k hk hh => ⟨heap_alloc_old w o hk, by rcases hh with rfl | rfl | rfl | e | e <;> first | exact h.pg.1 | exact h.pg.2.1 | exact h.pg.2.2 | exact h.pc _ e | exact h.pp _ e⟩) fun k hk => h.up k (by simp at hk; omega)
theorem KB.dw {P : Nat → Prop} {q : KQ} {s : KS} {cv gv : Value} {w : World} (h : KB P q s cv gv w) : KB P q s cv gv w.drew :=
  { h with ar := h.ar.drew, cd := h.cd.drew, oc := own_mv h.oc fun k e => rfl, og := own_mv h.og fun k e => rfl, mp := h.mp.same rfl }
theorem KB.dwN {P : Nat → Prop} {q : KQ} {s : KS} {cv gv : Value} {w : World} (h : KB P q s cv gv w) (n : Nat) : KB P q s cv gv (w.drewN n) :=
  { h with ar := h.ar, cd := h.cd, oc := own_mv h.oc fun k e => rfl, og := own_mv h.og fun k e => rfl, mp := h.mp.same rfl }
/-- More may change. -/
theorem KB.wk {P P' : Nat → Prop} {q : KQ} {s : KS} {cv gv : Value} {w : World} (h : KB P q s cv gv w) (hp : ∀ k, P k → P' k) : KB P' q s cv gv w :=
  { h with pg := ⟨hp _ h.pg.1, hp _ h.pg.2.1, hp _ h.pg.2.2⟩, pc := fun k e => hp k (h.pc k e), pp := fun k e => hp k (h.pp k e), up := fun k e => hp k (h.up k e) }
theorem KBE.wk {P P' : Nat → Prop} {q : KQ} {s : KS} {w : World} (h : KBE P q s w) (hp : ∀ k, P k → P' k) : KBE P' q s w :=
  let ⟨cv, gv, hK⟩ := h; ⟨cv, gv, hK.wk hp⟩
/-- Instructions in memory that are handed over. -/
def CR (w : World) (sp : Option Addr) (m cap : Nat) (l : List KI) : Prop := m = l.length ∧ (sp = none → l = [] ∧ cap = 0) ∧ ∀ a, sp = some a → ∀ j u, (flatC l)[j]? = some u → w.cell? (a.add j) = some u
theorem CR.nil (w : World) : CR w none 0 0 [] := ⟨rfl, fun _ => ⟨rfl, rfl⟩, fun a h => (by cases h)⟩
theorem CR.one {w : World} {g ty : Nat} {c : KI} (h : Arr w g ty (ccell c).toArray) : CR w (some ⟨g, 0, none⟩) 1 1 [c] :=
  ⟨rfl, fun h => (by cases h), fun a ha j u hj => by
    cases ha
    have e : flatC [c] = ccell c := by simp [flatC]
    rw [e] at hj
    rw [Addr.add_mid, Nat.zero_add, h.cell j]
    simpa using hj⟩
/-- append of instructions. -/
theorem wp_apC {ops : Array Oper} {rest : List Oper} {o : Oper} {a : Act} {w : World} {Q : Exit → Act → World → Prop} (hgd : o.guard = none) (s x : Operand) (ho : o.op = .call { callee := .builtin .append, args := #[s, x], argTypes := #[65, 65] })
    (v : Value) (code l : List KI) (hs : a.eval s = v) (hown : w.ownsRow 0 108 5 v code.length (flatC code)) (sp : Option Addr) (m cap : Nat) (hx : a.eval x = .slice sp m cap) (hm : CR w sp m cap l) (hb : code.length + l.length ≤ 1000000)
    (h : ∀ v' w', w'.ownsRow 0 108 5 v' (code ++ l).length (flatC (code ++ l)) → w.grownBy w' v.ownBlock → (v'.ownBlock = v.ownBlock ∨ v'.ownBlock = some w.heap.size) → wpList Try.prog ops Q rest (a.put o.dst v') w') : wpList Try.prog ops Q (o :: rest) a w := by
  obtain ⟨i0, hi0, hz0, hz1, hz2⟩ := info_parts' info108
  obtain ⟨rfl, hm2, hm3⟩ := hm
  cases sp with
  | none =>
    obtain ⟨rfl, rfl⟩ := hm2 rfl
    have hrun := run_append_owned_none (P := Try.prog) (w := w) 0 65 o.type 108 i0 5 Try.underlying65 hi0 v code.length _ hown
    refine wpList_plain hgd fun _ hK => ?_
    unfold Oper.wp
    simp [execOp, ho, resolve, invoke, builtin, hs, hx, hrun, Result.andThen]
    exact hK _ _ (h v w (by simpa using hown) ⟨rfl, rfl, rfl, Nat.le_refl _, fun _ _ _ => rfl⟩ (.inl rfl))
  | some ad =>
    obtain ⟨v', w', hr, h2, h3, -, h5⟩ := run_append_own_at (P := Try.prog) w 0 65 o.type 108 i0 zCI 5 8 Try.underlying65 hi0 hz0 hz1 hz2 rfl (by omega) v code.length _ hown ad l.length cap (flatC l) (flatC_len l) (fun j u hj => hm3 ad rfl j u hj) (flatC_one l) (by unfold maxLen; omega) (by omega) (by omega)
    refine wpList_plain hgd fun _ hK => ?_
    unfold Oper.wp
    simp only [execOp, ho, resolve, invoke, builtin, Sem.run_bind, Sem.run_pure, Result.andThen_ok, List.map_toArray, List.map_cons, List.map_nil, hs, hx, hr]
    exact hK _ _ (h v' w' (by rw [flatC_app, List.length_append]; exact h2) h3 h5)
theorem KB.code {P : Nat → Prop} {q : KQ} {s : KS} {cv gv v1 : Value} {w w1 : World} {l : List KI} (h : KB P q s cv gv w) (ho : w1.ownsRow 0 108 5 v1 (s.code ++ l).length (flatC (s.code ++ l))) (hg : w.grownBy w1 cv.ownBlock) (hne : v1.ownBlock = cv.ownBlock ∨ v1.ownBlock = some w.heap.size) :
    KB P q (s.put l) v1 gv (w1.setCell ⟨q.gc, 0, none⟩ v1) ∧ Ch P w (w1.setCell ⟨q.gc, 0, none⟩ v1) := by
  have hs : ∀ k, k ≠ q.gc → (w1.setCell ⟨q.gc, 0, none⟩ v1).heap[k]? = w1.heap[k]? := fun k hk => Below.heap_setCell _ _ _ _ (fun e => hk (by have e' : k = q.gc := e; exact e'))
  have hb : ∀ k, k < w.heap.size → some k ≠ cv.ownBlock → k ≠ q.gc → (w1.setCell ⟨q.gc, 0, none⟩ v1).heap[k]? = w.heap[k]? := fun k h1 h2 h3 => (hs k h3).trans (hg.block k h1 h2)
  have hv : ∀ k, v1.ownBlock = some k → cv.ownBlock = some k ∨ k = w.heap.size := fun k e => by
    rcases hne with e1 | e1
    · exact .inl (e1.symm.trans e)
    · rw [e1] at e; exact .inr (Option.some.inj e).symm
  have l1 := h.ar.lt
  have l2 := h.cd.lt
  have l3 := h.mp.lt
  have hcd : Arr w1 q.gc 65 #[cv] := (hg.block _ h.cd.lt (fun e => h.n2.2.1 e.symm)).trans h.cd
  refine ⟨{ ar := (hb _ l1 (fun e => h.n2.1 e.symm) h.n1.1).trans h.ar, cd := by simpa using hcd.set 0 v1, oc := ?_, og := ?_, mp := h.mp.same (hb _ l3 (fun e => h.n2.2.2 e.symm) h.n1.2.2.symm), n1 := h.n1, n2 := ⟨?_, ?_, ?_⟩, n3 := h.n3, n4 := ?_, pg := h.pg, pc := ?_, pp := h.pp, up := ?_, le := ?_ }, ?_⟩
  · refine own_mv ho fun k e => hs k ?_
    rcases hv k e with e | e
    · intro e'; subst e'; exact h.n2.2.1 e
    · omega
  · refine own_mv h.og fun k e => hb k (own_in h.og k e).2 (fun e' => h.n4 k e'.symm e) (fun e' => ?_)
    subst e'
    exact h.n3.2.1 e
  · intro e
    rcases hv _ e with e | e
    · exact h.n2.1 e
    · omega
  · intro e
    rcases hv _ e with e | e
    · exact h.n2.2.1 e
    · omega
  · intro e
    rcases hv _ e with e | e
    · exact h.n2.2.2 e
    · omega
  · intro k e
    rcases hv k e with e | e
    · exact h.n4 k e
    · intro e'; have := (own_in h.og k e').2; omega
  · intro k e
    rcases hv k e with e | e
    · exact h.pc k e
    · exact h.up k (by omega)
  · intro k hk
    have := hg.size
    exact h.up k (by simp at hk; omega)
  · have := h.le
    simp only [KS.put, List.length_append]
    omega
  · refine ⟨hg.os, hg.tape, hg.output, by simpa using hg.size, fun k h1 h2 => hb k h1 (fun e => h2 (h.pc k e.symm)) (fun e => h2 (by rw [e]; exact h.pg.2.1))⟩
theorem KB.gap {P : Nat → Prop} {q : KQ} {s : KS} {cv gv v1 : Value} {w w1 : World} {l : List (Int × Int)} (h : KB P q s cv gv w) (ho : w1.ownsRow 0 105 2 v1 (s.gaps ++ l).length (flatG (s.gaps ++ l))) (hg : w.grownBy w1 gv.ownBlock) (hne : v1.ownBlock = gv.ownBlock ∨ v1.ownBlock = some w.heap.size) (hle : (s.gaps ++ l).length ≤ s.code.length) :
    KB P q ⟨s.code, s.gaps ++ l, s.pl, s.nx⟩ cv v1 (w1.setCell ⟨q.g, 4, none⟩ v1) ∧ Ch P w (w1.setCell ⟨q.g, 4, none⟩ v1) := by
  have hs : ∀ k, k ≠ q.g → (w1.setCell ⟨q.g, 4, none⟩ v1).heap[k]? = w1.heap[k]? := fun k hk => Below.heap_setCell _ _ _ _ (fun e => hk (by have e' : k = q.g := e; exact e'))
  have hb : ∀ k, k < w.heap.size → some k ≠ gv.ownBlock → k ≠ q.g → (w1.setCell ⟨q.g, 4, none⟩ v1).heap[k]? = w.heap[k]? := fun k h1 h2 h3 => (hs k h3).trans (hg.block k h1 h2)
  have hv : ∀ k, v1.ownBlock = some k → gv.ownBlock = some k ∨ k = w.heap.size := fun k e => by
    rcases hne with e1 | e1
    · exact .inl (e1.symm.trans e)
    · rw [e1] at e; exact .inr (Option.some.inj e).symm
  have l1 := h.ar.lt
  have l2 := h.cd.lt
  have l3 := h.mp.lt
  have har : Arr w1 q.g 79 (kbA q gv s.nx) := (hg.block _ h.ar.lt (fun e => h.n3.1 e.symm)).trans h.ar
  refine ⟨{ ar := har.set 4 v1, cd := (hb _ l2 (fun e => h.n3.2.1 e.symm) h.n1.1.symm).trans h.cd, oc := ?_, og := ?_, mp := h.mp.same (hb _ l3 (fun e => h.n3.2.2 e.symm) h.n1.2.1.symm), n1 := h.n1, n2 := h.n2, n3 := ⟨?_, ?_, ?_⟩, n4 := ?_, pg := h.pg, pc := h.pc, pp := ?_, up := ?_, le := hle }, ?_⟩
  · refine own_mv h.oc fun k e => hb k (own_in h.oc k e).2 (fun e' => h.n4 k e e'.symm) (fun e' => ?_)
    subst e'
    exact h.n2.1 e
  · refine own_mv ho fun k e => hs k ?_
    rcases hv k e with e | e
    · intro e'; subst e'; exact h.n3.1 e
    · omega
  · intro e
    rcases hv _ e with e | e
    · exact h.n3.1 e
    · omega
  · intro e
    rcases hv _ e with e | e
    · exact h.n3.2.1 e
    · omega
  · intro e
    rcases hv _ e with e | e
    · exact h.n3.2.2 e
    · omega
  · intro k e e'
    rcases hv k e' with e' | e'
    · exact h.n4 k e e'
    · have := (own_in h.oc k e).2; omega
  · intro k e
    rcases hv k e with e | e
    · exact h.pp k e
    · exact h.up k (by omega)
  · intro k hk
    have := hg.size
    exact h.up k (by simp at hk; omega)
  · refine ⟨hg.os, hg.tape, hg.output, by simpa using hg.size, fun k h1 h2 => hb k h1 (fun e => h2 (h.pp k e.symm)) (fun e => h2 (by rw [e]; exact h.pg.1))⟩
/-- append of a gap. -/
theorem wp_apG {o : Oper} {a : Act} {w : World} {K : Act → World → Prop} {Q : Exit → Act → World → Prop} (s x : Operand) (ho : o.op = .call { callee := .builtin .append, args := #[s, x], argTypes := #[71, 71] })
    (v : Value) (gs : List (Int × Int)) (p : Int × Int) (hs : a.eval s = v) (hown : w.ownsRow 0 105 2 v gs.length (flatG gs)) (gx c : Nat) (hx : a.eval x = .slice (some ⟨gx, 0, none⟩) 1 c) (ty : Nat) (hA : Arr w gx ty #[.int .i64 p.1, .int .i64 p.2]) (hb : gs.length ≤ 1000000)
    (h : ∀ v' w', w'.ownsRow 0 105 2 v' (gs ++ [p]).length (flatG (gs ++ [p])) → w.grownBy w' v.ownBlock → (v'.ownBlock = v.ownBlock ∨ v'.ownBlock = some w.heap.size) → K (a.put o.dst v') w') : o.wp Try.prog a w K Q := by
  obtain ⟨i0, hi0, hz0, hz1, hz2⟩ := info_parts' info105
  obtain ⟨v', w', hr, h2, h3, -, h5⟩ := run_append_own_at (P := Try.prog) w 0 71 o.type 105 i0 zGp 2 16 Try.underlying71 hi0 hz0 hz1 hz2 rfl (by omega) v gs.length _ hown ⟨gx, 0, none⟩ 1 c (flatG [p]) (flatG_len [p]) (fun j u hj => by
    rw [Addr.add_mid, Nat.zero_add, hA.cell]
    have e : flatG [p] = gcell p := by simp [flatG]
    rw [e] at hj
    simpa [gcell] using hj) (flatG_one [p]) (by unfold maxLen; omega) (by omega) (by omega)
  unfold Oper.wp execOp
  simp only [ho, resolve, invoke, builtin, Sem.run_bind, Sem.run_pure, Result.andThen_ok, List.map_toArray, List.map_cons, List.map_nil, hs, hx, hr]
  exact h v' w' (by rw [flatG_app, List.length_append]; exact h2) h3 h5
set_option maxHeartbeats 1000000 in
/-- Code is put behind code. -/
theorem put_any {P : Nat → Prop} {q : KQ} {s : KS} {sp : Option Addr} {m cap : Nat} {l : List KI} {cv gv : Value} (w : World) (hK : KB P q s cv gv w) (hm : CR w sp m cap l) (hb : s.code.length + l.length ≤ 1000000) :
    Calls Try.prog 29 #[.slice sp m cap, .pointer (some ⟨q.gc, 0, none⟩)] w fun e w' => e = .returned (.int .i64 ((s.code.length : Int) + l.length)) ∧ (∃ cv', KB P q (s.put l) cv' gv w') ∧ Ch P w w' := by
  obtain ⟨spc, cc, spg, cg, rfl, rfl⟩ := hK.gcs
  have c0 := hK.cd.cell 0
  have f0 := hK.cd.frozen 0
  go_enter Try.func29, Try.ntmps29
  go_wp2_with ((refine wp_apC (by rfl) (.tmp 4) (.tmp 5) (by rfl) (.slice spc s.code.length cc) s.code l (by rfl) hK.oc sp m cap (by rfl) hm hb ?_; intro v1 w1 ho hg hne; obtain ⟨sp1, cp1, hv1⟩ := own_slc ho; subst hv1; have cd1 : Arr w1 q.gc 65 #[.slice spc s.code.length cc] := (hg.block _ hK.cd.lt (fun e => hK.n2.2.1 e.symm)).trans hK.cd; have f1 := cd1.frozen 0; have k1 := cd1.cell 0; have c1 := (cd1.set 0 (.slice sp1 (s.code ++ l).length cp1)).cell 0))
  obtain ⟨k1', k2'⟩ := hK.code ho hg hne
  simp only [List.length_append] at k1' k2'
  go_ret
  exact ⟨rfl, ⟨_, k1'⟩, k2'⟩
end Go.Proofs.Ytimmiidkjpbffaa
