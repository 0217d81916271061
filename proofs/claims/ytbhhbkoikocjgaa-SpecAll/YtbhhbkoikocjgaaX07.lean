/- C, Pk0, Sr. -/
import Derived.Test.YtbhhbkoikocjgaaX01
import Derived.Test.YtbhhbkoikocjgaaX02
import Derived.Test.YtbhhbkoikocjgaaX03
import Derived.Test.YtbhhbkoikocjgaaX04
import Derived.Test.YtbhhbkoikocjgaaX05
import Derived.Test.YtbhhbkoikocjgaaX06
import Derived.BigQuiet
import Derived.BigRegion
import Derived.ChangeKeysEq
import Derived.ChangeOld
import Derived.Deep.DeepCutAuto
import Derived.Deep.DrawnRows
import Derived.Deep.MidRow
import Derived.Deep.QuietTactic
import Derived.Deep.RegionHeld3
import Derived.Deep.RegionLaw
import Derived.Deep.RegionWith
import Derived.Deep.WholeRow
import Derived.Great.BuildSlice
import Derived.Great.FillDense
import Derived.JoinedTies
import Derived.KernelRfl
import Derived.Laws.AppendOwnNone
import Derived.Laws.BitsLemmas
import Derived.Laws.BytesArg
import Derived.Laws.CopyOwn
import Derived.Laws.CopyRow
import Derived.Laws.MakeOwn
import Derived.Laws.OwnMore
import Derived.Laws.ResultCell
import Derived.Laws.Tables
import Derived.Lib.SlBytesConst
import Derived.LoopIn
import Derived.LoopNIn
import Derived.Maps.AppendAt
import Derived.OpenShut
import Derived.OwnWalkIn
import Derived.ProofKit
import Derived.RangeFuncBound
import Derived.RangeFuncCalls
import Derived.RangeFuncLeaves
import Derived.RangeFuncNested
import Derived.RangeFuncRecord
import Derived.Shelf.Abstract
import Derived.Shelf.RegionOpen
import Derived.ShutString
import Derived.SizedLaws
import Derived.TacticsInMore
import Derived.WalkKit
import Derived.WalkLawsBesides
import Derived.WalkSpells
import GoSem.Claim
import GoSem.ClaimJoined
import GoSem.ClaimMapViews
import Derived.Lib.AppendZeros
/- Layer spec: what the layers below give. -/
namespace Go.Proofs.Ytbhhbkoikocjgaa
set_option linter.unusedSectionVars false
set_option maxHeartbeats 1000000
open Go.RowKit
set_option maxRecDepth 100000
set_option linter.unusedVariables false
set_option linter.unusedSimpArgs false

variable [DecidableEq Ac] [DecidableEq Ou] [DecidableEq Mg]
def Mg.cells (m : Mg) : List Value := .int .u8 m.kd :: .int .u64 m.fr :: .int .u64 m.tw :: .int .u64 m.am :: .int .u64 m.no :: (by8 m.ky ++ by8 m.nx)
def Mg.arr (m : Mg) : Array Value := m.cells.toArray
theorem Mg.len {m : Mg} (h : MgOK m) : m.cells.length = 69 := by simp [Mg.cells, by8_len, h.kl, h.nl]
theorem Mg.size {m : Mg} (h : MgOK m) : m.arr.size = 69 := by simp [Mg.arr, Mg.len h]
theorem Mg.one (m : Mg) : ∀ v ∈ m.cells, v.oneCell' = true := by
  intro v hv
  simp only [Mg.cells, List.mem_cons, List.mem_append] at hv
  rcases hv with rfl | rfl | rfl | rfl | rfl | hv | hv
  · rfl
  · rfl
  · rfl
  · rfl
  · rfl
  · exact by8_one _ v hv
  · exact by8_one _ v hv
theorem Mg.oneA (m : Mg) : m.arr.all (·.oneCell') = true := all_oneCell_toArray m.one
theorem size27M : (Try.prog.info? 95).map (·.size) = some 69 := by kernel_rfl
theorem size41 : (Try.prog.info? 131).map (·.size) = some 13 := by kernel_rfl
theorem s27 {m : Mg} (h : MgOK m) : (Try.prog.info? 95).map (·.size) = some m.arr.size := by rw [Mg.size h]; exact size27M
/-- A message in its block. -/
theorem Arr.mg {w : World} {g ty : Nat} {m : Mg} (h : Arr w g ty m.arr) : w.rangeAt g 0 m.cells := fun j v hv => by
  rw [Nat.zero_add, h.cell]; simpa [Mg.arr] using hv
theorem mg_c0 {w : World} {g ty : Nat} {m : Mg} (h : Arr w g ty m.arr) : w.cell? ⟨g, 0, none⟩ = some (.int .u8 m.kd) := h.cell 0
theorem mg_c1 {w : World} {g ty : Nat} {m : Mg} (h : Arr w g ty m.arr) : w.cell? ⟨g, 1, none⟩ = some (.int .u64 m.fr) := h.cell 1
theorem mg_c2 {w : World} {g ty : Nat} {m : Mg} (h : Arr w g ty m.arr) : w.cell? ⟨g, 2, none⟩ = some (.int .u64 m.tw) := h.cell 2
theorem mg_c3 {w : World} {g ty : Nat} {m : Mg} (h : Arr w g ty m.arr) : w.cell? ⟨g, 3, none⟩ = some (.int .u64 m.am) := h.cell 3
theorem mg_c4 {w : World} {g ty : Nat} {m : Mg} (h : Arr w g ty m.arr) : w.cell? ⟨g, 4, none⟩ = some (.int .u64 m.no) := h.cell 4
theorem mg_ky {w : World} {g ty : Nat} {m : Mg} (h : Arr w g ty m.arr) : w.rangeAt g 5 (by8 m.ky) := fun j v hv => by
  have hj := (List.getElem?_eq_some_iff.1 hv).1
  rw [Nat.add_comm 5 j, h.cell]
  simp only [Mg.arr, Mg.cells, List.getElem?_toArray, List.getElem?_cons_succ]
  rw [List.getElem?_append_left hj]; exact hv
theorem mg_nx {w : World} {g ty : Nat} {m : Mg} (h : Arr w g ty m.arr) (hk : m.ky.length = 32) : w.rangeAt g 37 (by8 m.nx) := fun j v hv => by
  rw [h.cell]
  have e : 37 + j = (32 + j) + 1 + 1 + 1 + 1 + 1 := by omega
  rw [e]
  simp only [Mg.arr, Mg.cells, List.getElem?_toArray, List.getElem?_cons_succ]
  rw [List.getElem?_append_right (by rw [by8_len, hk]; omega), by8_len, hk, show 32 + j - 32 = j by omega]; exact hv
/-- The loads and stores. -/
theorem ld27M {ops : Array Oper} {rest : List Oper} {o : Oper} {a : Act} {w : World} {Q : Exit → Act → World → Prop} (hgd : Region.wanted o (yielded ops a.tmps) = true) (x : Operand) (ho : o.op = .load 95 x)
    (g ty : Nat) (hx : a.eval x = .pointer (some ⟨g, 0, none⟩)) (m : Mg) (hm : MgOK m) (hA : Arr w g ty m.arr)
    (h : wpList Try.prog ops Q rest (a.put o.dst (.agg m.arr)) w) : wpList Try.prog ops Q (o :: rest) a w :=
  wpList_want hgd fun _ hK => wp_load_mid 95 x ho g 0 hx m.cells _ hA.mg Try.underlying95 rfl (by rw [Mg.len hm]; exact size27M) (hK _ _ h)
theorem y27 {ops : Array Oper} {S : World → Prop} {op : Oper} {a : Act} (hw : Region.wanted op (yielded ops a.tmps) = true) (x : Operand) (ho : op.op = .load 95 x)
    (g ty : Nat) (hx : a.eval x = .pointer (some ⟨g, 0, none⟩)) (m : Mg) (hm : MgOK m) (hS : ∀ w, S w → Arr w g ty m.arr) : YieldsIf Try.prog ops S op (.agg m.arr) a :=
  yieldsIf_load_mid hw 95 x ho g 0 hx m.cells _ (fun w h => (hS w h).mg) Try.underlying95 rfl (by rw [Mg.len hm]; exact size27M)
theorem ld25 {ops : Array Oper} {rest : List Oper} {o : Oper} {a : Act} {w : World} {Q : Exit → Act → World → Prop} (hgd : Region.wanted o (yielded ops a.tmps) = true) (x : Operand) (ho : o.op = .load 24 x)
    (g off : Nat) (hx : a.eval x = .pointer (some ⟨g, off, none⟩)) (X : List Int) (hX : X.length = 32) (hc : w.rangeAt g off (by8 X))
    (h : wpList Try.prog ops Q rest (a.put o.dst (.agg (h8 X))) w) : wpList Try.prog ops Q (o :: rest) a w :=
  wpList_want hgd fun _ hK => wp_load_mid 24 x ho g off hx (by8 X) _ hc Try.underlying24 rfl (by rw [by8_len, hX]; exact size24) (hK _ _ h)
theorem y25 {ops : Array Oper} {S : World → Prop} {op : Oper} {a : Act} (hw : Region.wanted op (yielded ops a.tmps) = true) (x : Operand) (ho : op.op = .load 24 x)
    (g off : Nat) (hx : a.eval x = .pointer (some ⟨g, off, none⟩)) (X : List Int) (hX : X.length = 32) (hS : ∀ w, S w → w.rangeAt g off (by8 X)) : YieldsIf Try.prog ops S op (.agg (h8 X)) a :=
  yieldsIf_load_mid hw 24 x ho g off hx (by8 X) _ hS Try.underlying24 rfl (by rw [by8_len, hX]; exact size24)
theorem st27 {ops : Array Oper} {rest : List Oper} {o : Oper} {a : Act} {w : World} {Q : Exit → Act → World → Prop} (hgd : o.guard = none) (x y : Operand) (ho : o.op = .store 95 x y)
    (g : Nat) (m : Mg) {Z : Array Value} (hx : a.eval x = .pointer (some ⟨g, 0, none⟩)) (hy : a.eval y = .agg m.arr) (hm : MgOK m) (hZ : Z.size = 69) (hg : Arr w g 95 Z)
    (h : wpList Try.prog ops Q rest (a.put o.dst undef) (w.setRow g m.arr)) : wpList Try.prog ops Q (o :: rest) a w :=
  wpList_store_arr hgd 95 x y ho g m.arr hx hy 95 _ hg (s27 hm) (by rw [hZ, Mg.size hm]) m.oneA h
theorem st27n {ops : Array Oper} {rest : List Oper} {o : Oper} {a : Act} {Q : Exit → Act → World → Prop} (hgd : o.guard = none) (x y : Operand) (ho : o.op = .store 95 x y) (W : World) (g : Nat) (hgW : W.heap.size = g) {z : Array Value} (hz : z.size = 69)
    (m : Mg) (hx : a.eval x = .pointer (some ⟨g, 0, none⟩)) (hy : a.eval y = .agg m.arr) (hm : MgOK m)
    (h : wpList Try.prog ops Q rest (a.put o.dst undef) (W.alloc (.cells m.arr 95))) : wpList Try.prog ops Q (o :: rest) a (W.alloc (.cells z 95)) := by
  subst hgW
  exact wpList_store_new W z 95 hgd 95 x y ho m.arr hx hy (s27 hm) (by rw [hz, Mg.size hm]) m.oneA h
theorem res27 {f : Func} {w : World} {tmps : Array Value} {g t : Nat} {m : Mg} (hf : f.results = #[.cell t 95]) (hp : tmps.getD t undef = .pointer (some ⟨g, 0, none⟩)) (hm : MgOK m) (hA : Arr w g 95 m.arr) :
    (results f tmps).run Try.prog w = .ok (.agg m.arr) w := results_cell_row hf _ _ g 95 _ (0, 0) _ hp hA Try.underlying95 rfl (s27 hm)
theorem resM {f : Func} {w : World} {tmps : Array Value} {g t k : Nat} {m : Mg} {v : Value} (hf : f.results = #[.cell t 95, .tmp k]) (hp : tmps.getD t undef = .pointer (some ⟨g, 0, none⟩)) (hk : tmps.getD k undef = v) (hm : MgOK m) (hA : Arr w g 95 m.arr) :
    (results f tmps).run Try.prog w = .ok (.tuple #[.agg m.arr, v]) w := by
  have hl := run_loadVar_mid (P := Try.prog) w g 0 95 m.cells _ hA.mg Try.underlying95 rfl (by rw [Mg.len hm]; exact size27M)
  have hp' : tmps[t]?.getD undef = .pointer (some ⟨g, 0, none⟩) := by simpa using hp
  have hk' : tmps[k]?.getD undef = v := by simpa using hk
  simp [results, hf, hp', hk', asAddr, hl, Mg.arr]
/-- Nothing but block g is turned. -/
structure Only (g : Nat) (w w' : World) : Prop where
  bel : Below g w w'
  oth : ∀ k, k ≠ g → w'.heap[k]? = w.heap[k]?
theorem Only.arr {g h ty : Nat} {w w' : World} {C : Array Value} (ho : Only g w w') (hA : Arr w h ty C) (hk : h ≠ g) : Arr w' h ty C := by
  unfold Arr at hA ⊢; rw [ho.oth h hk]; exact hA
def setA (C : Array Value) : Nat → List Value → Array Value
  | _, [] => C
  | o, v :: r => setA (C.setIfInBounds o v) (o + 1) r
theorem arr_setCells {g ty : Nat} : ∀ (vs : List Value) (o : Nat) (w : World) (C : Array Value), Arr w g ty C → Arr (w.setCells g o vs) g ty (setA C o vs) ∧ Only g w (w.setCells g o vs)
  | [], o, w, C, h => ⟨h, Below.refl _ _, fun _ _ => rfl⟩
  | v :: r, o, w, C, h => by
    have hs := h.set o v
    obtain ⟨h1, h2⟩ := arr_setCells r (o + 1) _ _ hs
    refine ⟨h1, ?_, fun k hk => ?_⟩
    · exact (show Below g w (w.setCell ⟨g, o, none⟩ v) from (Below.refl g w).setCell (show g ≤ (⟨g, o, none⟩ : Addr).block from Nat.le_refl g) v).trans h2.bel
    · exact (h2.oth k hk).trans (Below.heap_setCell _ _ _ _ hk)
theorem setA_mid : ∀ (B B' : List Value) (A C : List Value), B.length = B'.length → setA (A ++ B ++ C).toArray A.length B' = (A ++ B' ++ C).toArray
  | [], [], A, C, _ => rfl
  | b :: B, b' :: B', A, C, h => by
    simp only [setA]
    have e : ((A ++ b :: B ++ C).toArray.setIfInBounds A.length b') = (A ++ [b'] ++ B ++ C).toArray := by simp
    rw [e]
    have := setA_mid B B' (A ++ [b']) C (by simpa using h)
    simp only [List.length_append, List.length_cons, List.length_nil] at this
    rw [show A.length + 1 = A.length + (0 + 1) by omega, this]
    simp
  | [], _ :: _, _, _, h => by simp at h
  | _ :: _, [], _, _, h => by simp at h
theorem arr_there {w : World} {g ty o n : Nat} {C : Array Value} (h : Arr w g ty C) (hn : o + n ≤ C.size) : w.there g o n := fun j hj => by
  refine ⟨?_, h.frozen _⟩
  rw [h.cell, Array.getElem?_eq_getElem (by omega)]; rfl
theorem stKy {ops : Array Oper} {rest : List Oper} {o : Oper} {a : Act} {w : World} {Q : Exit → Act → World → Prop} (hgd : o.guard = none) (x y : Operand) (ho : o.op = .store 24 x y)
    (g : Nat) (m : Mg) (X : List Int) (hx : a.eval x = .pointer (some ⟨g, 5, none⟩)) (hy : a.eval y = .agg (h8 X)) (hm : MgOK m) (hX : X.length = 32) (hA : Arr w g 95 m.arr)
    (h : ∀ w', Arr w' g 95 ({ m with ky := X } : Mg).arr → Only g w w' → wpList Try.prog ops Q rest (a.put o.dst undef) w') : wpList Try.prog ops Q (o :: rest) a w := by
  obtain ⟨h1, h2⟩ := arr_setCells (by8 X) 5 w _ hA
  refine wpList_store_mid hgd 24 x y ho g 5 (h8 X) hx hy (arr_there hA (by rw [Mg.size hm, h8_size, hX]; omega)) (s24h8 hX) (h8_one X) (h _ ?_ h2)
  have e := setA_mid (by8 m.ky) (by8 X) [.int .u8 m.kd, .int .u64 m.fr, .int .u64 m.tw, .int .u64 m.am, .int .u64 m.no] (by8 m.nx) (by rw [by8_len, by8_len, hm.kl, hX])
  have e2 : setA m.arr 5 (by8 X) = ({ m with ky := X } : Mg).arr := by
    have q : m.arr = ([.int .u8 m.kd, .int .u64 m.fr, .int .u64 m.tw, .int .u64 m.am, .int .u64 m.no] ++ by8 m.ky ++ by8 m.nx : List Value).toArray := by simp [Mg.arr, Mg.cells]
    rw [q]
    refine Eq.trans e ?_
    simp [Mg.arr, Mg.cells]
  rw [e2] at h1
  exact h1
theorem stNx {ops : Array Oper} {rest : List Oper} {o : Oper} {a : Act} {w : World} {Q : Exit → Act → World → Prop} (hgd : o.guard = none) (x y : Operand) (ho : o.op = .store 24 x y)
    (g : Nat) (m : Mg) (X : List Int) (hx : a.eval x = .pointer (some ⟨g, 37, none⟩)) (hy : a.eval y = .agg (h8 X)) (hm : MgOK m) (hX : X.length = 32) (hA : Arr w g 95 m.arr)
    (h : ∀ w', Arr w' g 95 ({ m with nx := X } : Mg).arr → Only g w w' → wpList Try.prog ops Q rest (a.put o.dst undef) w') : wpList Try.prog ops Q (o :: rest) a w := by
  obtain ⟨h1, h2⟩ := arr_setCells (by8 X) 37 w _ hA
  refine wpList_store_mid hgd 24 x y ho g 37 (h8 X) hx hy (arr_there hA (by rw [Mg.size hm, h8_size, hX]; omega)) (s24h8 hX) (h8_one X) (h _ ?_ h2)
  have e := setA_mid (by8 m.nx) (by8 X) ([.int .u8 m.kd, .int .u64 m.fr, .int .u64 m.tw, .int .u64 m.am, .int .u64 m.no] ++ by8 m.ky) [] (by rw [by8_len, by8_len, hm.nl, hX])
  have e2 : setA m.arr 37 (by8 X) = ({ m with nx := X } : Mg).arr := by
    have q : m.arr = (([.int .u8 m.kd, .int .u64 m.fr, .int .u64 m.tw, .int .u64 m.am, .int .u64 m.no] ++ by8 m.ky) ++ by8 m.nx ++ [] : List Value).toArray := by simp [Mg.arr, Mg.cells]
    have l : ([.int .u8 m.kd, .int .u64 m.fr, .int .u64 m.tw, .int .u64 m.am, .int .u64 m.no] ++ by8 m.ky : List Value).length = 37 := by simp [by8_len, hm.kl]
    rw [l] at e
    rw [q]
    refine Eq.trans e ?_
    simp [Mg.arr, Mg.cells]
  rw [e2] at h1
  exact h1
/-- Like messages. -/
theorem fields27 : (Try.prog.fieldsOf 95).toList.map (fun f => (f.name != "_", f.type, f.offset)) = [(true, 93, 0), (true, 22, 1), (true, 22, 2), (true, 22, 3), (true, 22, 4), (true, 24, 5), (true, 24, 37)] := by kernel_rfl
theorem isAggK (w : World) : (isAgg 93).run Try.prog w = .ok false w := by
  unfold isAgg
  rw [Sem.run_bind, run_underlying Try.underlying93 w]
  rfl
theorem partK {C : Array Value} {k : Nat} {v : Value} (h : C[k]? = some v) (w : World) : (part 93 C k).run Try.prog w = .ok v w := by
  simp only [part, Sem.run_bind, isAggK, Result.andThen_ok, h]
  rfl
theorem ky_part {m : Mg} (h : MgOK m) : m.arr.extract 5 (5 + 32) = h8 m.ky := by
  have hl := by8_len m.ky
  have hk := h.kl
  apply Array.ext'
  unfold Mg.arr h8 Mg.cells
  simp
  rw [List.take_append_of_le_length (by omega)]
  exact List.take_of_length_le (by omega)
theorem nx_part {m : Mg} (h : MgOK m) : m.arr.extract 37 (37 + 32) = h8 m.nx := by
  have hl := by8_len m.nx
  have hk := h.nl
  have hl' := by8_len m.ky
  have hk' := h.kl
  apply Array.ext'
  unfold Mg.arr h8 Mg.cells
  simp
  rw [List.drop_append_of_le_length (by omega), List.drop_eq_nil_of_le (by omega), List.nil_append]
  exact List.take_of_length_le (by omega)
theorem partKy {m : Mg} (h : MgOK m) (w : World) : (part 24 m.arr 5).run Try.prog w = .ok (.agg (h8 m.ky)) w := by
  simp only [part, Sem.run_bind, isAgg24', Result.andThen_ok, if_true, run_sz size24, Sem.run_pure, ky_part h]
theorem partNx {m : Mg} (h : MgOK m) (w : World) : (part 24 m.arr 37).run Try.prog w = .ok (.agg (h8 m.nx)) w := by
  simp only [part, Sem.run_bind, isAgg24', Result.andThen_ok, if_true, run_sz size24, Sem.run_pure, nx_part h]
theorem run_eqIn27M {a b : Mg} (d : Nat) (ha : MgOK a) (hb : MgOK b) (w : World) : (Op.equalIn (d + 5) 95 (.agg a.arr) (.agg b.arr)).run Try.prog w = .ok (decide (a = b)) w := by
  rw [run_equalIn_struct w (d + 4) 95 _ _ (by kernel_rfl) (by kernel_rfl)]
  have hf := fields27
  generalize (Try.prog.fieldsOf 95).toList = fs at hf
  have hl7 : fs.length = 7 := by simpa using congrArg List.length hf
  match fs, hl7 with
  | [f0, f1, f2, f3, f4, f5, f6], _ =>
  simp only [List.map_cons, List.map_nil, List.cons.injEq, Prod.mk.injEq, and_true, bne_iff_ne, ne_eq, and_assoc] at hf
  obtain ⟨n0, t0, o0, n1, t1, o1, n2, t2, o2, n3, t3, o3, n4, t4, o4, n5, t5, o5, n6, t6, o6⟩ := hf
  have hd : decide (a = b) = ((a.kd == b.kd) && ((a.fr == b.fr) && ((a.tw == b.tw) && ((a.am == b.am) && ((a.no == b.no) && (decide (a.ky = b.ky) && decide (a.nx = b.nx))))))) := by
    rw [Bool.eq_iff_iff]
    simp only [decide_eq_true_eq, Bool.and_eq_true, beq_iff_eq]
    constructor
    · rintro rfl; exact ⟨rfl, rfl, rfl, rfl, rfl, rfl, rfl⟩
    · intro ⟨h1, h2, h3, h4, h5, h6, h7⟩; cases a; cases b; simp_all
  rw [hd]
  have c0 : ∀ m : Mg, m.arr[0]? = some (.int .u8 m.kd) := fun m => rfl
  have c1 : ∀ m : Mg, m.arr[1]? = some (.int .u64 m.fr) := fun m => rfl
  have c2 : ∀ m : Mg, m.arr[2]? = some (.int .u64 m.tw) := fun m => rfl
  have c3 : ∀ m : Mg, m.arr[3]? = some (.int .u64 m.am) := fun m => rfl
  have c4 : ∀ m : Mg, m.arr[4]? = some (.int .u64 m.no) := fun m => rfl
  have e := eqf_step (d := d + 4) (f := f0) n0 (by rw [t0, o0]; exact partK (c0 a) w) (by rw [t0, o0]; exact partK (c0 b) w) (by rw [t0]; exact run_equalIn_int w (d + 3) 93 .u8 .u8 _ _ Try.underlying93)
    (eqf_step (f := f1) n1 (by rw [t1, o1]; exact part22 (c1 a) w) (by rw [t1, o1]; exact part22 (c1 b) w) (by rw [t1]; exact run_equalIn_int w (d + 3) 22 .u64 .u64 _ _ Try.underlying22)
    (eqf_step (f := f2) n2 (by rw [t2, o2]; exact part22 (c2 a) w) (by rw [t2, o2]; exact part22 (c2 b) w) (by rw [t2]; exact run_equalIn_int w (d + 3) 22 .u64 .u64 _ _ Try.underlying22)
    (eqf_step (f := f3) n3 (by rw [t3, o3]; exact part22 (c3 a) w) (by rw [t3, o3]; exact part22 (c3 b) w) (by rw [t3]; exact run_equalIn_int w (d + 3) 22 .u64 .u64 _ _ Try.underlying22)
    (eqf_step (f := f4) n4 (by rw [t4, o4]; exact part22 (c4 a) w) (by rw [t4, o4]; exact part22 (c4 b) w) (by rw [t4]; exact run_equalIn_int w (d + 3) 22 .u64 .u64 _ _ Try.underlying22)
    (eqf_step (f := f5) n5 (by rw [t5, o5]; exact partKy ha w) (by rw [t5, o5]; exact partKy hb w) (by rw [t5]; exact run_eqInD24 (d + 1) ha.kl hb.kl w)
    (eqf_step (f := f6) n6 (by rw [t6, o6]; exact partNx ha w) (by rw [t6, o6]; exact partNx hb w) (by rw [t6]; exact run_eqInD24 (d + 1) ha.nl hb.nl w) eqf_nil))))))
  rw [e, Bool.and_true]
theorem run_eq27M {a b : Mg} (ha : MgOK a) (hb : MgOK b) (w : World) : (binOp .eql 95 (.agg a.arr) (.agg b.arr)).run Try.prog w = .ok (.bool (decide (a = b))) w := by
  rw [run_eql_struct, run_eqIn27M 9995 ha hb]; rfl
theorem zero27 : (Try.prog.info? 95).map (·.zero) = some (some (.agg mg0.arr)) := by kernel_rfl
theorem zv27 (w : World) : (zeroValue 95).run Try.prog w = .ok (.agg mg0.arr) w := by
  have h := zero27
  cases hq : Try.prog.info? 95 with
  | none => rw [hq] at h; cases h
  | some i =>
    rw [hq] at h
    have hz : i.zero = some (.agg mg0.arr) := by simpa using h
    simp [zeroValue, typeInfo, hq, hz]
theorem wp_bdT {o : Oper} {a : Act} {w : World} {K : Act → World → Prop} {Q : Exit → Act → World → Prop} (t : TypeId) (parts : Array (Nat × Operand)) (ho : o.op = .build t parts) {ps : List (Nat × Value)} (hp : parts.toList.map (fun p => (p.1, a.eval p.2)) = ps) {C : Array Value} (hb : Try.prog.built t ps = some C)
    (h : K (a.put o.dst (.agg C)) w) : o.wp Try.prog a w K Q := by
  have e : (parts.map fun (i, x) => (i, a.eval x)).toList = ps := by rw [Array.toList_map]; exact hp
  refine wp_build t parts ho (by rw [e, hb]; rfl) ?_
  rw [e, hb]; exact h
theorem bdT {ops : Array Oper} {rest : List Oper} {o : Oper} {a : Act} {w : World} {Q : Exit → Act → World → Prop} (hg : Region.wanted o (yielded ops a.tmps) = true) (t : TypeId) (parts : Array (Nat × Operand)) (ho : o.op = .build t parts) {ps : List (Nat × Value)} (hp : parts.toList.map (fun p => (p.1, a.eval p.2)) = ps) {C : Array Value} (hb : Try.prog.built t ps = some C)
    (h : wpList Try.prog ops Q rest (a.put o.dst (.agg C)) w) : wpList Try.prog ops Q (o :: rest) a w :=
  wpList_want hg fun _ hK => wp_bdT t parts ho hp hb (hK _ _ h)
theorem list32 {P : List Int → Prop} (h : ∀ x0 x1 x2 x3 x4 x5 x6 x7 x8 x9 x10 x11 x12 x13 x14 x15 x16 x17 x18 x19 x20 x21 x22 x23 x24 x25 x26 x27 x28 x29 x30 x31 : Int, P [x0, x1, x2, x3, x4, x5, x6, x7, x8, x9, x10, x11, x12, x13, x14, x15, x16, x17, x18, x19, x20, x21, x22, x23, x24, x25, x26, x27, x28, x29, x30, x31]) (X : List Int) (hX : X.length = 32) : P X := by
  match X, hX with
  | [x0, x1, x2, x3, x4, x5, x6, x7, x8, x9, x10, x11, x12, x13, x14, x15, x16, x17, x18, x19, x20, x21, x22, x23, x24, x25, x26, x27, x28, x29, x30, x31], _ => exact h x0 x1 x2 x3 x4 x5 x6 x7 x8 x9 x10 x11 x12 x13 x14 x15 x16 x17 x18 x19 x20 x21 x22 x23 x24 x25 x26 x27 x28 x29 x30 x31
theorem built27z : Try.prog.built 95 [] = some mg0.arr := by kernel_rfl
theorem built27 (k f t a n : Int) (X Y : List Int) (hX : X.length = 32) (hY : Y.length = 32) : Try.prog.built 95 [(0, .int .u8 k), (1, .int .u64 f), (2, .int .u64 t), (3, .int .u64 a), (4, .int .u64 n), (5, .agg (h8 X)), (6, .agg (h8 Y))] = some (Mg.arr ⟨k, f, t, a, n, X, Y⟩) :=
  list32 (P := fun X => Try.prog.built 95 [(0, .int .u8 k), (1, .int .u64 f), (2, .int .u64 t), (3, .int .u64 a), (4, .int .u64 n), (5, .agg (h8 X)), (6, .agg (h8 Y))] = some (Mg.arr ⟨k, f, t, a, n, X, Y⟩)) (fun x0 x1 x2 x3 x4 x5 x6 x7 x8 x9 x10 x11 x12 x13 x14 x15 x16 x17 x18 x19 x20 x21 x22 x23 x24 x25 x26 x27 x28 x29 x30 x31 =>
    list32 (P := fun Y => Try.prog.built 95 [(0, .int .u8 k), (1, .int .u64 f), (2, .int .u64 t), (3, .int .u64 a), (4, .int .u64 n), (5, .agg (h8 [x0, x1, x2, x3, x4, x5, x6, x7, x8, x9, x10, x11, x12, x13, x14, x15, x16, x17, x18, x19, x20, x21, x22, x23, x24, x25, x26, x27, x28, x29, x30, x31])), (6, .agg (h8 Y))] = some (Mg.arr ⟨k, f, t, a, n, [x0, x1, x2, x3, x4, x5, x6, x7, x8, x9, x10, x11, x12, x13, x14, x15, x16, x17, x18, x19, x20, x21, x22, x23, x24, x25, x26, x27, x28, x29, x30, x31], Y⟩))
      (fun y0 y1 y2 y3 y4 y5 y6 y7 y8 y9 y10 y11 y12 y13 y14 y15 y16 y17 y18 y19 y20 y21 y22 y23 y24 y25 y26 y27 y28 y29 y30 y31 => by kernel_rfl) Y hY) X hX
theorem built54 (a b c d : Int) : Try.prog.built 135 [(0, .int .u64 a), (1, .int .u64 b), (2, .int .u64 c), (3, .int .u64 d)] = some #[.int .u64 a, .int .u64 b, .int .u64 c, .int .u64 d] := by kernel_rfl
theorem atB {P : Program} {ops : Array Oper} {rest : List Oper} {a : Act} {w : World} {Q : Exit → Act → World → Prop} (t : TypeId) {d} {ps} {ty} {pos} {af} {g} (h : wpList P ops Q (⟨d, .build t ps, ty, pos, af, g⟩ :: rest) a w) : wpList P ops Q (⟨d, .build t ps, ty, pos, af, g⟩ :: rest) a w := h
end Go.Proofs.Ytbhhbkoikocjgaa
/- Layer spec: what the layers below give. -/
namespace Go.Proofs.Ytbhhbkoikocjgaa
set_option linter.unusedSectionVars false
set_option maxHeartbeats 1000000
open Go.RowKit
set_option maxRecDepth 100000
set_option linter.unusedVariables false
set_option linter.unusedSimpArgs false

variable [DecidableEq Ac] [DecidableEq Ou] [DecidableEq Mg]
/-- A witness, its path in blocks below N. -/
structure WT (N : Nat) (w : World) (sp : Option Addr) (n cap : Nat) (ls : List (List Int)) (o : List Int) (c : Int) : Prop where
  path : HS N w sp n cap ls
  o32 : o.length = 32
  c0 : 0 ≤ c
  c1 : c < 18446744073709551616
theorem WT.below {N : Nat} {w w' : World} {sp : Option Addr} {n cap : Nat} {ls : List (List Int)} {o : List Int} {c : Int} (h : WT N w sp n cap ls o c) (hb : Below N w w') : WT N w' sp n cap ls o c := ⟨h.path.below hb, h.o32, h.c0, h.c1⟩
theorem WT.here {N : Nat} {w : World} {sp : Option Addr} {n cap : Nat} {ls : List (List Int)} {o : List Int} {c : Int} (h : WT N w sp n cap ls o c) : WT w.heap.size w sp n cap ls o c := ⟨h.path.here, h.o32, h.c0, h.c1⟩
theorem WT.mono {N N' : Nat} {w : World} {sp : Option Addr} {n cap : Nat} {ls : List (List Int)} {o : List Int} {c : Int} (h : WT N w sp n cap ls o c) (hN : N ≤ N') : WT N' w sp n cap ls o c := ⟨h.path.mono hN, h.o32, h.c0, h.c1⟩
end Go.Proofs.Ytbhhbkoikocjgaa
/- Layer spec: what the layers below give. -/
namespace Go.Proofs.Ytbhhbkoikocjgaa
set_option linter.unusedSectionVars false
set_option maxHeartbeats 1000000
open Go.RowKit
set_option maxRecDepth 100000
set_option linter.unusedVariables false
set_option linter.unusedSimpArgs false

variable [DecidableEq Ac] [DecidableEq Ou] [DecidableEq Mg]
/-- Is it this operation? -/
theorem atA {P : Program} {ops : Array Oper} {rest : List Oper} {a : Act} {w : World} {Q : Exit → Act → World → Prop} (x y : Operand) {t u : TypeId} {d} {ty} {pos} {af} {g} (h : wpList P ops Q (⟨d, .call { callee := .builtin .append, args := #[x, y], argTypes := #[t, u] }, ty, pos, af, g⟩ :: rest) a w) : wpList P ops Q (⟨d, .call { callee := .builtin .append, args := #[x, y], argTypes := #[t, u] }, ty, pos, af, g⟩ :: rest) a w := h
theorem atL {P : Program} {ops : Array Oper} {rest : List Oper} {a : Act} {w : World} {Q : Exit → Act → World → Prop} (t : TypeId) (x : Operand) {d} {ty} {pos} {af} {g} (h : wpList P ops Q (⟨d, .load t x, ty, pos, af, g⟩ :: rest) a w) : wpList P ops Q (⟨d, .load t x, ty, pos, af, g⟩ :: rest) a w := h
theorem atS {P : Program} {ops : Array Oper} {rest : List Oper} {a : Act} {w : World} {Q : Exit → Act → World → Prop} (t : TypeId) (x y : Operand) {d} {ty} {pos} {af} {g} (h : wpList P ops Q (⟨d, .store t x y, ty, pos, af, g⟩ :: rest) a w) : wpList P ops Q (⟨d, .store t x y, ty, pos, af, g⟩ :: rest) a w := h
end Go.Proofs.Ytbhhbkoikocjgaa
