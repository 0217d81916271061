/- JsO, S13. -/
import Derived.Test.YtimmiidkjpbffaaX41
import Derived.Test.YtimmiidkjpbffaaX01
import Derived.Test.YtimmiidkjpbffaaX02
import Derived.Test.YtimmiidkjpbffaaX49
import Derived.Test.YtimmiidkjpbffaaX03
import Derived.Test.YtimmiidkjpbffaaX20
import Derived.Test.YtimmiidkjpbffaaX21
import Derived.Test.YtimmiidkjpbffaaX28
import Derived.BigQuiet
import Derived.BigRegion
import Derived.ChangeKeysEq
import Derived.ChangeOld
import Derived.Deep.DeepCutAuto
import Derived.Deep.DrawnRows
import Derived.Deep.MidRow
import Derived.Deep.OwnRows
import Derived.Deep.QuietTactic
import Derived.Deep.RegionHeld
import Derived.Deep.RegionHeld3
import Derived.Deep.RegionLaw
import Derived.Deep.RegionWith
import Derived.Deep.WholeRow
import Derived.DeepKeys3
import Derived.Great.BuildSlice
import Derived.Great.FillDense
import Derived.Handy
import Derived.KernelRfl
import Derived.Laws.AppendOwn
import Derived.Laws.AppendOwnNone
import Derived.Laws.BitsLemmas
import Derived.Laws.BytesArg
import Derived.Laws.CopyOwn
import Derived.Laws.CopyRow
import Derived.Laws.DeepBits32
import Derived.Laws.MakeOwn
import Derived.Laws.OwnMore
import Derived.Laws.ResultCell
import Derived.Laws.Rows
import Derived.Laws.Tables
import Derived.Lib.AppendZeros
import Derived.Lib.SlBytesConst
import Derived.LoopIn
import Derived.LoopNIn
import Derived.LoopTactic
import Derived.Maps.AppendAt
import Derived.OpenShut
import Derived.OwnWalk
import Derived.OwnWalkIn
import Derived.ProofKit
import Derived.RangeFuncBound
import Derived.RangeFuncCalls
import Derived.RangeFuncLeaves
import Derived.RangeFuncNested
import Derived.RangeFuncRecord
import Derived.Recover
import Derived.Shelf.Abstract
import Derived.Shelf.RegionOpen
import Derived.ShutString
import Derived.SizedLaws
import Derived.TacticsInMore
import Derived.WalkKit
import Derived.WalkLawsBesides
import Derived.WalkSpells
import Derived.WideShapes
/- Layer compile: what the layers below give. -/
namespace Go.Proofs.Ytimmiidkjpbffaa
open Go.RowKit
set_option maxRecDepth 100000
set_option linter.unusedVariables false
set_option linter.unusedSimpArgs false

theorem u8I {z : Int} (h : (Lit.int .u8 z).wf = true) : U8 z := by
  have h1 : IntKind.u8.min = 0 := rfl
  have h2 : IntKind.u8.max = 255 := rfl
  simp only [Lit.wf, Bool.and_eq_true, decide_eq_true_eq] at h
  unfold U8
  omega
theorem i64I {z : Int} (h : (Lit.int .i64 z).wf = true) : I64 z := by
  have h1 : IntKind.i64.min = -9223372036854775808 := rfl
  have h2 : IntKind.i64.max = 9223372036854775807 := rfl
  simp only [Lit.wf, Bool.and_eq_true, decide_eq_true_eq] at h
  unfold I64
  omega
theorem k30 : Try.prog.cellsOf 25 = 1 := by kernel_rfl
theorem k43 : Try.prog.cellsOf 89 = 1 := by kernel_rfl
theorem k72 : Try.prog.cellsOf 87 = 1 := by kernel_rfl
theorem k73 : Try.prog.cellsOf 88 = 1 := by kernel_rfl
theorem k74 : Try.prog.cellsOf 90 = 1 := by kernel_rfl
theorem k50 : Try.prog.cellsOf 83 = 1 := by kernel_rfl
theorem k22 : Try.prog.cellsOf 22 = 1 := by kernel_rfl
theorem k45f : Try.prog.cellsOf 45 = 1 := by kernel_rfl
theorem u64I {z : Int} (h : (Lit.int .u64 z).wf = true) : U64 z := by
  have h1 : IntKind.u64.min = 0 := rfl
  have h2 : IntKind.u64.max = 18446744073709551615 := rfl
  simp only [Lit.wf, Bool.and_eq_true, decide_eq_true_eq] at h
  unfold U64
  omega
theorem k76 : Try.prog.cellsOf 92 = 5 := by kernel_rfl
theorem k78 : Try.prog.cellsOf 94 = 7 := by kernel_rfl
theorem k52 : Try.prog.cellsOf 85 = 3 := by kernel_rfl
theorem k24 : Try.prog.cellsOf 47 = 2 := by kernel_rfl
theorem y76 : Try.prog.bytesOf 92 = 56 := by kernel_rfl
theorem y78 : Try.prog.bytesOf 94 = 104 := by kernel_rfl
theorem y52 : Try.prog.bytesOf 85 = 40 := by kernel_rfl
section
variable {H : Type} {enc : TypeId × Value → H} {W : World} {base : Nat}
/-- A row of things that came in. -/
theorem rs_of_trod {α : Type} {sT eT : TypeId} {sz bb : Nat} (hu : Try.prog.underlying sT = some (.slice eT)) (hk : Try.prog.cellsOf eT = sz) (h1 : 0 < sz) (hy : Try.prog.bytesOf eT = bb) (h2 : 0 < bb) {R : List Value → α → Prop}
    (hR : ∀ (fuel : Nat) (cs : List Value) (x : DataW H × List MemPlace), DataW.trod enc Try.prog W base (fun _ => true) true fuel eT cs = some x → Small eT x.1 → ∃ a, R cs a)
    {fuel : Nat} {cs : List Value} {x : DataW H × List MemPlace} (h : DataW.trod enc Try.prog W base (fun _ => true) true fuel sT cs = some x) (hs : Small sT x.1) :
    ∃ sp n cap l, cs = [.slice sp n cap] ∧ RS W.heap.size W sz R sp n cap l := by
  rcases DataW.trod_slice hu h with ⟨rfl, -⟩ | ⟨a, len, cap, elems, rest, n, rfl, rfl, rfl, hb, hlc, hm, hlen, hel, hsp, -⟩
  · exact ⟨none, 0, 0, [], rfl, RS.nil0 _ _ _ _⟩
  · obtain ⟨hrl, -⟩ := hsp rfl
    have hr := hs ((elems.length + rest.length) * bb) (by simp [DataW.weights, hu, hy])
    simp only [reachBytes] at hr
    have hr2 : elems.length + rest.length ≤ (elems.length + rest.length) * bb := Nat.le_mul_of_pos_right _ h2
    have hw : ∀ e ∈ elems, Small eT e.1 := fun e he m hm => hs m (by
      simp only [DataW.weights, hu]
      exact List.mem_cons_of_mem _ (List.mem_append_left _ (weights_all (List.mem_map_of_mem he) m hm)))
    have hstep : ∀ i, i < len → ∃ g off cs, ∃ e : α, a.add (i * sz) = ⟨g, off, none⟩ ∧ W.rangeAt g off cs ∧ R cs e ∧ g < W.heap.size := fun i hi => by
      have h1' := hel i hi
      rw [hk, List.getElem?_eq_getElem (by omega), Option.bind_eq_some_iff] at h1'
      obtain ⟨cs, hcs, ht⟩ := h1'
      obtain ⟨g, off, e, hRg⟩ := cells_at h1 hcs
      obtain ⟨-, hl, -⟩ := World.cells?_some hcs
      obtain ⟨f, hf⟩ := hR n cs _ ht (hw _ (List.getElem_mem _))
      exact ⟨g, off, cs, f, e, hRg, hf, block_lt_of_cell (hRg 0 cs[0] (List.getElem?_eq_getElem (by omega)))⟩
    by_cases h0 : 0 < len
    · obtain ⟨g, off, -, -, e, -, -, hgl⟩ := hstep 0 h0
      have ha : a = ⟨g, off, none⟩ := by simpa [Addr.add] using e
      subst ha
      obtain ⟨l, hl, hP⟩ := exists_list (P := fun i (f : α) => ∃ cs, W.rangeAt g (off + i * sz) cs ∧ R cs f) len (fun i hi => by
        obtain ⟨g', off', cs, f, e', h1', ho, -⟩ := hstep i hi
        rw [Addr.add_mid] at e'
        cases e'
        exact ⟨f, cs, h1', ho⟩)
      exact ⟨some ⟨g, off, none⟩, len, cap, l, rfl, ⟨hid hl.symm, (fun e => by cases e), hlc, by unfold maxLen at hm; omega, by omega, fun _ => ⟨g, off, rfl, hgl, hP⟩⟩⟩
    · obtain rfl : len = 0 := by omega
      exact ⟨some a, 0, cap, [], rfl, ⟨rfl, (fun e => by cases e), by omega, by unfold maxLen at hm; omega, by omega, fun h => by omega⟩⟩
theorem ex_of_trod : ∀ (d fuel : Nat) (cs : List Value) (x : DataW H × List MemPlace), DataW.trod enc Try.prog W base (fun _ => true) true fuel 92 cs = some x → Small 92 x.1 → ∃ t : ExT d, ExM W.heap.size W d cs t := by
  intro d
  induction d with
  | zero =>
    intro fuel cs x h hs
    obtain ⟨xs, n, rfl, rfl, hl, hxl, hf⟩ := DataW.trod_struct Try.underlying92 h
    rw [k76] at hl
    simp at hxl
    match cs, hl with
    | [c0, c1, c2, c3, c4], _ =>
    match xs, hxl with
    | [x0, x1, x2, x3, x4], _ =>
    have f0 := hf 0 _ rfl
    have f1 := hf 1 _ rfl
    have f2 := hf 2 _ rfl
    have f3 := hf 3 _ rfl
    have f4 := hf 4 _ rfl
    simp [k73, k30, k3, k43, k74] at f0 f1 f2 f3 f4
    have s4 : Small 90 x4.1 := fun m hm => hs m (by simp [DataW.weights, Try.underlying92, DataW.weightsEach, hm])
    obtain ⟨z0, e0, -⟩ := DataW.trod_int Try.underlying88 f0
    obtain ⟨z1, e1, -⟩ := DataW.trod_int Try.underlying25 f1
    obtain ⟨z2, e2, -⟩ := DataW.trod_int Try.underlying3 f2
    obtain ⟨z3, e3, -⟩ := DataW.trod_int Try.underlying89 f3
    obtain ⟨sp, m, cap, l, e4, -⟩ := rs_of_trod (α := Unit) (R := fun _ _ => True) Try.underlying90 k76 (by omega) y76 (by omega) (fun _ _ _ _ _ => ⟨(), trivial⟩) f4 s4
    cases e0; cases e1; cases e2; cases e3; cases e4
    exact ⟨(), z0, z1, z2, z3, sp, m, cap, rfl⟩
  | succ d ih =>
    intro fuel cs x h hs
    obtain ⟨xs, n, rfl, rfl, hl, hxl, hf⟩ := DataW.trod_struct Try.underlying92 h
    rw [k76] at hl
    simp at hxl
    match cs, hl with
    | [c0, c1, c2, c3, c4], _ =>
    match xs, hxl with
    | [x0, x1, x2, x3, x4], _ =>
    have f0 := hf 0 _ rfl
    have f1 := hf 1 _ rfl
    have f2 := hf 2 _ rfl
    have f3 := hf 3 _ rfl
    have f4 := hf 4 _ rfl
    simp [k73, k30, k3, k43, k74] at f0 f1 f2 f3 f4
    have s4 : Small 90 x4.1 := fun m hm => hs m (by simp [DataW.weights, Try.underlying92, DataW.weightsEach, hm])
    obtain ⟨z0, e0, -, w0⟩ := DataW.trod_int Try.underlying88 f0
    obtain ⟨z1, e1, -, w1⟩ := DataW.trod_int Try.underlying25 f1
    obtain ⟨z2, e2, -, w2⟩ := DataW.trod_int Try.underlying3 f2
    obtain ⟨z3, e3, -, w3⟩ := DataW.trod_int Try.underlying89 f3
    obtain ⟨sp, m, cap, l, e4, hR⟩ := rs_of_trod (R := ExM W.heap.size W d) Try.underlying90 k76 (by omega) y76 (by omega) ih f4 s4
    cases e0; cases e1; cases e2; cases e3; cases e4
    exact ⟨(⟨z0, z1, z2, z3, l⟩ : ExN (ExT d)), sp, m, cap, rfl, ⟨u8I w0, u64I w1, i64I w2, u8I w3⟩, hR⟩
theorem st_of_trod : ∀ (d fuel : Nat) (cs : List Value) (x : DataW H × List MemPlace), DataW.trod enc Try.prog W base (fun _ => true) true fuel 94 cs = some x → Small 94 x.1 → ∃ t : StT d, StM W.heap.size W d cs t := by
  intro d
  induction d with
  | zero =>
    intro fuel cs x h hs
    obtain ⟨xs, n, rfl, rfl, hl, hxl, hf⟩ := DataW.trod_struct Try.underlying94 h
    rw [k78] at hl
    simp at hxl
    match cs, hl with
    | [c0, c1, c2, c3, c4, c5, c6], _ =>
    match xs, hxl with
    | [x0, x1, x2, x3, x4, x5, x6], _ =>
    have f0 := hf 0 _ rfl
    have f1 := hf 1 _ rfl
    have f2 := hf 2 _ rfl
    have f3 := hf 3 _ rfl
    have f4 := hf 4 _ rfl
    have f5 := hf 5 _ rfl
    have f6 := hf 6 _ rfl
    simp [k72, k3, k74, k50] at f0 f1 f2 f3 f4 f5 f6
    have s4 : Small 90 x4.1 := fun m hm => hs m (by simp [DataW.weights, Try.underlying94, DataW.weightsEach, hm])
    have s5 : Small 83 x5.1 := fun m hm => hs m (by simp [DataW.weights, Try.underlying94, DataW.weightsEach, hm])
    have s6 : Small 83 x6.1 := fun m hm => hs m (by simp [DataW.weights, Try.underlying94, DataW.weightsEach, hm])
    obtain ⟨z0, e0, -⟩ := DataW.trod_int Try.underlying87 f0
    obtain ⟨z1, e1, -⟩ := DataW.trod_int Try.underlying3 f1
    obtain ⟨z2, e2, -⟩ := DataW.trod_int Try.underlying3 f2
    obtain ⟨z3, e3, -⟩ := DataW.trod_int Try.underlying3 f3
    obtain ⟨sa, na, ca, la, e4, -⟩ := rs_of_trod (α := Unit) (R := fun _ _ => True) Try.underlying90 k76 (by omega) y76 (by omega) (fun _ _ _ _ _ => ⟨(), trivial⟩) f4 s4
    obtain ⟨sb, nb, cb, lb, e5, -⟩ := rs_of_trod (α := Unit) (R := fun _ _ => True) Try.underlying83 k78 (by omega) y78 (by omega) (fun _ _ _ _ _ => ⟨(), trivial⟩) f5 s5
    obtain ⟨sc, nc, cc, lc, e6, -⟩ := rs_of_trod (α := Unit) (R := fun _ _ => True) Try.underlying83 k78 (by omega) y78 (by omega) (fun _ _ _ _ _ => ⟨(), trivial⟩) f6 s6
    cases e0; cases e1; cases e2; cases e3; cases e4; cases e5; cases e6
    exact ⟨(), z0, z1, z2, z3, sa, na, ca, sb, nb, cb, sc, nc, cc, rfl⟩
  | succ d ih =>
    intro fuel cs x h hs
    obtain ⟨xs, n, rfl, rfl, hl, hxl, hf⟩ := DataW.trod_struct Try.underlying94 h
    rw [k78] at hl
    simp at hxl
    match cs, hl with
    | [c0, c1, c2, c3, c4, c5, c6], _ =>
    match xs, hxl with
    | [x0, x1, x2, x3, x4, x5, x6], _ =>
    have f0 := hf 0 _ rfl
    have f1 := hf 1 _ rfl
    have f2 := hf 2 _ rfl
    have f3 := hf 3 _ rfl
    have f4 := hf 4 _ rfl
    have f5 := hf 5 _ rfl
    have f6 := hf 6 _ rfl
    simp [k72, k3, k74, k50] at f0 f1 f2 f3 f4 f5 f6
    have s4 : Small 90 x4.1 := fun m hm => hs m (by simp [DataW.weights, Try.underlying94, DataW.weightsEach, hm])
    have s5 : Small 83 x5.1 := fun m hm => hs m (by simp [DataW.weights, Try.underlying94, DataW.weightsEach, hm])
    have s6 : Small 83 x6.1 := fun m hm => hs m (by simp [DataW.weights, Try.underlying94, DataW.weightsEach, hm])
    obtain ⟨z0, e0, -, w0⟩ := DataW.trod_int Try.underlying87 f0
    obtain ⟨z1, e1, -, w1⟩ := DataW.trod_int Try.underlying3 f1
    obtain ⟨z2, e2, -, w2⟩ := DataW.trod_int Try.underlying3 f2
    obtain ⟨z3, e3, -, w3⟩ := DataW.trod_int Try.underlying3 f3
    obtain ⟨sa, na, ca, la, e4, hA⟩ := rs_of_trod (R := ExM W.heap.size W 8) Try.underlying90 k76 (by omega) y76 (by omega) (ex_of_trod 8) f4 s4
    obtain ⟨sb, nb, cb, lb, e5, hB⟩ := rs_of_trod (R := StM W.heap.size W d) Try.underlying83 k78 (by omega) y78 (by omega) ih f5 s5
    obtain ⟨sc, nc, cc, lc, e6, hC⟩ := rs_of_trod (R := StM W.heap.size W d) Try.underlying83 k78 (by omega) y78 (by omega) ih f6 s6
    cases e0; cases e1; cases e2; cases e3; cases e4; cases e5; cases e6
    exact ⟨(⟨z0, z1, z2, z3, la, lb, lc⟩ : StN (StT d)), sa, na, ca, sb, nb, cb, sc, nc, cc, rfl, ⟨u8I w0, i64I w1, i64I w2, i64I w3⟩, hA, hB, hC⟩
theorem fu_of_trod (fuel : Nat) (cs : List Value) (x : DataW H × List MemPlace) (h : DataW.trod enc Try.prog W base (fun _ => true) true fuel 85 cs = some x) (hs : Small 85 x.1) : ∃ f : FuT, FuM W.heap.size W cs f := by
  obtain ⟨xs, n, rfl, rfl, hl, hxl, hf⟩ := DataW.trod_struct Try.underlying85 h
  rw [k52] at hl
  simp at hxl
  match cs, hl with
  | [c0, c1, c2], _ =>
  match xs, hxl with
  | [x0, x1, x2], _ =>
  have f0 := hf 0 _ rfl
  have f1 := hf 1 _ rfl
  have f2 := hf 2 _ rfl
  simp [k3, k50] at f0 f1 f2
  have s2 : Small 83 x2.1 := fun m hm => hs m (by simp [DataW.weights, Try.underlying85, DataW.weightsEach, hm])
  obtain ⟨z0, e0, -, w0⟩ := DataW.trod_int Try.underlying3 f0
  obtain ⟨z1, e1, -, w1⟩ := DataW.trod_int Try.underlying3 f1
  obtain ⟨sb, nb, cb, lb, e2, hB⟩ := rs_of_trod (R := StM W.heap.size W 8) Try.underlying83 k78 (by omega) y78 (by omega) (st_of_trod 8) f2 s2
  cases e0; cases e1; cases e2
  exact ⟨⟨z0, z1, lb⟩, sb, nb, cb, rfl, ⟨i64I w0, i64I w1⟩, hB⟩
theorem pg_of_trod (fuel : Nat) (cs : List Value) (x : DataW H × List MemPlace) (h : DataW.trod enc Try.prog W base (fun _ => true) true fuel 47 cs = some x) (hs : Small 47 x.1) : ∃ (p : PgT) (sp : Option Addr) (m cap : Nat), cs = [.slice sp m cap, .int .i64 p.da] ∧ PgM W.heap.size W cs p := by
  obtain ⟨xs, n, rfl, rfl, hl, hxl, hf⟩ := DataW.trod_struct Try.underlying47 h
  rw [k24] at hl
  simp at hxl
  match cs, hl with
  | [c0, c1], _ =>
  match xs, hxl with
  | [x0, x1], _ =>
  have f0 := hf 0 _ rfl
  have f1 := hf 1 _ rfl
  simp [k3, k45f] at f0 f1
  have s0 : Small 45 x0.1 := fun m hm => hs m (by simp [DataW.weights, Try.underlying47, DataW.weightsEach, hm])
  obtain ⟨z1, e1, -, w1⟩ := DataW.trod_int Try.underlying3 f1
  obtain ⟨sb, nb, cb, lb, e0, hB⟩ := rs_of_trod (R := FuM W.heap.size W) Try.underlying45 k52 (by omega) y52 (by omega) fu_of_trod f0 s0
  cases e0; cases e1
  exact ⟨⟨lb, z1⟩, sb, nb, cb, rfl, sb, nb, cb, rfl, i64I w1, hB⟩
/-- A PROGRAM THAT CAME IN. -/
theorem open_prog {b0 : Nat} {v : Value} {d : DataW H} {p : List MemPlace} {ts : List TypeId} {ds : List (DataW H)} {j : Nat}
    (hv : Value.okWide Try.prog W .any b0 47 v) (h : DataW.Trod enc Try.prog W base (fun _ => true) true 47 v d p)
    (hsz : (DataW.weightsEach Try.prog ts ds).all (· ≤ reachBytes) = true) (ht : ts[j]? = some 47) (hd : ds[j]? = some d) :
    ∃ (q : PgT) (sp : Option Addr) (m cap : Nat), v = .agg #[.slice sp m cap, .int .i64 q.da] ∧ PgM W.heap.size W [.slice sp m cap, .int .i64 q.da] q := by
  obtain ⟨C, rfl, -⟩ := WideShapes.okWide_struct Try.underlying47 hv
  obtain ⟨fuel, hf⟩ := h
  have hs : Small 47 d := fun n hn => by
    have := List.all_eq_true.1 hsz n (DataW.weights_mem_each ht hd n hn)
    simpa using this
  obtain ⟨q, sp, m, cap, e, hM⟩ := pg_of_trod fuel _ (d, p) hf hs
  simp only [Value.cells] at e hM
  refine ⟨q, sp, m, cap, ?_, by rw [← e]; exact hM⟩
  congr 1
  have := congrArg List.toArray e
  simpa using this
end
end Go.Proofs.Ytimmiidkjpbffaa
/- Layer compile: images that came in. -/
namespace Go.Proofs.Ytimmiidkjpbffaa
open Go.ChangeAt Go.ChangeShapes Go.RowKit Go.WideShapes
set_option maxRecDepth 100000
set_option linter.unusedVariables false
set_option linter.unusedSimpArgs false


theorem ownI : ownKnob Try.prog.godebug = none := by kernel_rfl
theorem laidI : laidOutB Try.prog = true := by kernel_rfl
theorem cells24 : Try.prog.cellsOf 24 = 3 := by kernel_rfl
theorem cells3i : Try.prog.cellsOf 3 = 1 := by kernel_rfl
theorem i64_wfI {z : Int} (h : (Lit.int .i64 z).wf = true) : -9223372036854775808 ≤ z ∧ z ≤ 9223372036854775807 := by
  have h1 : IntKind.i64.min = -9223372036854775808 := rfl
  have h2 : IntKind.i64.max = 9223372036854775807 := rfl
  simp only [Lit.wf, Bool.and_eq_true, decide_eq_true_eq] at h
  omega
section
variable {H : Type} {enc : TypeId × Value → H} {W : World} {base : Nat}
theorem im_of_trod {fuel : Nat} {cs : List Value} {x : DataW H × List MemPlace} (h : DataW.trod enc Try.prog W base (fun _ => true) true fuel 24 cs = some x) (hs : Small 24 x.1) :
    ∃ sp n cap L b d, cs = [.slice sp n cap, .int .i64 b, .int .i64 d] ∧ MS W.heap.size W sp n cap L ∧ (∀ k, U64 (L.getD k 0)) ∧ (-9223372036854775808 ≤ b ∧ b ≤ 9223372036854775807) ∧ (-9223372036854775808 ≤ d ∧ d ≤ 9223372036854775807) := by
  obtain ⟨xs, n, rfl, rfl, hl, hxl, hf⟩ := DataW.trod_struct Try.underlying24 h
  rw [cells24] at hl
  simp at hxl
  match xs, hxl with
  | [x0, x1, x2], _ =>
  have f0 := hf 0 _ rfl
  have f1 := hf 1 _ rfl
  have f2 := hf 2 _ rfl
  simp [cells43, cells3i] at f0 f1 f2
  have s0 : Small 22 x0.1 := fun m hm => hs m (by simp [DataW.weights, Try.underlying24, DataW.weightsEach, hm])
  obtain ⟨sp, k, cap, L, e0, hM, hU⟩ := ws_of_trod f0 s0
  obtain ⟨z1, e1, -, w1⟩ := DataW.trod_int Try.underlying3 f1
  obtain ⟨z2, e2, -, w2⟩ := DataW.trod_int Try.underlying3 f2
  refine ⟨sp, k, cap, L, z1, z2, ?_, hM, hU, i64_wfI w1, i64_wfI w2⟩
  match cs, hl with
  | [c0, c1, c2], _ =>
  simp at e0 e1 e2
  rw [e0, e1, e2]
/-- AN IMAGE THAT CAME IN. -/
theorem open_image {b0 : Nat} {v : Value} {d : DataW H} {p : List MemPlace} {ts : List TypeId} {ds : List (DataW H)} {j : Nat}
    (hv : Value.okWide Try.prog W .any b0 24 v) (h : DataW.Trod enc Try.prog W base (fun _ => true) true 24 v d p)
    (hsz : (DataW.weightsEach Try.prog ts ds).all (· ≤ reachBytes) = true) (ht : ts[j]? = some 24) (hd : ds[j]? = some d) :
    ∃ sp n cap L b d, v = .agg #[.slice sp n cap, .int .i64 b, .int .i64 d] ∧ MS W.heap.size W sp n cap L ∧ (∀ k, U64 (L.getD k 0)) ∧ (-9223372036854775808 ≤ b ∧ b ≤ 9223372036854775807) ∧ (-9223372036854775808 ≤ d ∧ d ≤ 9223372036854775807) := by
  unfold Value.okWide at hv
  rw [Try.underlying24] at hv
  obtain ⟨cs, rfl, hc, -⟩ := hv
  obtain ⟨fuel, hf⟩ := h
  have hs : Small 24 d := fun n hn => by
    have := List.all_eq_true.1 hsz n (DataW.weights_mem_each ht hd n hn)
    simpa using this
  obtain ⟨sp, n, cap, L, b, d, e, hM⟩ := im_of_trod (x := (_, p)) hf hs
  refine ⟨sp, n, cap, L, b, d, ?_, hM⟩
  congr 1
  apply Array.toList_inj.1
  exact e
/-- WORDS THAT CAME IN. -/
theorem open_words {v : Value} {d : DataW H} {p : List MemPlace} {ts : List TypeId} {ds : List (DataW H)} {j : Nat}
    (h : DataW.Trod enc Try.prog W base (fun _ => true) true 22 v d p)
    (hsz : (DataW.weightsEach Try.prog ts ds).all (· ≤ reachBytes) = true) (ht : ts[j]? = some 22) (hd : ds[j]? = some d)
    (hv1 : ∃ a n c, v = .slice a n c) :
    ∃ sp n cap L, v = .slice sp n cap ∧ MS W.heap.size W sp n cap L ∧ ∀ k, U64 (L.getD k 0) := by
  obtain ⟨a, n, c, rfl⟩ := hv1
  obtain ⟨fuel, hf⟩ := h
  have hs : Small 22 d := fun n hn => by
    have := List.all_eq_true.1 hsz n (DataW.weights_mem_each ht hd n hn)
    simpa using this
  obtain ⟨sp, n, cap, L, e, hM⟩ := ws_of_trod (x := (d, p)) hf hs
  refine ⟨sp, n, cap, L, ?_, hM⟩
  exact List.head_eq_of_cons_eq e
end
end Go.Proofs.Ytimmiidkjpbffaa
