/- QCm, ZWf, Js. -/
import Derived.Test.YtmljihggooaboaaW11
import Derived.Test.YtmljihggooaboaaW12
import Derived.Test.YtmljihggooaboaaW13
import Derived.Test.YtmljihggooaboaaW14
import Derived.Test.YtmljihggooaboaaW17
import Derived.Test.YtmljihggooaboaaW31
import Derived.BigQuiet
import Derived.BigRegion
import Derived.ChangeKeysEq
import Derived.ChangeOld
import Derived.Deep.DeepCutAuto
import Derived.Deep.DrawnRows
import Derived.Deep.MidRow
import Derived.Deep.QuietTactic
import Derived.Deep.RegionHeld3
import Derived.Deep.RegionLaw
import Derived.Deep.RegionWith
import Derived.Deep.WholeRow
import Derived.DeepKeys3
import Derived.Great.BuildSlice
import Derived.Laws.AppendOwnNone
import Derived.Laws.BitsLemmas
import Derived.Laws.BytesArg
import Derived.Laws.CopyOwn
import Derived.Laws.Tables
import Derived.Lib.SlBytesConst
import Derived.Maps.AppendAt
import Derived.OpenShut
import Derived.ProofKit
import Derived.RangeFuncRecord
import Derived.ShutString
import Derived.SizedLaws
import Derived.WalkKit
import Derived.WalkLawsBesides
import Derived.WalkSpells
import Derived.Test.YtmljihggooaboaaW01
import Derived.Deep.OwnRows
import Derived.Great.FillDense
import Derived.Laws.OwnMore
import Derived.Laws.ResultCell
import Derived.LoopIn
import Derived.LoopNIn
import Derived.OwnWalkIn
import Derived.RangeFuncBound
import Derived.RangeFuncCalls
import Derived.RangeFuncLeaves
import Derived.RangeFuncNested
import Derived.Recover
import Derived.Shelf.Abstract
import Derived.Shelf.RegionOpen
import Derived.TacticsInMore
import Derived.WideShapes
/- Layer interp: what the layers below give. -/
namespace Go.Proofs.Ytmljihggooaboaa
open Go.ChangeAt Go.ChangeShapes Go.RowKit Go.WideShapes
set_option maxRecDepth 100000
set_option linter.unusedVariables false
set_option linter.unusedSimpArgs false

theorem weights_all {H : Type} {P : Program} {e : TypeId} {l : List (DataW H)} {d : DataW H} (hd : d ∈ l) : ∀ n ∈ d.weights P e, n ∈ DataW.weightsAll P e l := by
  induction l with
  | nil => simp at hd
  | cons x r ih =>
    intro n hn
    rw [DataW.weightsAll]
    rcases List.mem_cons.1 hd with rfl | h
    · exact List.mem_append_left _ hn
    · exact List.mem_append_right _ (ih h n hn)
theorem cells38 : Try.prog.cellsOf 53 = 1 := by kernel_rfl
theorem cells54 : Try.prog.cellsOf 57 = 33 := by kernel_rfl
theorem bytes54 : Try.prog.bytesOf 57 = 56 := by kernel_rfl
section
variable {H : Type} {enc : TypeId × Value → H} {W : World} {base : Nat}

set_option maxRecDepth 100000 in
theorem bs_of_trod {fuel : Nat} {cs : List Value} {x : DataW H × List MemPlace} (h : DataW.trod enc Try.prog W base (fun _ => true) true fuel 53 cs = some x) (hs : Small 53 x.1) :
    ∃ sp n cap L, cs = [.slice sp n cap] ∧ BS W.heap.size W sp n cap L := by
  rcases open_ints Try.underlying53 Try.underlying5 (by kernel_rfl) h with ⟨rfl, _⟩ | ⟨a, len, cap, zs, rfl, _, hl, hm, hz, rfl, hcell, hwz⟩
  · exact ⟨none, 0, 0, [], rfl, BS.nil0 _ _⟩
  · have hz' : zs.length = cap := by simpa using hz
    have hr := hs ((zs.take len).length + (zs.drop len).length) (by simp [DataW.weights, Try.underlying53, bytes5, lits])
    simp only [List.length_take, List.length_drop, reachBytes] at hr
    refine ⟨some a, len, cap, zs.take len, rfl, ⟨show _ = _ by simp; omega, (fun e => by cases e), hl, by unfold maxLen at hm; omega, by omega, fun h0 => ?_, bts_wf fun y hy => hwz y (List.mem_of_mem_take hy)⟩⟩
    obtain ⟨b, off, rfl, hc⟩ := ints_at hcell (by omega)
    refine ⟨b, off, rfl, block_lt_of_cell (hc 0 (by omega)), fun t ht => ?_⟩
    rw [hc t (by omega)]
    simp [bat, List.getElem?_take_of_lt ht]
set_option maxRecDepth 100000 in
theorem en_of_trod (fuel : Nat) (cs : List Value) (x : DataW H × List MemPlace) (h : DataW.trod enc Try.prog W base (fun _ => true) true fuel 57 cs = some x) (hs : Small 57 x.1) :
    ∃ e : En, cs = e.cells ∧ EnOK W.heap.size W e := by
  obtain ⟨xs, n, rfl, rfl, hl, hxl, hf⟩ := DataW.trod_struct Try.underlying57 h
  rw [cells54] at hl
  simp at hxl
  match xs, hxl with
  | [x0, x1], _ =>
  have f0 := hf 0 _ rfl
  have f1 := hf 1 _ rfl
  simp [cells38, cells29] at f0 f1
  have s0 : Small 53 x0.1 := fun m hm => hs m (by simp [DataW.weights, Try.underlying57, DataW.weightsEach, hm])
  obtain ⟨sp, m, cap, L, e0, hB⟩ := bs_of_trod f0 s0
  obtain ⟨X, hX, -, e1⟩ := h_of_trod f1
  refine ⟨⟨sp, m, cap, L, X⟩, ?_, hB, hX⟩
  match cs, hl with
  | c :: r, hl =>
    simp at e0
    subst e0
    simp at e1 hl
    rw [List.take_of_length_le (by omega)] at e1
    rw [e1]; rfl
set_option maxRecDepth 100000 in
theorem es_of_trod {fuel : Nat} {cs : List Value} {x : DataW H × List MemPlace} (h : DataW.trod enc Try.prog W base (fun _ => true) true fuel 28 cs = some x) (hs : Small 28 x.1) :
    ∃ sq k cq es, cs = [.slice sq k cq] ∧ ES W.heap.size W sq k cq es := by
  rcases DataW.trod_slice Try.underlying28 h with ⟨rfl, -⟩ | ⟨a, len, cap, elems, rest, n, rfl, rfl, rfl, hb, hlc, hm, hlen, hel, hsp, -⟩
  · exact ⟨none, 0, 0, [], rfl, ES.nil0 _ _⟩
  · obtain ⟨hrl, -⟩ := hsp rfl
    have hr := hs ((elems.length + rest.length) * 56) (by simp [DataW.weights, Try.underlying28, bytes54])
    simp only [reachBytes] at hr
    have hw : ∀ e ∈ elems, Small 57 e.1 := fun e he m hm => hs m (by
      simp only [DataW.weights, Try.underlying28]
      exact List.mem_cons_of_mem _ (List.mem_append_left _ (weights_all (List.mem_map_of_mem he) m hm)))
    have hstep : ∀ i, i < len → ∃ g off, ∃ e : En, a.add (i * 33) = ⟨g, off, none⟩ ∧ W.rangeAt g off e.cells ∧ EnOK W.heap.size W e := fun i hi => by
      have h1 := hel i hi
      rw [cells54, List.getElem?_eq_getElem (by omega), Option.bind_eq_some_iff] at h1
      obtain ⟨cs, hcs, ht⟩ := h1
      obtain ⟨g, off, e, hR⟩ := cells_at (by omega) hcs
      obtain ⟨f, hf, ho⟩ := en_of_trod n cs _ ht (hw _ (List.getElem_mem _))
      subst hf
      exact ⟨g, off, f, e, hR, ho⟩
    by_cases h0 : 0 < len
    · obtain ⟨g, off, -, e, -⟩ := hstep 0 h0
      have ha : a = ⟨g, off, none⟩ := by simpa [Addr.add] using e
      subst ha
      obtain ⟨l, hl, hP⟩ := exists_list (P := fun i (f : En) => W.rangeAt g (off + i * 33) f.cells ∧ EnOK W.heap.size W f) len (fun i hi => by
        obtain ⟨g', off', f, e', h1, ho⟩ := hstep i hi
        rw [Addr.add_mid] at e'
        cases e'
        exact ⟨f, h1, ho⟩)
      refine ⟨some ⟨g, off, none⟩, len, cap, l, rfl, ⟨show _ = _ by simp [hl], (fun e => by cases e), hlc, by unfold maxLen at hm; omega, by omega, fun _ => ⟨g, off, rfl, ?_, fun i f hf => (hP i f hf).1⟩, fun f hf => ?_⟩⟩
      · obtain ⟨p, hp⟩ : ∃ p, l[0]? = some p := ⟨l[0], List.getElem?_eq_getElem (by omega)⟩
        exact block_lt_of_cell ((hP 0 p hp).1 0 _ rfl)
      · obtain ⟨i, hi⟩ := List.mem_iff_getElem?.1 hf
        exact (hP i f hi).2
    · obtain rfl : len = 0 := by omega
      exact ⟨some a, 0, cap, [], rfl, ⟨rfl, (fun e => by cases e), by omega, by unfold maxLen at hm; omega, by omega, fun h => by omega, fun f hf => by simp at hf⟩⟩
/-- ENTRIES THAT CAME IN. -/
theorem open_entries {b0 : Nat} {v : Value} {d : DataW H} {p : List MemPlace} {ts : List TypeId} {ds : List (DataW H)} {j : Nat}
    (hv : Value.okWide Try.prog W .any b0 28 v) (h : DataW.Trod enc Try.prog W base (fun _ => true) true 28 v d p)
    (hsz : (DataW.weightsEach Try.prog ts ds).all (· ≤ reachBytes) = true) (ht : ts[j]? = some 28) (hd : ds[j]? = some d) :
    ∃ sq k cq es, v = .slice sq k cq ∧ ES W.heap.size W sq k cq es := by
  obtain ⟨a0, len0, cap0, rfl⟩ := okWide_slice Try.underlying28 hv
  obtain ⟨fuel, hf⟩ := h
  have hs : Small 28 d := fun n hn => by
    have := List.all_eq_true.1 hsz n (DataW.weights_mem_each ht hd n hn)
    simpa using this
  obtain ⟨sq, k, cq, fs, e, hi⟩ := es_of_trod (x := (d, p)) hf hs
  simp [Value.cells] at e
  obtain ⟨rfl, rfl, rfl⟩ := e
  exact ⟨_, _, _, fs, rfl, hi⟩
end
end Go.Proofs.Ytmljihggooaboaa
/- Layer interp: what the layers below give. -/
namespace Go.Proofs.Ytmljihggooaboaa
open Go.ChangeAt Go.ChangeShapes Go.RowKit Go.WideShapes
set_option maxRecDepth 100000
set_option linter.unusedVariables false
set_option linter.unusedSimpArgs false

theorem u64_wfV {z : Int} (h : (Lit.int .u64 z).wf = true) : U64 z := by
  have h1 : IntKind.u64.min = 0 := rfl
  have h2 : IntKind.u64.max = 18446744073709551615 := rfl
  simp only [Lit.wf, Bool.and_eq_true, decide_eq_true_eq] at h
  unfold U64
  omega
theorem getD_u {L : List Int} (h : ∀ y ∈ L, U64 y) (k : Nat) : U64 (L.getD k 0) := by
  rw [List.getD_eq_getElem?_getD]
  by_cases hk : k < L.length
  · rw [List.getElem?_eq_getElem hk]; exact h _ (List.getElem_mem hk)
  · rw [List.getElem?_eq_none (by omega)]; simp [U64]
theorem bytes26 : Try.prog.bytesOf 30 = 8 := by kernel_rfl
section
variable {H : Type} {enc : TypeId × Value → H} {W : World} {base : Nat}
theorem ws_of_trod {fuel : Nat} {cs : List Value} {x : DataW H × List MemPlace} (h : DataW.trod enc Try.prog W base (fun _ => true) true fuel 25 cs = some x) (hs : Small 25 x.1) :
    ∃ sp n cap L, cs = [.slice sp n cap] ∧ MS W.heap.size W sp n cap L ∧ ∀ k, U64 (L.getD k 0) := by
  rcases open_ints Try.underlying25 Try.underlying30 (by kernel_rfl) h with ⟨rfl, _⟩ | ⟨a, len, cap, zs, rfl, _, hl, hm, hz, rfl, hcell, hwz⟩
  · exact ⟨none, 0, 0, [], rfl, MS.nil0 _ _, fun k => by simp [U64]⟩
  · have hz' : zs.length = cap := by simpa using hz
    have hr := hs (((zs.take len).length + (zs.drop len).length) * 8) (by simp [DataW.weights, Try.underlying25, bytes26, lits])
    simp only [List.length_take, List.length_drop, reachBytes] at hr
    refine ⟨some a, len, cap, zs.take len, rfl, ⟨show _ = _ by simp; omega, (fun e => by cases e), hl, by unfold maxLen at hm; omega, by omega, fun h0 => ?_⟩, getD_u fun y hy => u64_wfV (hwz y (List.mem_of_mem_take hy))⟩
    obtain ⟨b, off, rfl, hc⟩ := ints_at hcell (by omega)
    refine ⟨b, off, rfl, block_lt_of_cell (hc 0 (by omega)), fun t ht => ?_⟩
    rw [hc t (by omega)]
    simp [List.getElem?_take_of_lt ht]
end
end Go.Proofs.Ytmljihggooaboaa
/- Layer interp: a program that came in. -/
namespace Go.Proofs.Ytmljihggooaboaa
open Go.RowKit
set_option maxRecDepth 100000
set_option linter.unusedVariables false
set_option linter.unusedSimpArgs false

theorem u8I {z : Int} (h : (Lit.int .u8 z).wf = true) : U8 z := by
  have h1 : IntKind.u8.min = 0 := rfl
  have h2 : IntKind.u8.max = 255 := rfl
  simp only [Lit.wf, Bool.and_eq_true, decide_eq_true_eq] at h
  unfold U8
  omega
theorem i64I {z : Int} (h : (Lit.int .i64 z).wf = true) : I64 z := by
  have h1 : IntKind.i64.min = -9223372036854775808 := rfl
  have h2 : IntKind.i64.max = 9223372036854775807 := rfl
  simp only [Lit.wf, Bool.and_eq_true, decide_eq_true_eq] at h
  unfold I64
  omega
theorem k3 : Try.prog.cellsOf 3 = 1 := by kernel_rfl
theorem k30 : Try.prog.cellsOf 30 = 1 := by kernel_rfl
theorem k43 : Try.prog.cellsOf 43 = 1 := by kernel_rfl
theorem k72 : Try.prog.cellsOf 72 = 1 := by kernel_rfl
theorem k73 : Try.prog.cellsOf 73 = 1 := by kernel_rfl
theorem k74 : Try.prog.cellsOf 74 = 1 := by kernel_rfl
theorem k50 : Try.prog.cellsOf 50 = 1 := by kernel_rfl
theorem k22 : Try.prog.cellsOf 22 = 1 := by kernel_rfl
theorem k25 : Try.prog.cellsOf 25 = 1 := by kernel_rfl
theorem k76 : Try.prog.cellsOf 76 = 5 := by kernel_rfl
theorem k78 : Try.prog.cellsOf 78 = 7 := by kernel_rfl
theorem k52 : Try.prog.cellsOf 52 = 3 := by kernel_rfl
theorem k24 : Try.prog.cellsOf 24 = 2 := by kernel_rfl
theorem k27 : Try.prog.cellsOf 27 = 2 := by kernel_rfl
theorem y76 : Try.prog.bytesOf 76 = 56 := by kernel_rfl
theorem y78 : Try.prog.bytesOf 78 = 104 := by kernel_rfl
theorem y52 : Try.prog.bytesOf 52 = 40 := by kernel_rfl
section
variable {H : Type} {enc : TypeId × Value → H} {W : World} {base : Nat}
/-- A row of things that came in. -/
theorem rs_of_trod {α : Type} {sT eT : TypeId} {sz bb : Nat} (hu : Try.prog.underlying sT = some (.slice eT)) (hk : Try.prog.cellsOf eT = sz) (h1 : 0 < sz) (hy : Try.prog.bytesOf eT = bb) (h2 : 0 < bb) {R : List Value → α → Prop}
    (hR : ∀ (fuel : Nat) (cs : List Value) (x : DataW H × List MemPlace), DataW.trod enc Try.prog W base (fun _ => true) true fuel eT cs = some x → Small eT x.1 → ∃ a, R cs a)
    {fuel : Nat} {cs : List Value} {x : DataW H × List MemPlace} (h : DataW.trod enc Try.prog W base (fun _ => true) true fuel sT cs = some x) (hs : Small sT x.1) :
    ∃ sp n cap l, cs = [.slice sp n cap] ∧ RS W.heap.size W sz R sp n cap l := by
  rcases DataW.trod_slice hu h with ⟨rfl, -⟩ | ⟨a, len, cap, elems, rest, n, rfl, rfl, rfl, hb, hlc, hm, hlen, hel, hsp, -⟩
  · exact ⟨none, 0, 0, [], rfl, RS.nil0 _ _ _ _⟩
  · obtain ⟨hrl, -⟩ := hsp rfl
    have hr := hs ((elems.length + rest.length) * bb) (by simp [DataW.weights, hu, hy])
    simp only [reachBytes] at hr
    have hr2 : elems.length + rest.length ≤ (elems.length + rest.length) * bb := Nat.le_mul_of_pos_right _ h2
    have hw : ∀ e ∈ elems, Small eT e.1 := fun e he m hm => hs m (by
      simp only [DataW.weights, hu]
      exact List.mem_cons_of_mem _ (List.mem_append_left _ (weights_all (List.mem_map_of_mem he) m hm)))
    have hstep : ∀ i, i < len → ∃ g off cs, ∃ e : α, a.add (i * sz) = ⟨g, off, none⟩ ∧ W.rangeAt g off cs ∧ R cs e ∧ g < W.heap.size := fun i hi => by
      have h1' := hel i hi
      rw [hk, List.getElem?_eq_getElem (by omega), Option.bind_eq_some_iff] at h1'
      obtain ⟨cs, hcs, ht⟩ := h1'
      obtain ⟨g, off, e, hRg⟩ := cells_at h1 hcs
      obtain ⟨-, hl, -⟩ := World.cells?_some hcs
      obtain ⟨f, hf⟩ := hR n cs _ ht (hw _ (List.getElem_mem _))
      exact ⟨g, off, cs, f, e, hRg, hf, block_lt_of_cell (hRg 0 cs[0] (List.getElem?_eq_getElem (by omega)))⟩
    by_cases h0 : 0 < len
    · obtain ⟨g, off, -, -, e, -, -, hgl⟩ := hstep 0 h0
      have ha : a = ⟨g, off, none⟩ := by simpa [Addr.add] using e
      subst ha
      obtain ⟨l, hl, hP⟩ := exists_list (P := fun i (f : α) => ∃ cs, W.rangeAt g (off + i * sz) cs ∧ R cs f) len (fun i hi => by
        obtain ⟨g', off', cs, f, e', h1', ho, -⟩ := hstep i hi
        rw [Addr.add_mid] at e'
        cases e'
        exact ⟨f, cs, h1', ho⟩)
      exact ⟨some ⟨g, off, none⟩, len, cap, l, rfl, ⟨hid hl.symm, (fun e => by cases e), hlc, by unfold maxLen at hm; omega, by omega, fun _ => ⟨g, off, rfl, hgl, hP⟩⟩⟩
    · obtain rfl : len = 0 := by omega
      exact ⟨some a, 0, cap, [], rfl, ⟨rfl, (fun e => by cases e), by omega, by unfold maxLen at hm; omega, by omega, fun h => by omega⟩⟩
theorem ex_of_trod : ∀ (d fuel : Nat) (cs : List Value) (x : DataW H × List MemPlace), DataW.trod enc Try.prog W base (fun _ => true) true fuel 76 cs = some x → Small 76 x.1 → ∃ t : ExT d, ExM W.heap.size W d cs t := by
  intro d
  induction d with
  | zero =>
    intro fuel cs x h hs
    obtain ⟨xs, n, rfl, rfl, hl, hxl, hf⟩ := DataW.trod_struct Try.underlying76 h
    rw [k76] at hl
    simp at hxl
    match cs, hl with
    | [c0, c1, c2, c3, c4], _ =>
    match xs, hxl with
    | [x0, x1, x2, x3, x4], _ =>
    have f0 := hf 0 _ rfl
    have f1 := hf 1 _ rfl
    have f2 := hf 2 _ rfl
    have f3 := hf 3 _ rfl
    have f4 := hf 4 _ rfl
    simp [k73, k30, k3, k43, k74] at f0 f1 f2 f3 f4
    have s4 : Small 74 x4.1 := fun m hm => hs m (by simp [DataW.weights, Try.underlying76, DataW.weightsEach, hm])
    obtain ⟨z0, e0, -⟩ := DataW.trod_int Try.underlying73 f0
    obtain ⟨z1, e1, -⟩ := DataW.trod_int Try.underlying30 f1
    obtain ⟨z2, e2, -⟩ := DataW.trod_int Try.underlying3 f2
    obtain ⟨z3, e3, -⟩ := DataW.trod_int Try.underlying43 f3
    obtain ⟨sp, m, cap, l, e4, -⟩ := rs_of_trod (α := Unit) (R := fun _ _ => True) Try.underlying74 k76 (by omega) y76 (by omega) (fun _ _ _ _ _ => ⟨(), trivial⟩) f4 s4
    cases e0; cases e1; cases e2; cases e3; cases e4
    exact ⟨(), z0, z1, z2, z3, sp, m, cap, rfl⟩
  | succ d ih =>
    intro fuel cs x h hs
    obtain ⟨xs, n, rfl, rfl, hl, hxl, hf⟩ := DataW.trod_struct Try.underlying76 h
    rw [k76] at hl
    simp at hxl
    match cs, hl with
    | [c0, c1, c2, c3, c4], _ =>
    match xs, hxl with
    | [x0, x1, x2, x3, x4], _ =>
    have f0 := hf 0 _ rfl
    have f1 := hf 1 _ rfl
    have f2 := hf 2 _ rfl
    have f3 := hf 3 _ rfl
    have f4 := hf 4 _ rfl
    simp [k73, k30, k3, k43, k74] at f0 f1 f2 f3 f4
    have s4 : Small 74 x4.1 := fun m hm => hs m (by simp [DataW.weights, Try.underlying76, DataW.weightsEach, hm])
    obtain ⟨z0, e0, -, w0⟩ := DataW.trod_int Try.underlying73 f0
    obtain ⟨z1, e1, -, w1⟩ := DataW.trod_int Try.underlying30 f1
    obtain ⟨z2, e2, -, w2⟩ := DataW.trod_int Try.underlying3 f2
    obtain ⟨z3, e3, -, w3⟩ := DataW.trod_int Try.underlying43 f3
    obtain ⟨sp, m, cap, l, e4, hR⟩ := rs_of_trod (R := ExM W.heap.size W d) Try.underlying74 k76 (by omega) y76 (by omega) ih f4 s4
    cases e0; cases e1; cases e2; cases e3; cases e4
    exact ⟨(⟨z0, z1, z2, z3, l⟩ : ExN (ExT d)), sp, m, cap, rfl, ⟨u8I w0, u64I w1, i64I w2, u8I w3⟩, hR⟩
theorem st_of_trod : ∀ (d fuel : Nat) (cs : List Value) (x : DataW H × List MemPlace), DataW.trod enc Try.prog W base (fun _ => true) true fuel 78 cs = some x → Small 78 x.1 → ∃ t : StT d, StM W.heap.size W d cs t := by
  intro d
  induction d with
  | zero =>
    intro fuel cs x h hs
    obtain ⟨xs, n, rfl, rfl, hl, hxl, hf⟩ := DataW.trod_struct Try.underlying78 h
    rw [k78] at hl
    simp at hxl
    match cs, hl with
    | [c0, c1, c2, c3, c4, c5, c6], _ =>
    match xs, hxl with
    | [x0, x1, x2, x3, x4, x5, x6], _ =>
    have f0 := hf 0 _ rfl
    have f1 := hf 1 _ rfl
    have f2 := hf 2 _ rfl
    have f3 := hf 3 _ rfl
    have f4 := hf 4 _ rfl
    have f5 := hf 5 _ rfl
    have f6 := hf 6 _ rfl
    simp [k72, k3, k74, k50] at f0 f1 f2 f3 f4 f5 f6
    have s4 : Small 74 x4.1 := fun m hm => hs m (by simp [DataW.weights, Try.underlying78, DataW.weightsEach, hm])
    have s5 : Small 50 x5.1 := fun m hm => hs m (by simp [DataW.weights, Try.underlying78, DataW.weightsEach, hm])
    have s6 : Small 50 x6.1 := fun m hm => hs m (by simp [DataW.weights, Try.underlying78, DataW.weightsEach, hm])
    obtain ⟨z0, e0, -⟩ := DataW.trod_int Try.underlying72 f0
    obtain ⟨z1, e1, -⟩ := DataW.trod_int Try.underlying3 f1
    obtain ⟨z2, e2, -⟩ := DataW.trod_int Try.underlying3 f2
    obtain ⟨z3, e3, -⟩ := DataW.trod_int Try.underlying3 f3
    obtain ⟨sa, na, ca, la, e4, -⟩ := rs_of_trod (α := Unit) (R := fun _ _ => True) Try.underlying74 k76 (by omega) y76 (by omega) (fun _ _ _ _ _ => ⟨(), trivial⟩) f4 s4
    obtain ⟨sb, nb, cb, lb, e5, -⟩ := rs_of_trod (α := Unit) (R := fun _ _ => True) Try.underlying50 k78 (by omega) y78 (by omega) (fun _ _ _ _ _ => ⟨(), trivial⟩) f5 s5
    obtain ⟨sc, nc, cc, lc, e6, -⟩ := rs_of_trod (α := Unit) (R := fun _ _ => True) Try.underlying50 k78 (by omega) y78 (by omega) (fun _ _ _ _ _ => ⟨(), trivial⟩) f6 s6
    cases e0; cases e1; cases e2; cases e3; cases e4; cases e5; cases e6
    exact ⟨(), z0, z1, z2, z3, sa, na, ca, sb, nb, cb, sc, nc, cc, rfl⟩
  | succ d ih =>
    intro fuel cs x h hs
    obtain ⟨xs, n, rfl, rfl, hl, hxl, hf⟩ := DataW.trod_struct Try.underlying78 h
    rw [k78] at hl
    simp at hxl
    match cs, hl with
    | [c0, c1, c2, c3, c4, c5, c6], _ =>
    match xs, hxl with
    | [x0, x1, x2, x3, x4, x5, x6], _ =>
    have f0 := hf 0 _ rfl
    have f1 := hf 1 _ rfl
    have f2 := hf 2 _ rfl
    have f3 := hf 3 _ rfl
    have f4 := hf 4 _ rfl
    have f5 := hf 5 _ rfl
    have f6 := hf 6 _ rfl
    simp [k72, k3, k74, k50] at f0 f1 f2 f3 f4 f5 f6
    have s4 : Small 74 x4.1 := fun m hm => hs m (by simp [DataW.weights, Try.underlying78, DataW.weightsEach, hm])
    have s5 : Small 50 x5.1 := fun m hm => hs m (by simp [DataW.weights, Try.underlying78, DataW.weightsEach, hm])
    have s6 : Small 50 x6.1 := fun m hm => hs m (by simp [DataW.weights, Try.underlying78, DataW.weightsEach, hm])
    obtain ⟨z0, e0, -, w0⟩ := DataW.trod_int Try.underlying72 f0
    obtain ⟨z1, e1, -, w1⟩ := DataW.trod_int Try.underlying3 f1
    obtain ⟨z2, e2, -, w2⟩ := DataW.trod_int Try.underlying3 f2
    obtain ⟨z3, e3, -, w3⟩ := DataW.trod_int Try.underlying3 f3
    obtain ⟨sa, na, ca, la, e4, hA⟩ := rs_of_trod (R := ExM W.heap.size W 8) Try.underlying74 k76 (by omega) y76 (by omega) (ex_of_trod 8) f4 s4
    obtain ⟨sb, nb, cb, lb, e5, hB⟩ := rs_of_trod (R := StM W.heap.size W d) Try.underlying50 k78 (by omega) y78 (by omega) ih f5 s5
    obtain ⟨sc, nc, cc, lc, e6, hC⟩ := rs_of_trod (R := StM W.heap.size W d) Try.underlying50 k78 (by omega) y78 (by omega) ih f6 s6
    cases e0; cases e1; cases e2; cases e3; cases e4; cases e5; cases e6
    exact ⟨(⟨z0, z1, z2, z3, la, lb, lc⟩ : StN (StT d)), sa, na, ca, sb, nb, cb, sc, nc, cc, rfl, ⟨u8I w0, i64I w1, i64I w2, i64I w3⟩, hA, hB, hC⟩
theorem fu_of_trod (fuel : Nat) (cs : List Value) (x : DataW H × List MemPlace) (h : DataW.trod enc Try.prog W base (fun _ => true) true fuel 52 cs = some x) (hs : Small 52 x.1) : ∃ f : FuT, FuM W.heap.size W cs f := by
  obtain ⟨xs, n, rfl, rfl, hl, hxl, hf⟩ := DataW.trod_struct Try.underlying52 h
  rw [k52] at hl
  simp at hxl
  match cs, hl with
  | [c0, c1, c2], _ =>
  match xs, hxl with
  | [x0, x1, x2], _ =>
  have f0 := hf 0 _ rfl
  have f1 := hf 1 _ rfl
  have f2 := hf 2 _ rfl
  simp [k3, k50] at f0 f1 f2
  have s2 : Small 50 x2.1 := fun m hm => hs m (by simp [DataW.weights, Try.underlying52, DataW.weightsEach, hm])
  obtain ⟨z0, e0, -, w0⟩ := DataW.trod_int Try.underlying3 f0
  obtain ⟨z1, e1, -, w1⟩ := DataW.trod_int Try.underlying3 f1
  obtain ⟨sb, nb, cb, lb, e2, hB⟩ := rs_of_trod (R := StM W.heap.size W 8) Try.underlying50 k78 (by omega) y78 (by omega) (st_of_trod 8) f2 s2
  cases e0; cases e1; cases e2
  exact ⟨⟨z0, z1, lb⟩, sb, nb, cb, rfl, ⟨i64I w0, i64I w1⟩, hB⟩
theorem pg_of_trod (fuel : Nat) (cs : List Value) (x : DataW H × List MemPlace) (h : DataW.trod enc Try.prog W base (fun _ => true) true fuel 24 cs = some x) (hs : Small 24 x.1) : ∃ (p : PgT) (sp : Option Addr) (m cap : Nat), cs = [.slice sp m cap, .int .i64 p.da] ∧ PgM W.heap.size W cs p := by
  obtain ⟨xs, n, rfl, rfl, hl, hxl, hf⟩ := DataW.trod_struct Try.underlying24 h
  rw [k24] at hl
  simp at hxl
  match cs, hl with
  | [c0, c1], _ =>
  match xs, hxl with
  | [x0, x1], _ =>
  have f0 := hf 0 _ rfl
  have f1 := hf 1 _ rfl
  simp [k3, k22] at f0 f1
  have s0 : Small 22 x0.1 := fun m hm => hs m (by simp [DataW.weights, Try.underlying24, DataW.weightsEach, hm])
  obtain ⟨z1, e1, -, w1⟩ := DataW.trod_int Try.underlying3 f1
  obtain ⟨sb, nb, cb, lb, e0, hB⟩ := rs_of_trod (R := FuM W.heap.size W) Try.underlying22 k52 (by omega) y52 (by omega) fu_of_trod f0 s0
  cases e0; cases e1
  exact ⟨⟨lb, z1⟩, sb, nb, cb, rfl, sb, nb, cb, rfl, i64I w1, hB⟩
/-- A PROGRAM THAT CAME IN. -/
theorem open_prog {b0 : Nat} {v : Value} {d : DataW H} {p : List MemPlace} {ts : List TypeId} {ds : List (DataW H)} {j : Nat}
    (hv : Value.okWide Try.prog W .any b0 24 v) (h : DataW.Trod enc Try.prog W base (fun _ => true) true 24 v d p)
    (hsz : (DataW.weightsEach Try.prog ts ds).all (· ≤ reachBytes) = true) (ht : ts[j]? = some 24) (hd : ds[j]? = some d) :
    ∃ (q : PgT) (sp : Option Addr) (m cap : Nat), v = .agg #[.slice sp m cap, .int .i64 q.da] ∧ PgM W.heap.size W [.slice sp m cap, .int .i64 q.da] q := by
  obtain ⟨C, rfl, -⟩ := WideShapes.okWide_struct Try.underlying24 hv
  obtain ⟨fuel, hf⟩ := h
  have hs : Small 24 d := fun n hn => by
    have := List.all_eq_true.1 hsz n (DataW.weights_mem_each ht hd n hn)
    simpa using this
  obtain ⟨q, sp, m, cap, e, hM⟩ := pg_of_trod fuel _ (d, p) hf hs
  simp only [Value.cells] at e hM
  refine ⟨q, sp, m, cap, ?_, by rw [← e]; exact hM⟩
  congr 1
  have := congrArg List.toArray e
  simpa using this
theorem as_of_trod (fuel : Nat) (cs : List Value) (x : DataW H × List MemPlace) (h : DataW.trod enc Try.prog W base (fun _ => true) true fuel 27 cs = some x) (hs : Small 27 x.1) : ∃ (sd : Option Addr) (nd cd : Nat) (D : List Int) (fu : Int), cs = [.slice sd nd cd, .int .i64 fu] ∧ I64 fu ∧ MS W.heap.size W sd nd cd D ∧ ∀ k, U64 (D.getD k 0) := by
  obtain ⟨xs, n, rfl, rfl, hl, hxl, hf⟩ := DataW.trod_struct Try.underlying27 h
  rw [k27] at hl
  simp at hxl
  match cs, hl with
  | [c0, c1], _ =>
  match xs, hxl with
  | [x0, x1], _ =>
  have f0 := hf 0 _ rfl
  have f1 := hf 1 _ rfl
  simp [k3, k25] at f0 f1
  have s0 : Small 25 x0.1 := fun m hm => hs m (by simp [DataW.weights, Try.underlying27, DataW.weightsEach, hm])
  obtain ⟨z1, e1, -, w1⟩ := DataW.trod_int Try.underlying3 f1
  obtain ⟨sd, nd, cd, L, e0, hM, hU⟩ := ws_of_trod f0 s0
  cases e0; cases e1
  exact ⟨sd, nd, cd, L, z1, rfl, i64I w1, hM, hU⟩
/-- Data and fuel that came in. -/
theorem open_asked {b0 : Nat} {v : Value} {d : DataW H} {p : List MemPlace} {ts : List TypeId} {ds : List (DataW H)} {j : Nat}
    (hv : Value.okWide Try.prog W .any b0 27 v) (h : DataW.Trod enc Try.prog W base (fun _ => true) true 27 v d p)
    (hsz : (DataW.weightsEach Try.prog ts ds).all (· ≤ reachBytes) = true) (ht : ts[j]? = some 27) (hd : ds[j]? = some d) :
    ∃ (sd : Option Addr) (nd cd : Nat) (D : List Int) (fuel : Int), v = .agg #[.slice sd nd cd, .int .i64 fuel] ∧ I64 fuel ∧ AG sd nd D W ∧ (∀ x ∈ D, U64 x) ∧ MS W.heap.size W sd nd cd D := by
  obtain ⟨C, rfl, -⟩ := WideShapes.okWide_struct Try.underlying27 hv
  obtain ⟨fuel, hf⟩ := h
  have hs : Small 27 d := fun n hn => by
    have := List.all_eq_true.1 hsz n (DataW.weights_mem_each ht hd n hn)
    simpa using this
  obtain ⟨sd, nd, cd, L, z1, e, hI, hM, hU⟩ := as_of_trod fuel _ (d, p) hf hs
  simp only [Value.cells] at e
  refine ⟨sd, nd, cd, L, z1, ?_, hI, ⟨hid hM.len.out.symm, fun h0 => ?_⟩, fun x hx => ?_, hM⟩
  · congr 1
    have := congrArg List.toArray e
    simpa using this
  · obtain ⟨g, off, rfl, -, hc⟩ := hM.at0 (by rw [hM.len.out]; exact h0)
    refine ⟨_, rfl, fun j x hx => ?_⟩
    have hj := (List.getElem?_eq_some_iff.1 hx).1
    rw [Addr.add_mid, hc j (by rw [hM.len.out]; exact hj), List.getD_eq_getElem?_getD, hx]
    rfl
  · obtain ⟨j, hj⟩ := List.getElem?_of_mem hx
    have := hU j
    rw [List.getD_eq_getElem?_getD, hj] at this
    exact this
end
end Go.Proofs.Ytmljihggooaboaa
