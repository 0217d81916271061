/- QCm, ZWf. -/
import Derived.Test.YtmljihggooaboaaX15
import Derived.Test.YtmljihggooaboaaX16
import Derived.Test.YtmljihggooaboaaX20
import Derived.Test.YtmljihggooaboaaX21
import Derived.Test.YtmljihggooaboaaX28
import Derived.Test.YtmljihggooaboaaX49
import Derived.Test.YtmljihggooaboaaX22
import Derived.BigQuiet
import Derived.BigRegion
import Derived.ChangeKeysEq
import Derived.ChangeOld
import Derived.Deep.DeepCutAuto
import Derived.Deep.DrawnRows
import Derived.Deep.MidRow
import Derived.Deep.QuietTactic
import Derived.Deep.RegionHeld3
import Derived.Deep.RegionLaw
import Derived.Deep.RegionWith
import Derived.Deep.WholeRow
import Derived.DeepKeys3
import Derived.Great.BuildSlice
import Derived.Laws.AppendOwnNone
import Derived.Laws.BitsLemmas
import Derived.Laws.BytesArg
import Derived.Laws.CopyOwn
import Derived.Laws.Tables
import Derived.Lib.SlBytesConst
import Derived.Maps.AppendAt
import Derived.OpenShut
import Derived.ProofKit
import Derived.RangeFuncRecord
import Derived.ShutString
import Derived.SizedLaws
import Derived.WalkKit
import Derived.WalkLawsBesides
import Derived.WalkSpells
import Derived.Test.YtmljihggooaboaaX01
import Derived.Deep.OwnRows
import Derived.Great.FillDense
import Derived.Laws.OwnMore
import Derived.Laws.ResultCell
import Derived.LoopIn
import Derived.LoopNIn
import Derived.OwnWalkIn
import Derived.RangeFuncBound
import Derived.RangeFuncCalls
import Derived.RangeFuncLeaves
import Derived.RangeFuncNested
import Derived.Recover
import Derived.Shelf.Abstract
import Derived.Shelf.RegionOpen
import Derived.TacticsInMore
/- Layer interp: what the layers below give. -/
namespace Go.Proofs.Ytmljihggooaboaa
open Go.ChangeAt Go.ChangeShapes Go.RowKit Go.WideShapes
set_option maxRecDepth 100000
set_option linter.unusedVariables false
set_option linter.unusedSimpArgs false

theorem weights_all {H : Type} {P : Program} {e : TypeId} {l : List (DataW H)} {d : DataW H} (hd : d ∈ l) : ∀ n ∈ d.weights P e, n ∈ DataW.weightsAll P e l := by
  induction l with
  | nil => simp at hd
  | cons x r ih =>
    intro n hn
    rw [DataW.weightsAll]
    rcases List.mem_cons.1 hd with rfl | h
    · exact List.mem_append_left _ hn
    · exact List.mem_append_right _ (ih h n hn)
theorem cells38 : Try.prog.cellsOf 53 = 1 := by kernel_rfl
theorem cells54 : Try.prog.cellsOf 57 = 33 := by kernel_rfl
theorem bytes54 : Try.prog.bytesOf 57 = 56 := by kernel_rfl
section
variable {H : Type} {enc : TypeId × Value → H} {W : World} {base : Nat}

set_option maxRecDepth 100000 in
theorem bs_of_trod {fuel : Nat} {cs : List Value} {x : DataW H × List MemPlace} (h : DataW.trod enc Try.prog W base (fun _ => true) true fuel 53 cs = some x) (hs : Small 53 x.1) :
    ∃ sp n cap L, cs = [.slice sp n cap] ∧ BS W.heap.size W sp n cap L := by
  rcases open_ints Try.underlying53 Try.underlying5 (by kernel_rfl) h with ⟨rfl, _⟩ | ⟨a, len, cap, zs, rfl, _, hl, hm, hz, rfl, hcell, hwz⟩
  · exact ⟨none, 0, 0, [], rfl, BS.nil0 _ _⟩
  · have hz' : zs.length = cap := by simpa using hz
    have hr := hs ((zs.take len).length + (zs.drop len).length) (by simp [DataW.weights, Try.underlying53, bytes5, lits])
    simp only [List.length_take, List.length_drop, reachBytes] at hr
    refine ⟨some a, len, cap, zs.take len, rfl, ⟨show _ = _ by simp; omega, (fun e => by cases e), hl, by unfold maxLen at hm; omega, by omega, fun h0 => ?_, bts_wf fun y hy => hwz y (List.mem_of_mem_take hy)⟩⟩
    obtain ⟨b, off, rfl, hc⟩ := ints_at hcell (by omega)
    refine ⟨b, off, rfl, block_lt_of_cell (hc 0 (by omega)), fun t ht => ?_⟩
    rw [hc t (by omega)]
    simp [bat, List.getElem?_take_of_lt ht]
set_option maxRecDepth 100000 in
theorem en_of_trod (fuel : Nat) (cs : List Value) (x : DataW H × List MemPlace) (h : DataW.trod enc Try.prog W base (fun _ => true) true fuel 57 cs = some x) (hs : Small 57 x.1) :
    ∃ e : En, cs = e.cells ∧ EnOK W.heap.size W e := by
  obtain ⟨xs, n, rfl, rfl, hl, hxl, hf⟩ := DataW.trod_struct Try.underlying57 h
  rw [cells54] at hl
  simp at hxl
  match xs, hxl with
  | [x0, x1], _ =>
  have f0 := hf 0 _ rfl
  have f1 := hf 1 _ rfl
  simp [cells38, cells29] at f0 f1
  have s0 : Small 53 x0.1 := fun m hm => hs m (by simp [DataW.weights, Try.underlying57, DataW.weightsEach, hm])
  obtain ⟨sp, m, cap, L, e0, hB⟩ := bs_of_trod f0 s0
  obtain ⟨X, hX, -, e1⟩ := h_of_trod f1
  refine ⟨⟨sp, m, cap, L, X⟩, ?_, hB, hX⟩
  match cs, hl with
  | c :: r, hl =>
    simp at e0
    subst e0
    simp at e1 hl
    rw [List.take_of_length_le (by omega)] at e1
    rw [e1]; rfl
set_option maxRecDepth 100000 in
theorem es_of_trod {fuel : Nat} {cs : List Value} {x : DataW H × List MemPlace} (h : DataW.trod enc Try.prog W base (fun _ => true) true fuel 28 cs = some x) (hs : Small 28 x.1) :
    ∃ sq k cq es, cs = [.slice sq k cq] ∧ ES W.heap.size W sq k cq es := by
  rcases DataW.trod_slice Try.underlying28 h with ⟨rfl, -⟩ | ⟨a, len, cap, elems, rest, n, rfl, rfl, rfl, hb, hlc, hm, hlen, hel, hsp, -⟩
  · exact ⟨none, 0, 0, [], rfl, ES.nil0 _ _⟩
  · obtain ⟨hrl, -⟩ := hsp rfl
    have hr := hs ((elems.length + rest.length) * 56) (by simp [DataW.weights, Try.underlying28, bytes54])
    simp only [reachBytes] at hr
    have hw : ∀ e ∈ elems, Small 57 e.1 := fun e he m hm => hs m (by
      simp only [DataW.weights, Try.underlying28]
      exact List.mem_cons_of_mem _ (List.mem_append_left _ (weights_all (List.mem_map_of_mem he) m hm)))
    have hstep : ∀ i, i < len → ∃ g off, ∃ e : En, a.add (i * 33) = ⟨g, off, none⟩ ∧ W.rangeAt g off e.cells ∧ EnOK W.heap.size W e := fun i hi => by
      have h1 := hel i hi
      rw [cells54, List.getElem?_eq_getElem (by omega), Option.bind_eq_some_iff] at h1
      obtain ⟨cs, hcs, ht⟩ := h1
      obtain ⟨g, off, e, hR⟩ := cells_at (by omega) hcs
      obtain ⟨f, hf, ho⟩ := en_of_trod n cs _ ht (hw _ (List.getElem_mem _))
      subst hf
      exact ⟨g, off, f, e, hR, ho⟩
    by_cases h0 : 0 < len
    · obtain ⟨g, off, -, e, -⟩ := hstep 0 h0
      have ha : a = ⟨g, off, none⟩ := by simpa [Addr.add] using e
      subst ha
      obtain ⟨l, hl, hP⟩ := exists_list (P := fun i (f : En) => W.rangeAt g (off + i * 33) f.cells ∧ EnOK W.heap.size W f) len (fun i hi => by
        obtain ⟨g', off', f, e', h1, ho⟩ := hstep i hi
        rw [Addr.add_mid] at e'
        cases e'
        exact ⟨f, h1, ho⟩)
      refine ⟨some ⟨g, off, none⟩, len, cap, l, rfl, ⟨show _ = _ by simp [hl], (fun e => by cases e), hlc, by unfold maxLen at hm; omega, by omega, fun _ => ⟨g, off, rfl, ?_, fun i f hf => (hP i f hf).1⟩, fun f hf => ?_⟩⟩
      · obtain ⟨p, hp⟩ : ∃ p, l[0]? = some p := ⟨l[0], List.getElem?_eq_getElem (by omega)⟩
        exact block_lt_of_cell ((hP 0 p hp).1 0 _ rfl)
      · obtain ⟨i, hi⟩ := List.mem_iff_getElem?.1 hf
        exact (hP i f hi).2
    · obtain rfl : len = 0 := by omega
      exact ⟨some a, 0, cap, [], rfl, ⟨rfl, (fun e => by cases e), by omega, by unfold maxLen at hm; omega, by omega, fun h => by omega, fun f hf => by simp at hf⟩⟩
/-- ENTRIES THAT CAME IN. -/
theorem open_entries {b0 : Nat} {v : Value} {d : DataW H} {p : List MemPlace} {ts : List TypeId} {ds : List (DataW H)} {j : Nat}
    (hv : Value.okWide Try.prog W .any b0 28 v) (h : DataW.Trod enc Try.prog W base (fun _ => true) true 28 v d p)
    (hsz : (DataW.weightsEach Try.prog ts ds).all (· ≤ reachBytes) = true) (ht : ts[j]? = some 28) (hd : ds[j]? = some d) :
    ∃ sq k cq es, v = .slice sq k cq ∧ ES W.heap.size W sq k cq es := by
  obtain ⟨a0, len0, cap0, rfl⟩ := okWide_slice Try.underlying28 hv
  obtain ⟨fuel, hf⟩ := h
  have hs : Small 28 d := fun n hn => by
    have := List.all_eq_true.1 hsz n (DataW.weights_mem_each ht hd n hn)
    simpa using this
  obtain ⟨sq, k, cq, fs, e, hi⟩ := es_of_trod (x := (d, p)) hf hs
  simp [Value.cells] at e
  obtain ⟨rfl, rfl, rfl⟩ := e
  exact ⟨_, _, _, fs, rfl, hi⟩
end
end Go.Proofs.Ytmljihggooaboaa
/- Layer interp: what the layers below give. -/
namespace Go.Proofs.Ytmljihggooaboaa
open Go.ChangeAt Go.ChangeShapes Go.RowKit Go.WideShapes
set_option maxRecDepth 100000
set_option linter.unusedVariables false
set_option linter.unusedSimpArgs false

theorem u64_wfV {z : Int} (h : (Lit.int .u64 z).wf = true) : U64 z := by
  have h1 : IntKind.u64.min = 0 := rfl
  have h2 : IntKind.u64.max = 18446744073709551615 := rfl
  simp only [Lit.wf, Bool.and_eq_true, decide_eq_true_eq] at h
  unfold U64
  omega
theorem getD_u {L : List Int} (h : ∀ y ∈ L, U64 y) (k : Nat) : U64 (L.getD k 0) := by
  rw [List.getD_eq_getElem?_getD]
  by_cases hk : k < L.length
  · rw [List.getElem?_eq_getElem hk]; exact h _ (List.getElem_mem hk)
  · rw [List.getElem?_eq_none (by omega)]; simp [U64]
theorem bytes26 : Try.prog.bytesOf 30 = 8 := by kernel_rfl
section
variable {H : Type} {enc : TypeId × Value → H} {W : World} {base : Nat}
theorem ws_of_trod {fuel : Nat} {cs : List Value} {x : DataW H × List MemPlace} (h : DataW.trod enc Try.prog W base (fun _ => true) true fuel 25 cs = some x) (hs : Small 25 x.1) :
    ∃ sp n cap L, cs = [.slice sp n cap] ∧ MS W.heap.size W sp n cap L ∧ ∀ k, U64 (L.getD k 0) := by
  rcases open_ints Try.underlying25 Try.underlying30 (by kernel_rfl) h with ⟨rfl, _⟩ | ⟨a, len, cap, zs, rfl, _, hl, hm, hz, rfl, hcell, hwz⟩
  · exact ⟨none, 0, 0, [], rfl, MS.nil0 _ _, fun k => by simp [U64]⟩
  · have hz' : zs.length = cap := by simpa using hz
    have hr := hs (((zs.take len).length + (zs.drop len).length) * 8) (by simp [DataW.weights, Try.underlying25, bytes26, lits])
    simp only [List.length_take, List.length_drop, reachBytes] at hr
    refine ⟨some a, len, cap, zs.take len, rfl, ⟨show _ = _ by simp; omega, (fun e => by cases e), hl, by unfold maxLen at hm; omega, by omega, fun h0 => ?_⟩, getD_u fun y hy => u64_wfV (hwz y (List.mem_of_mem_take hy))⟩
    obtain ⟨b, off, rfl, hc⟩ := ints_at hcell (by omega)
    refine ⟨b, off, rfl, block_lt_of_cell (hc 0 (by omega)), fun t ht => ?_⟩
    rw [hc t (by omega)]
    simp [List.getElem?_take_of_lt ht]
end
end Go.Proofs.Ytmljihggooaboaa
