/- Tp, Cm, Wf. -/
import Derived.Test.YtgdmgogjoabilaaX03
import Derived.Test.YtgdmgogjoabilaaX06
import Derived.Test.YtgdmgogjoabilaaX13
import Derived.BigQuiet
import Derived.BigRegion
import Derived.ChangeKeysEq
import Derived.ChangeOld
import Derived.Deep.DeepCutAuto
import Derived.Deep.DrawnRows
import Derived.Deep.QuietTactic
import Derived.Deep.RegionHeld3
import Derived.Deep.RegionLaw
import Derived.Deep.RegionWith
import Derived.Deep.WholeRow
import Derived.Laws.AppendOwnNone
import Derived.Laws.BytesArg
import Derived.Laws.CopyOwn
import Derived.Lib.SlBytesConst
import Derived.OpenShut
import Derived.ProofKit
import Derived.ShutString
import Derived.SizedLaws
import Derived.WalkKit
import Derived.WalkLawsBesides
import Derived.WalkSpells
import Derived.Deep.MidRow
import Derived.DeepKeys3
import Derived.Great.BuildSlice
import Derived.Laws.BitsLemmas
import Derived.Laws.Tables
import Derived.Maps.AppendAt
import Derived.RangeFuncRecord
import Derived.Test.YtgdmgogjoabilaaX34
/- Layer vm: what the layers below give. -/
namespace Go.Proofs.Ytgdmgogjoabilaa
open Go.ChangeAt Go.ChangeShapes Go.RowKit Go.WideShapes
set_option maxRecDepth 100000
set_option linter.unusedVariables false
set_option linter.unusedSimpArgs false

theorem own : ownKnob Try.prog.godebug = none := by kernel_rfl
theorem laidOut : laidOutB Try.prog = true := by kernel_rfl
theorem bytes5 : Try.prog.bytesOf 5 = 1 := by kernel_rfl
/-- AN ARRAY OF INTEGERS BY VALUE. -/
theorem open_arr {H : Type} {enc : TypeId × Value → H} {P : Program} {w : World} {base : Nat} {spare : Nat → Bool} {held : Bool} {r : Reach} {b0 : Nat} {t e n : Nat} {k : IntKind} {v : Value} {d : DataW H} {p : List MemPlace} (hu : P.underlying t = some (.array n e)) (he : P.underlying e = some (.int k)) (hc : P.cellsOf t = n) (hce : P.cellsOf e = 1)
    (hv : Value.okWide P w r b0 t v) (h : DataW.Trod enc P w base spare held t v d p) :
    ∃ X : List Int, X.length = n ∧ v = .agg (X.map (Value.int k)).toArray ∧ ∀ x ∈ X, (Lit.int k x).wf = true := by
  unfold Value.okWide at hv
  rw [hu] at hv
  obtain ⟨cs, rfl, hsz, -⟩ := hv
  obtain ⟨fuel, hf⟩ := h
  obtain ⟨xs, m, -, hx, hl, hxs, hi⟩ := DataW.trod_array hu hf
  have key : ∀ i, i < n → ∃ z, cs[i]? = some (.int k z) ∧ (Lit.int k z).wf = true := fun i hin => by
    have := hi i hin
    rw [List.getElem?_eq_getElem (by omega), hce] at this
    obtain ⟨z, hz, -, hwf⟩ := DataW.trod_int he this
    refine ⟨z, ?_, hwf⟩
    simp only [Value.cells, Nat.mul_one] at hz
    have h2 : (List.take 1 (List.drop i cs.toList))[0]? = some (.int k z) := by rw [hz]; rfl
    simpa using h2
  refine ⟨cs.toList.map fun v => match v with | .int _ z => z | _ => 0, by simp; omega, ?_, ?_⟩
  · congr 1
    apply Array.ext_getElem?
    intro i
    by_cases hin : i < n
    · obtain ⟨z, hz, -⟩ := key i hin
      simp [hz]
    · rw [Array.getElem?_eq_none (by omega), Array.getElem?_eq_none (by simp; omega)]
  · intro x hx
    obtain ⟨v, hv, rfl⟩ := List.mem_map.1 hx
    obtain ⟨i, hin, rfl⟩ := List.mem_iff_getElem.1 hv
    obtain ⟨z, hz, hwf⟩ := key i (by simp at hin; omega)
    have : cs.toList[i]? = some (.int k z) := by simpa using hz
    rw [List.getElem?_eq_getElem hin] at this
    rw [Option.some.inj this]; exact hwf
/-- A SLICE OF BYTES THAT CAME IN. -/
theorem open_bytes {H : Type} {enc : TypeId × Value → H} {W : World} {base : Nat} {b0 : Nat} {v : Value} {d : DataW H} {p : List MemPlace} {ts : List TypeId} {ds : List (DataW H)} {j : Nat}
    (hv : Value.okWide Try.prog W .any b0 34 v) (h : DataW.Trod enc Try.prog W base (fun _ => true) true 34 v d p)
    (hsz : (DataW.weightsEach Try.prog ts ds).all (· ≤ reachBytes) = true) (ht : ts[j]? = some 34) (hd : ds[j]? = some d) :
    ∃ (sp : Option Addr) (n cap : Nat) (L : List Int), v = .slice sp n cap ∧ n = L.length ∧ (sp = none → n = 0 ∧ cap = 0) ∧ SlL W sp L ∧ n ≤ cap ∧ cap ≤ 140737488351232 ∧ ∀ x ∈ L, (Lit.int .u8 x).wf = true := by
  obtain ⟨a0, len0, cap0, rfl⟩ := okWide_slice Try.underlying34 hv
  obtain ⟨fuel, hf⟩ := h
  rcases open_ints Try.underlying34 Try.underlying5 (by kernel_rfl) hf with ⟨hcs, _⟩ | ⟨x, l, c, zs, hcs, _, hl, hm, hz, hx, hcell, hwz⟩
  · simp [Value.cells] at hcs
    obtain ⟨rfl, rfl, rfl⟩ := hcs
    exact ⟨none, 0, 0, [], rfl, rfl, fun _ => ⟨rfl, rfl⟩, fun h => absurd h (by simp), Nat.le_refl _, by omega, by simp⟩
  · simp [Value.cells] at hcs
    obtain ⟨rfl, rfl, rfl⟩ := hcs
    have hz' : zs.length = cap0 := by simpa using hz
    have hd' : d = .slice (lits .u8 (zs.take len0)) (lits .u8 (zs.drop len0)) := (Prod.ext_iff.1 hx).1
    subst hd'
    have hr := sized_slice hsz ht hd Try.underlying34
    rw [bytes5] at hr
    simp only [lits, List.length_map, List.length_take, List.length_drop, reachBytes] at hr
    refine ⟨some x, len0, cap0, zs.take len0, rfl, by simp; omega, (fun h => by cases h), ?_, hl, by omega, fun y hy => hwz y (List.mem_of_mem_take hy)⟩
    intro h0
    have h0' : 0 < zs.length := by simp at h0; omega
    obtain ⟨b, off, rfl, hc⟩ := ints_at hcell h0'
    refine ⟨b, off, rfl, fun t ht => ?_⟩
    have htl : t < len0 := by simp at ht; omega
    rw [hc t (by omega)]
    simp [bat, List.getElem?_take_of_lt htl]
end Go.Proofs.Ytgdmgogjoabilaa
/- Layer vm: what the layers below give. -/
namespace Go.Proofs.Ytgdmgogjoabilaa
open Go.ChangeAt Go.ChangeShapes Go.RowKit Go.WideShapes
set_option maxRecDepth 100000
set_option linter.unusedVariables false
set_option linter.unusedSimpArgs false

theorem exists_list {α : Type} {P : Nat → α → Prop} : ∀ (n : Nat), (∀ i, i < n → ∃ a, P i a) → ∃ l : List α, l.length = n ∧ ∀ i a, l[i]? = some a → P i a
  | 0, _ => ⟨[], rfl, fun i a h => by simp at h⟩
  | n + 1, h => by
    obtain ⟨l, hl, hP⟩ := exists_list n (fun i hi => h i (by omega))
    obtain ⟨a, ha⟩ := h n (by omega)
    refine ⟨l ++ [a], by simp [hl], fun i b hb => ?_⟩
    by_cases hi : i < n
    · rw [List.getElem?_append_left (by omega)] at hb; exact hP i b hb
    · rw [List.getElem?_append_right (by omega)] at hb
      have : i - l.length = 0 := by have := (List.getElem?_eq_some_iff.1 hb).1; simp at this; omega
      rw [this] at hb
      simp at hb
      subst hb
      obtain rfl : i = n := by omega
      exact ha
theorem weights_all {H : Type} {P : Program} {e : TypeId} {l : List (DataW H)} {d : DataW H} (hd : d ∈ l) : ∀ n ∈ d.weights P e, n ∈ DataW.weightsAll P e l := by
  induction l with
  | nil => simp at hd
  | cons x r ih =>
    intro n hn
    rw [DataW.weightsAll]
    rcases List.mem_cons.1 hd with rfl | h
    · exact List.mem_append_left _ hn
    · exact List.mem_append_right _ (ih h n hn)
/-- Nothing in it is greater than the reach. -/
def Small {H : Type} (t : TypeId) (d : DataW H) : Prop := ∀ n ∈ d.weights Try.prog t, n ≤ reachBytes
theorem bts_wf {L : List Int} (h : ∀ x ∈ L, (Lit.int .u8 x).wf = true) : Bts L := fun x hx => by
  have h1 := h x hx
  have hmin : IntKind.u8.min = 0 := rfl
  have hmax : IntKind.u8.max = 255 := rfl
  simp only [Lit.wf, Bool.and_eq_true, decide_eq_true_eq] at h1
  omega
theorem cells5 : Try.prog.cellsOf 5 = 1 := by kernel_rfl
theorem cells29 : Try.prog.cellsOf 31 = 32 := by kernel_rfl
theorem cells38 : Try.prog.cellsOf 34 = 1 := by kernel_rfl
theorem cells54 : Try.prog.cellsOf 71 = 33 := by kernel_rfl
theorem bytes54 : Try.prog.bytesOf 71 = 56 := by kernel_rfl
section
variable {H : Type} {enc : TypeId × Value → H} {W : World} {base : Nat}

set_option maxRecDepth 100000 in
theorem bs_of_trod {fuel : Nat} {cs : List Value} {x : DataW H × List MemPlace} (h : DataW.trod enc Try.prog W base (fun _ => true) true fuel 34 cs = some x) (hs : Small 34 x.1) :
    ∃ sp n cap L, cs = [.slice sp n cap] ∧ BS W.heap.size W sp n cap L := by
  rcases open_ints Try.underlying34 Try.underlying5 (by kernel_rfl) h with ⟨rfl, _⟩ | ⟨a, len, cap, zs, rfl, _, hl, hm, hz, rfl, hcell, hwz⟩
  · exact ⟨none, 0, 0, [], rfl, BS.nil0 _ _⟩
  · have hz' : zs.length = cap := by simpa using hz
    have hr := hs ((zs.take len).length + (zs.drop len).length) (by simp [DataW.weights, Try.underlying34, bytes5, lits])
    simp only [List.length_take, List.length_drop, reachBytes] at hr
    refine ⟨some a, len, cap, zs.take len, rfl, ⟨show _ = _ by simp; omega, (fun e => by cases e), hl, by unfold maxLen at hm; omega, by omega, fun h0 => ?_, bts_wf fun y hy => hwz y (List.mem_of_mem_take hy)⟩⟩
    obtain ⟨b, off, rfl, hc⟩ := ints_at hcell (by omega)
    refine ⟨b, off, rfl, block_lt_of_cell (hc 0 (by omega)), fun t ht => ?_⟩
    rw [hc t (by omega)]
    simp [bat, List.getElem?_take_of_lt ht]
theorem h_of_trod {fuel : Nat} {cs : List Value} {x : DataW H × List MemPlace} (h : DataW.trod enc Try.prog W base (fun _ => true) true fuel 31 cs = some x) : ∃ X : List Int, X.length = 32 ∧ Bts X ∧ cs = by8 X := by
  obtain ⟨xs, m, -, hx, hl, hxs, hi⟩ := DataW.trod_array Try.underlying31 h
  rw [cells29] at hl
  have key : ∀ i, i < 32 → ∃ z, cs[i]? = some (.int .u8 z) ∧ (Lit.int .u8 z).wf = true := fun i hin => by
    have := hi i hin
    rw [List.getElem?_eq_getElem (by omega), cells5] at this
    obtain ⟨z, hz, -, hw⟩ := DataW.trod_int Try.underlying5 this
    refine ⟨z, ?_, hw⟩
    simp only [Nat.mul_one] at hz
    have h2 : (List.take 1 (List.drop i cs))[0]? = some (.int .u8 z) := by rw [hz]; rfl
    simpa using h2
  refine ⟨cs.map fun v => match v with | .int _ z => z | _ => 0, by simp [hl], bts_wf fun y hy => ?_, ?_⟩
  · obtain ⟨v, hv, rfl⟩ := List.mem_map.1 hy
    obtain ⟨i, hin, rfl⟩ := List.mem_iff_getElem.1 hv
    obtain ⟨z, hz, hw⟩ := key i (by omega)
    rw [List.getElem?_eq_getElem hin] at hz
    rw [Option.some.inj hz]; exact hw
  · apply List.ext_getElem?
    intro i
    by_cases hin : i < 32
    · obtain ⟨z, hz, -⟩ := key i hin
      simp [by8, hz]
    · rw [List.getElem?_eq_none (by omega), List.getElem?_eq_none (by rw [by8_len]; simp; omega)]
/-- The cells at an address. -/
theorem cells_at {a : Addr} {k : Nat} {cs : List Value} (hk : 0 < k) (h : W.cells? base a k = some cs) : ∃ b off, a = ⟨b, off, none⟩ ∧ W.rangeAt b off cs := by
  obtain ⟨-, hl, hc⟩ := World.cells?_some h
  have h0 := hc 0 hk
  have h0' : ∃ v, cs[0]? = some v := by
    cases cs with
    | nil => simp at hl; omega
    | cons x r => exact ⟨x, rfl⟩
  obtain ⟨v0, hv0⟩ := h0'
  rw [hv0] at h0
  obtain ⟨b, off, spot⟩ := a
  have hspot : spot = none := by simpa [Addr.add] using World.cell?_spot h0
  subst hspot
  refine ⟨b, off, rfl, fun j v hv => ?_⟩
  have hj : j < k := by have := (List.getElem?_eq_some_iff.1 hv).1; omega
  have := hc j hj
  rw [Addr.add_mid] at this
  rw [this]; exact hv
set_option maxRecDepth 100000 in
theorem en_of_trod (fuel : Nat) (cs : List Value) (x : DataW H × List MemPlace) (h : DataW.trod enc Try.prog W base (fun _ => true) true fuel 71 cs = some x) (hs : Small 71 x.1) :
    ∃ e : En, cs = e.cells ∧ EnOK W.heap.size W e := by
  obtain ⟨xs, n, rfl, rfl, hl, hxl, hf⟩ := DataW.trod_struct Try.underlying71 h
  rw [cells54] at hl
  simp at hxl
  match xs, hxl with
  | [x0, x1], _ =>
  have f0 := hf 0 _ rfl
  have f1 := hf 1 _ rfl
  simp [cells38, cells29] at f0 f1
  have s0 : Small 34 x0.1 := fun m hm => hs m (by simp [DataW.weights, Try.underlying71, DataW.weightsEach, hm])
  obtain ⟨sp, m, cap, L, e0, hB⟩ := bs_of_trod f0 s0
  obtain ⟨X, hX, -, e1⟩ := h_of_trod f1
  refine ⟨⟨sp, m, cap, L, X⟩, ?_, hB, hX⟩
  match cs, hl with
  | c :: r, hl =>
    simp at e0
    subst e0
    simp at e1 hl
    rw [List.take_of_length_le (by omega)] at e1
    rw [e1]; rfl
set_option maxRecDepth 100000 in
theorem es_of_trod {fuel : Nat} {cs : List Value} {x : DataW H × List MemPlace} (h : DataW.trod enc Try.prog W base (fun _ => true) true fuel 29 cs = some x) (hs : Small 29 x.1) :
    ∃ sq k cq es, cs = [.slice sq k cq] ∧ ES W.heap.size W sq k cq es := by
  rcases DataW.trod_slice Try.underlying29 h with ⟨rfl, -⟩ | ⟨a, len, cap, elems, rest, n, rfl, rfl, rfl, hb, hlc, hm, hlen, hel, hsp, -⟩
  · exact ⟨none, 0, 0, [], rfl, ES.nil0 _ _⟩
  · obtain ⟨hrl, -⟩ := hsp rfl
    have hr := hs ((elems.length + rest.length) * 56) (by simp [DataW.weights, Try.underlying29, bytes54])
    simp only [reachBytes] at hr
    have hw : ∀ e ∈ elems, Small 71 e.1 := fun e he m hm => hs m (by
      simp only [DataW.weights, Try.underlying29]
      exact List.mem_cons_of_mem _ (List.mem_append_left _ (weights_all (List.mem_map_of_mem he) m hm)))
    have hstep : ∀ i, i < len → ∃ g off, ∃ e : En, a.add (i * 33) = ⟨g, off, none⟩ ∧ W.rangeAt g off e.cells ∧ EnOK W.heap.size W e := fun i hi => by
      have h1 := hel i hi
      rw [cells54, List.getElem?_eq_getElem (by omega), Option.bind_eq_some_iff] at h1
      obtain ⟨cs, hcs, ht⟩ := h1
      obtain ⟨g, off, e, hR⟩ := cells_at (by omega) hcs
      obtain ⟨f, hf, ho⟩ := en_of_trod n cs _ ht (hw _ (List.getElem_mem _))
      subst hf
      exact ⟨g, off, f, e, hR, ho⟩
    by_cases h0 : 0 < len
    · obtain ⟨g, off, -, e, -⟩ := hstep 0 h0
      have ha : a = ⟨g, off, none⟩ := by simpa [Addr.add] using e
      subst ha
      obtain ⟨l, hl, hP⟩ := exists_list (P := fun i (f : En) => W.rangeAt g (off + i * 33) f.cells ∧ EnOK W.heap.size W f) len (fun i hi => by
        obtain ⟨g', off', f, e', h1, ho⟩ := hstep i hi
        rw [Addr.add_mid] at e'
        cases e'
        exact ⟨f, h1, ho⟩)
      refine ⟨some ⟨g, off, none⟩, len, cap, l, rfl, ⟨show _ = _ by simp [hl], (fun e => by cases e), hlc, by unfold maxLen at hm; omega, by omega, fun _ => ⟨g, off, rfl, ?_, fun i f hf => (hP i f hf).1⟩, fun f hf => ?_⟩⟩
      · obtain ⟨p, hp⟩ : ∃ p, l[0]? = some p := ⟨l[0], List.getElem?_eq_getElem (by omega)⟩
        exact block_lt_of_cell ((hP 0 p hp).1 0 _ rfl)
      · obtain ⟨i, hi⟩ := List.mem_iff_getElem?.1 hf
        exact (hP i f hi).2
    · obtain rfl : len = 0 := by omega
      exact ⟨some a, 0, cap, [], rfl, ⟨rfl, (fun e => by cases e), by omega, by unfold maxLen at hm; omega, by omega, fun h => by omega, fun f hf => by simp at hf⟩⟩
/-- ENTRIES THAT CAME IN. -/
theorem open_entries {b0 : Nat} {v : Value} {d : DataW H} {p : List MemPlace} {ts : List TypeId} {ds : List (DataW H)} {j : Nat}
    (hv : Value.okWide Try.prog W .any b0 29 v) (h : DataW.Trod enc Try.prog W base (fun _ => true) true 29 v d p)
    (hsz : (DataW.weightsEach Try.prog ts ds).all (· ≤ reachBytes) = true) (ht : ts[j]? = some 29) (hd : ds[j]? = some d) :
    ∃ sq k cq es, v = .slice sq k cq ∧ ES W.heap.size W sq k cq es := by
  obtain ⟨a0, len0, cap0, rfl⟩ := okWide_slice Try.underlying29 hv
  obtain ⟨fuel, hf⟩ := h
  have hs : Small 29 d := fun n hn => by
    have := List.all_eq_true.1 hsz n (DataW.weights_mem_each ht hd n hn)
    simpa using this
  obtain ⟨sq, k, cq, fs, e, hi⟩ := es_of_trod (x := (d, p)) hf hs
  simp [Value.cells] at e
  obtain ⟨rfl, rfl, rfl⟩ := e
  exact ⟨_, _, _, fs, rfl, hi⟩
end
end Go.Proofs.Ytgdmgogjoabilaa
/- Layer vm: what came in. -/
namespace Go.Proofs.Ytgdmgogjoabilaa
open Go.RowKit
set_option maxRecDepth 100000
set_option linter.unusedVariables false
set_option linter.unusedSimpArgs false

open Go.ChangeAt Go.ChangeShapes Go.RowKit Go.WideShapes
theorem u64_wf {z : Int} (h : (Lit.int .u64 z).wf = true) : U64 z := by
  have h1 : IntKind.u64.min = 0 := rfl
  have h2 : IntKind.u64.max = 18446744073709551615 := rfl
  simp only [Lit.wf, Bool.and_eq_true, decide_eq_true_eq] at h
  unfold U64
  omega
theorem u8_wf {z : Int} (h : (Lit.int .u8 z).wf = true) : 0 ≤ z ∧ z < 256 := by
  have h1 : IntKind.u8.min = 0 := rfl
  have h2 : IntKind.u8.max = 255 := rfl
  simp only [Lit.wf, Bool.and_eq_true, decide_eq_true_eq] at h
  omega
theorem u32_wf {z : Int} (h : (Lit.int .u32 z).wf = true) : 0 ≤ z ∧ z < 4294967296 := by
  have h1 : IntKind.u32.min = 0 := rfl
  have h2 : IntKind.u32.max = 4294967295 := rfl
  simp only [Lit.wf, Bool.and_eq_true, decide_eq_true_eq] at h
  omega
theorem getD_u {L : List Int} (h : ∀ y ∈ L, U64 y) (k : Nat) : U64 (L.getD k 0) := by
  rw [List.getD_eq_getElem?_getD]
  by_cases hk : k < L.length
  · rw [List.getElem?_eq_getElem hk]; exact h _ (List.getElem_mem hk)
  · rw [List.getElem?_eq_none (by omega)]; simp [U64]
theorem bytes26 : Try.prog.bytesOf 26 = 8 := by kernel_rfl
theorem cells26 : Try.prog.cellsOf 26 = 1 := by kernel_rfl
theorem cells22 : Try.prog.cellsOf 22 = 1 := by kernel_rfl
theorem cells23 : Try.prog.cellsOf 23 = 1 := by kernel_rfl
theorem cells41 : Try.prog.cellsOf 41 = 16 := by kernel_rfl
theorem cells42 : Try.prog.cellsOf 42 = 1 := by kernel_rfl
theorem cells43 : Try.prog.cellsOf 43 = 1 := by kernel_rfl
theorem cells45 : Try.prog.cellsOf 45 = 19 := by kernel_rfl
theorem cells25 : Try.prog.cellsOf 25 = 5 := by kernel_rfl
theorem bytes25 : Try.prog.bytesOf 25 = 8 := by kernel_rfl
section
variable {H : Type} {enc : TypeId × Value → H} {W : World} {base : Nat}
theorem ws_of_trod {fuel : Nat} {cs : List Value} {x : DataW H × List MemPlace} (h : DataW.trod enc Try.prog W base (fun _ => true) true fuel 43 cs = some x) (hs : Small 43 x.1) :
    ∃ sp n cap L, cs = [.slice sp n cap] ∧ MS W.heap.size W sp n cap L ∧ ∀ k, U64 (L.getD k 0) := by
  rcases open_ints Try.underlying43 Try.underlying26 (by kernel_rfl) h with ⟨rfl, _⟩ | ⟨a, len, cap, zs, rfl, _, hl, hm, hz, rfl, hcell, hwz⟩
  · exact ⟨none, 0, 0, [], rfl, MS.nil0 _ _, fun k => by simp [U64]⟩
  · have hz' : zs.length = cap := by simpa using hz
    have hr := hs (((zs.take len).length + (zs.drop len).length) * 8) (by simp [DataW.weights, Try.underlying43, bytes26, lits])
    simp only [List.length_take, List.length_drop, reachBytes] at hr
    refine ⟨some a, len, cap, zs.take len, rfl, ⟨show _ = _ by simp; omega, (fun e => by cases e), hl, by unfold maxLen at hm; omega, by omega, fun h0 => ?_⟩, getD_u fun y hy => u64_wf (hwz y (List.mem_of_mem_take hy))⟩
    obtain ⟨b, off, rfl, hc⟩ := ints_at hcell (by omega)
    refine ⟨b, off, rfl, block_lt_of_cell (hc 0 (by omega)), fun t ht => ?_⟩
    rw [hc t (by omega)]
    simp [List.getElem?_take_of_lt ht]
theorem rg_of_trod {fuel : Nat} {cs : List Value} {x : DataW H × List MemPlace} (h : DataW.trod enc Try.prog W base (fun _ => true) true fuel 41 cs = some x) : ∃ X : List Int, X.length = 16 ∧ (∀ y ∈ X, U64 y) ∧ cs = by64 X := by
  obtain ⟨xs, m, -, hx, hl, hxs, hi⟩ := DataW.trod_array Try.underlying41 h
  rw [cells41] at hl
  have key : ∀ i, i < 16 → ∃ z, cs[i]? = some (.int .u64 z) ∧ (Lit.int .u64 z).wf = true := fun i hin => by
    have := hi i hin
    rw [List.getElem?_eq_getElem (by omega), cells26] at this
    obtain ⟨z, hz, -, hw⟩ := DataW.trod_int Try.underlying26 this
    refine ⟨z, ?_, hw⟩
    simp only [Nat.mul_one] at hz
    have h2 : (List.take 1 (List.drop i cs))[0]? = some (.int .u64 z) := by rw [hz]; rfl
    simpa using h2
  refine ⟨cs.map fun v => match v with | .int _ z => z | _ => 0, by simp [hl], fun y hy => ?_, ?_⟩
  · obtain ⟨v, hv, rfl⟩ := List.mem_map.1 hy
    obtain ⟨i, hin, rfl⟩ := List.mem_iff_getElem.1 hv
    obtain ⟨z, hz, hw⟩ := key i (by omega)
    rw [List.getElem?_eq_getElem hin] at hz
    rw [Option.some.inj hz]; exact u64_wf hw
  · apply List.ext_getElem?
    intro i
    by_cases hin : i < 16
    · obtain ⟨z, hz, -⟩ := key i hin
      simp [by64, hz]
    · rw [List.getElem?_eq_none (by omega), List.getElem?_eq_none (by rw [by64_len]; simp; omega)]
theorem list_parts {cs : List Value} (hl : cs.length = 19) : cs = List.take 1 cs ++ (List.take 16 (List.drop 1 cs) ++ (List.take 1 (List.drop 17 cs) ++ List.take 1 (List.drop 18 cs))) := by
  rw [List.take_of_length_le (l := List.drop 18 cs) (by rw [List.length_drop]; omega), show List.drop 18 cs = List.drop 1 (List.drop 17 cs) by rw [List.drop_drop], List.take_append_drop, show List.drop 17 cs = List.drop 16 (List.drop 1 cs) by rw [List.drop_drop], List.take_append_drop, List.take_append_drop]
set_option maxRecDepth 100000 in
theorem mc_of_trod {fuel : Nat} {cs : List Value} {x : DataW H × List MemPlace} (h : DataW.trod enc Try.prog W base (fun _ => true) true fuel 45 cs = some x) (hs : Small 45 x.1) :
    ∃ m sp n cap, cs = mcL m (.slice sp n cap) ∧ m.ok ∧ MS W.heap.size W sp n cap m.me := by
  obtain ⟨xs, n, rfl, rfl, hl, hxl, hf⟩ := DataW.trod_struct Try.underlying45 h
  rw [cells45] at hl
  simp at hxl
  match xs, hxl with
  | [x0, x1, x2, x3], _ =>
  have f0 := hf 0 _ rfl
  have f1 := hf 1 _ rfl
  have f2 := hf 2 _ rfl
  have f3 := hf 3 _ rfl
  simp [cells26, cells41, cells42, cells43] at f0 f1 f2 f3
  have s3 : Small 43 x3.1 := fun m hm => hs m (by simp [DataW.weights, Try.underlying45, DataW.weightsEach, hm])
  obtain ⟨pc, e0, -, w0⟩ := DataW.trod_int Try.underlying26 f0
  obtain ⟨X, hX, hU, e1⟩ := rg_of_trod f1
  obtain ⟨st, e2, -, w2⟩ := DataW.trod_int Try.underlying42 f2
  obtain ⟨sp, k, cap, L, e3, hM, hUm⟩ := ws_of_trod f3 s3
  refine ⟨⟨pc, X, st, L⟩, sp, k, cap, ?_, ⟨u64_wf w0, hX, getD_u hU, u8_wf w2, hUm⟩, hM⟩
  rw [list_parts hl, e0, List.drop_one, e1, e2, e3]
  rfl
/-- A MACHINE THAT CAME IN. -/
theorem open_machine {b0 : Nat} {v : Value} {d : DataW H} {p : List MemPlace} {ts : List TypeId} {ds : List (DataW H)} {j : Nat}
    (hv : Value.okWide Try.prog W .any b0 45 v) (h : DataW.Trod enc Try.prog W base (fun _ => true) true 45 v d p)
    (hsz : (DataW.weightsEach Try.prog ts ds).all (· ≤ reachBytes) = true) (ht : ts[j]? = some 45) (hd : ds[j]? = some d) :
    ∃ m C, v = .agg C ∧ MV W m C := by
  unfold Value.okWide at hv
  rw [Try.underlying45] at hv
  obtain ⟨cs, rfl, hc, -⟩ := hv
  obtain ⟨fuel, hf⟩ := h
  have hs : Small 45 d := fun n hn => by
    have := List.all_eq_true.1 hsz n (DataW.weights_mem_each ht hd n hn)
    simpa using this
  obtain ⟨m, sp, n, cap, e, hok, hM⟩ := mc_of_trod (x := (d, p)) hf hs
  refine ⟨m, cs, rfl, ⟨sp, n, cap, ?_, hM⟩, hok⟩
  apply Array.toList_inj.1
  exact e
set_option maxRecDepth 100000 in
theorem cd_of_trod {fuel : Nat} {cs : List Value} {x : DataW H × List MemPlace} (h : DataW.trod enc Try.prog W base (fun _ => true) true fuel 25 cs = some x) :
    ∃ c : Cd, cs = c.arr.toList ∧ c.ok := by
  obtain ⟨xs, n, rfl, rfl, hl, hxl, hf⟩ := DataW.trod_struct Try.underlying25 h
  rw [cells25] at hl
  simp at hxl
  match xs, hxl with
  | [x0, x1, x2, x3, x4], _ =>
  have f0 := hf 0 _ rfl
  have f1 := hf 1 _ rfl
  have f2 := hf 2 _ rfl
  have f3 := hf 3 _ rfl
  have f4 := hf 4 _ rfl
  simp [cells22, cells5, cells23] at f0 f1 f2 f3 f4
  obtain ⟨o, e0, -, w0⟩ := DataW.trod_int Try.underlying22 f0
  obtain ⟨a, e1, -, w1⟩ := DataW.trod_int Try.underlying5 f1
  obtain ⟨b, e2, -, w2⟩ := DataW.trod_int Try.underlying5 f2
  obtain ⟨c, e3, -, w3⟩ := DataW.trod_int Try.underlying5 f3
  obtain ⟨i, e4, -, w4⟩ := DataW.trod_int Try.underlying23 f4
  refine ⟨⟨o, a, b, c, i⟩, ?_, u8_wf w0, u8_wf w1, u8_wf w2, u8_wf w3, u32_wf w4⟩
  match cs, hl with
  | [c0, c1, c2, c3, c4], _ =>
    simp at e0 e1 e2 e3 e4
    subst e0 e1 e2 e3 e4
    rfl
/-- AN INSTRUCTION THAT CAME IN. -/
theorem open_code {b0 : Nat} {v : Value} {d : DataW H} {p : List MemPlace}
    (hv : Value.okWide Try.prog W .any b0 25 v) (h : DataW.Trod enc Try.prog W base (fun _ => true) true 25 v d p) :
    ∃ c : Cd, v = .agg c.arr ∧ c.ok := by
  unfold Value.okWide at hv
  rw [Try.underlying25] at hv
  obtain ⟨cs, rfl, hc, -⟩ := hv
  obtain ⟨fuel, hf⟩ := h
  obtain ⟨c, e, hok⟩ := cd_of_trod hf
  refine ⟨c, ?_, hok⟩
  congr 1
  apply Array.toList_inj.1
  exact e
end
end Go.Proofs.Ytgdmgogjoabilaa
