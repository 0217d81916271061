/- Nb, Qi, Fa, Sq, Fb. -/
import Derived.Test.YtbhhbkoikocjgaaX04
import Derived.Test.YtbhhbkoikocjgaaX14
import Derived.Test.YtbhhbkoikocjgaaX02
import Derived.Test.YtbhhbkoikocjgaaX05
import Derived.Test.YtbhhbkoikocjgaaX06
import Derived.Test.YtbhhbkoikocjgaaX07
import Derived.BigQuiet
import Derived.BigRegion
import Derived.ChangeKeysEq
import Derived.ChangeOld
import Derived.Deep.DeepCutAuto
import Derived.Deep.DrawnRows
import Derived.Deep.MidRow
import Derived.Deep.QuietTactic
import Derived.Deep.RegionHeld3
import Derived.Deep.RegionLaw
import Derived.Deep.RegionWith
import Derived.Deep.WholeRow
import Derived.Great.BuildSlice
import Derived.Great.FillDense
import Derived.JoinedTies
import Derived.KernelRfl
import Derived.Laws.AppendOwnNone
import Derived.Laws.BitsLemmas
import Derived.Laws.BytesArg
import Derived.Laws.CopyOwn
import Derived.Laws.CopyRow
import Derived.Laws.MakeOwn
import Derived.Laws.OwnMore
import Derived.Laws.Tables
import Derived.Lib.AppendZeros
import Derived.Lib.SlBytesConst
import Derived.LoopIn
import Derived.LoopNIn
import Derived.Maps.AppendAt
import Derived.OpenShut
import Derived.OwnWalkIn
import Derived.ProofKit
import Derived.RangeFuncBound
import Derived.RangeFuncCalls
import Derived.RangeFuncLeaves
import Derived.RangeFuncNested
import Derived.RangeFuncRecord
import Derived.Shelf.Abstract
import Derived.Shelf.RegionOpen
import Derived.ShutString
import Derived.SizedLaws
import Derived.TacticsInMore
import Derived.WalkKit
import Derived.WalkLawsBesides
import Derived.WalkSpells
import GoSem.Claim
import GoSem.ClaimJoined
import GoSem.ClaimMapViews
import Derived.Test.YtbhhbkoikocjgaaX01
import Derived.Test.YtbhhbkoikocjgaaX03
import Derived.Test.YtbhhbkoikocjgaaX12
/- Layer spec: a list of byte strings in memory. -/
namespace Go.Proofs.Ytbhhbkoikocjgaa
set_option linter.unusedSectionVars false
set_option maxHeartbeats 1000000
open Go.ChangeShapes Go.WideShapes Go.ChangeAt Go.RowKit
set_option maxRecDepth 100000
set_option linter.unusedVariables false
set_option linter.unusedSimpArgs false


variable [DecidableEq Ac] [DecidableEq Ou] [DecidableEq Mg]
/-- A byte string: where it lies, how long it is, its room, its bytes. -/
structure Bz where
  sp : Option Addr
  n : Nat
  cap : Nat
  bs : List Int
structure BL (N : Nat) (w : World) (sp : Option Addr) (n cap : Nat) (es : List Bz) : Prop where
  len : Hid (n = es.length)
  nil : sp = none → n = 0 ∧ cap = 0
  le : n ≤ cap
  big : cap ≤ 9223372036854775807
  small : n * 24 ≤ 140737488351232
  at0 : 0 < n → ∃ g off, sp = some ⟨g, off, none⟩ ∧ g < N ∧ ∀ i e, es[i]? = some e → w.cell? ⟨g, off + i, none⟩ = some (.slice e.sp e.n e.cap)
  ok : ∀ e ∈ es, BS N w e.sp e.n e.cap e.bs
theorem BL.below {N : Nat} {w w' : World} {sp : Option Addr} {n cap : Nat} {es : List Bz} (h : BL N w sp n cap es) (hb : Below N w w') : BL N w' sp n cap es :=
  ⟨h.len, h.nil, h.le, h.big, h.small, fun h0 => let ⟨g, off, e, hg, hc⟩ := h.at0 h0; ⟨g, off, e, hg, fun i f hf => (hb.cell (p := ⟨g, off + i, none⟩) hg).trans (hc i f hf)⟩, fun e he => (h.ok e he).below hb⟩
theorem BL.mono {N N' : Nat} {w : World} {sp : Option Addr} {n cap : Nat} {es : List Bz} (h : BL N w sp n cap es) (hN : N ≤ N') : BL N' w sp n cap es :=
  ⟨h.len, h.nil, h.le, h.big, h.small, fun h0 => let ⟨g, off, e, hg, hc⟩ := h.at0 h0; ⟨g, off, e, by omega, hc⟩, fun e he => (h.ok e he).mono hN⟩
def bzs (es : List Bz) : List (List Int) := es.map Bz.bs
theorem bzs_len (es : List Bz) : (bzs es).length = es.length := by simp [bzs]
theorem bzs_get {es : List Bz} {i : Nat} {e : Bz} (h : es[i]? = some e) : (bzs es)[i]? = some e.bs := by simp [bzs, h]
theorem BL.bts {N : Nat} {w : World} {sp : Option Addr} {n cap : Nat} {es : List Bz} (h : BL N w sp n cap es) : ∀ L ∈ bzs es, Bts L := fun L hL => by
  simp only [bzs, List.mem_map] at hL
  obtain ⟨e, he, rfl⟩ := hL
  exact (h.ok e he).bts
theorem BL.get {N : Nat} {w : World} {sp : Option Addr} {n cap : Nat} {es : List Bz} (h : BL N w sp n cap es) {i : Nat} (hi : i < n) : ∃ g off e, sp = some ⟨g, off, none⟩ ∧ es[i]? = some e ∧ w.cell? ⟨g, off + i, none⟩ = some (.slice e.sp e.n e.cap) ∧ BS N w e.sp e.n e.cap e.bs := by
  obtain ⟨g, off, rfl, hg, hc⟩ := h.at0 (by omega)
  have hl := h.len.out
  have he : es[i]? = some es[i] := List.getElem?_eq_getElem (by omega)
  exact ⟨g, off, es[i], rfl, he, hc i _ he, h.ok _ (List.getElem_mem _)⟩
theorem BL.nil0 (N : Nat) (w : World) : BL N w none 0 0 [] := ⟨rfl, fun _ => ⟨rfl, rfl⟩, Nat.le_refl _, by omega, by omega, fun h => absurd h (by omega), fun o h => by cases h⟩
theorem bzs_take (es : List Bz) (k : Nat) : bzs (es.take k) = (bzs es).take k := by simp [bzs]
theorem bzs_drop (es : List Bz) (k : Nat) : bzs (es.drop k) = (bzs es).drop k := by simp [bzs]
/-- The first k of them. -/
theorem BL.take {N : Nat} {w : World} {sp : Option Addr} {n cap : Nat} {es : List Bz} (h : BL N w sp n cap es) {k c : Nat} (hk : k ≤ n) (hc : k ≤ c) (hcc : c ≤ cap) (hc0 : sp = none → c = 0) : BL N w sp k c (es.take k) := by
  have hl := h.len.out
  refine ⟨Hid.mk' (by rw [List.length_take]; omega), fun e => ?_, hc, by have := h.big; omega, by have := h.small; omega, fun h0 => ?_, fun e he => h.ok e (List.mem_of_mem_take he)⟩
  · have := h.nil e; have := hc0 e; omega
  · obtain ⟨g, off, e, hg, hcl⟩ := h.at0 (by omega)
    refine ⟨g, off, e, hg, fun i f hf => hcl i f ?_⟩
    have hi : i < k := by have := (List.getElem?_eq_some_iff.1 hf).1; rw [List.length_take] at this; omega
    rwa [List.getElem?_take_of_lt hi] at hf
/-- What is behind the first k. -/
theorem BL.drop {N : Nat} {w : World} {g off n cap : Nat} {es : List Bz} (h : BL N w (some ⟨g, off, none⟩) n cap es) {k : Nat} (hk : k ≤ n) : BL N w (some ⟨g, off + k, none⟩) (n - k) (cap - k) (es.drop k) := by
  have hl := h.len.out
  refine ⟨Hid.mk' (by rw [List.length_drop]; omega), fun e => (by cases e), by have := h.le; omega, by have := h.big; omega, by have := h.small; omega, fun h0 => ?_, fun e he => h.ok e (List.mem_of_mem_drop he)⟩
  obtain ⟨g', off', e, hg, hcl⟩ := h.at0 (by omega)
  cases e
  refine ⟨g, off + k, rfl, hg, fun i f hf => ?_⟩
  rw [List.getElem?_drop] at hf
  rw [Nat.add_assoc]
  exact hcl (k + i) f hf
theorem weights_allN {H : Type} {P : Program} {e : TypeId} {l : List (DataW H)} {d : DataW H} (hd : d ∈ l) : ∀ n ∈ d.weights P e, n ∈ DataW.weightsAll P e l := by
  induction l with
  | nil => simp at hd
  | cons x r ih =>
    intro n hn
    rw [DataW.weightsAll]
    rcases List.mem_cons.1 hd with rfl | h
    · exact List.mem_append_left _ hn
    · exact List.mem_append_right _ (ih h n hn)
theorem bytes5N : Try.prog.bytesOf 5 = 1 := by kernel_rfl
theorem cells31 : Try.prog.cellsOf 31 = 1 := by kernel_rfl
theorem cells63 : Try.prog.cellsOf 63 = 1 := by kernel_rfl
theorem bytes63 : Try.prog.bytesOf 63 = 24 := by kernel_rfl
section
variable {H : Type} {enc : TypeId × Value → H} {W : World} {base : Nat}
theorem bz_of_trod {fuel : Nat} {cs : List Value} {x : DataW H × List MemPlace} (h : DataW.trod enc Try.prog W base (fun _ => true) true fuel 63 cs = some x) (hs : Small 63 x.1) :
    ∃ sp n cap L, cs = [.slice sp n cap] ∧ BS W.heap.size W sp n cap L := by
  rcases open_ints Try.underlying63 Try.underlying5 (by kernel_rfl) h with ⟨rfl, _⟩ | ⟨a, len, cap, zs, rfl, _, hl, hm, hz, rfl, hcell, hwz⟩
  · exact ⟨none, 0, 0, [], rfl, BS.nil0 _ _⟩
  · have hz' : zs.length = cap := by simpa using hz
    have hr := hs ((zs.take len).length + (zs.drop len).length) (by simp [DataW.weights, Try.underlying63, bytes5N, lits])
    simp only [List.length_take, List.length_drop, reachBytes] at hr
    refine ⟨some a, len, cap, zs.take len, rfl, ⟨show _ = _ by simp; omega, (fun e => by cases e), hl, by unfold maxLen at hm; omega, by omega, fun h0 => ?_, bts_wf fun y hy => hwz y (List.mem_of_mem_take hy)⟩⟩
    obtain ⟨b, off, rfl, hc⟩ := ints_at hcell (by omega)
    refine ⟨b, off, rfl, block_lt_of_cell (hc 0 (by omega)), fun t ht => ?_⟩
    rw [hc t (by omega)]
    simp [bat, List.getElem?_take_of_lt ht]
theorem bl_of_trod {fuel : Nat} {cs : List Value} {x : DataW H × List MemPlace} (h : DataW.trod enc Try.prog W base (fun _ => true) true fuel 31 cs = some x) (hs : Small 31 x.1) :
    ∃ sq k cq es, cs = [.slice sq k cq] ∧ BL W.heap.size W sq k cq es := by
  rcases DataW.trod_slice Try.underlying31 h with ⟨rfl, -⟩ | ⟨a, len, cap, elems, rest, n, rfl, rfl, rfl, hb, hlc, hm, hlen, hel, hsp, -⟩
  · exact ⟨none, 0, 0, [], rfl, BL.nil0 _ _⟩
  · obtain ⟨hrl, -⟩ := hsp rfl
    have hr := hs ((elems.length + rest.length) * 24) (by simp [DataW.weights, Try.underlying31, bytes63])
    simp only [reachBytes] at hr
    have hw : ∀ e ∈ elems, Small 63 e.1 := fun e he m hm => hs m (by
      simp only [DataW.weights, Try.underlying31]
      exact List.mem_cons_of_mem _ (List.mem_append_left _ (weights_allN (List.mem_map_of_mem he) m hm)))
    have hstep : ∀ i, i < len → ∃ g off, ∃ e : Bz, a.add (i * 1) = ⟨g, off, none⟩ ∧ W.cell? ⟨g, off, none⟩ = some (.slice e.sp e.n e.cap) ∧ BS W.heap.size W e.sp e.n e.cap e.bs := fun i hi => by
      have h1 := hel i hi
      rw [cells63, List.getElem?_eq_getElem (by omega), Option.bind_eq_some_iff] at h1
      obtain ⟨cs, hcs, ht⟩ := h1
      obtain ⟨g, off, e, hR⟩ := cells_at (by omega) hcs
      obtain ⟨sp, m, cp, L, rfl, hB⟩ := bz_of_trod ht (hw _ (List.getElem_mem _))
      exact ⟨g, off, ⟨sp, m, cp, L⟩, e, by simpa using hR 0 _ rfl, hB⟩
    by_cases h0 : 0 < len
    · obtain ⟨g, off, -, e, -⟩ := hstep 0 h0
      have ha : a = ⟨g, off, none⟩ := by simpa [Addr.add] using e
      subst ha
      obtain ⟨l, hl, hP⟩ := exists_list (P := fun i (f : Bz) => W.cell? ⟨g, off + i, none⟩ = some (.slice f.sp f.n f.cap) ∧ BS W.heap.size W f.sp f.n f.cap f.bs) len (fun i hi => by
        obtain ⟨g', off', f, e', h1, ho⟩ := hstep i hi
        rw [Addr.add_mid, Nat.mul_one] at e'
        cases e'
        exact ⟨f, h1, ho⟩)
      refine ⟨some ⟨g, off, none⟩, len, cap, l, rfl, ⟨show _ = _ by simp [hl], (fun e => by cases e), hlc, by unfold maxLen at hm; omega, by omega, fun _ => ⟨g, off, rfl, ?_, fun i f hf => (hP i f hf).1⟩, fun f hf => ?_⟩⟩
      · obtain ⟨p, hp⟩ : ∃ p, l[0]? = some p := ⟨l[0], List.getElem?_eq_getElem (by omega)⟩
        exact block_lt_of_cell (hP 0 p hp).1
      · obtain ⟨i, hi⟩ := List.mem_iff_getElem?.1 hf
        exact (hP i f hi).2
    · obtain rfl : len = 0 := by omega
      exact ⟨some a, 0, cap, [], rfl, ⟨rfl, (fun e => by cases e), by omega, by unfold maxLen at hm; omega, by omega, (fun h => absurd h (by omega)), (fun e h => by cases h)⟩⟩
/-- BYTE STRINGS THAT CAME IN. -/
theorem open_strings {b0 : Nat} {v : Value} {d : DataW H} {p : List MemPlace} {ts : List TypeId} {ds : List (DataW H)} {j : Nat}
    (hv : Value.okWide Try.prog W .any b0 31 v) (h : DataW.Trod enc Try.prog W base (fun _ => true) true 31 v d p)
    (hsz : (DataW.weightsEach Try.prog ts ds).all (· ≤ reachBytes) = true) (ht : ts[j]? = some 31) (hd : ds[j]? = some d) :
    ∃ sq k cq es, v = .slice sq k cq ∧ BL W.heap.size W sq k cq es := by
  obtain ⟨a0, len0, cap0, rfl⟩ := okWide_slice Try.underlying31 hv
  obtain ⟨fuel, hf⟩ := h
  have hs : Small 31 d := fun n hn => by
    have := List.all_eq_true.1 hsz n (DataW.weights_mem_each ht hd n hn)
    simpa using this
  obtain ⟨sq, k, cq, fs, e, hi⟩ := bl_of_trod (x := (d, p)) hf hs
  simp [Value.cells] at e
  obtain ⟨rfl, rfl, rfl⟩ := e
  exact ⟨_, _, _, fs, rfl, hi⟩
end
end Go.Proofs.Ytbhhbkoikocjgaa
/- Layer spec: what the layers below give. -/
namespace Go.Proofs.Ytbhhbkoikocjgaa
set_option linter.unusedSectionVars false
set_option maxHeartbeats 1000000
open Go.RowKit
set_option maxRecDepth 100000
set_option linter.unusedVariables false
set_option linter.unusedSimpArgs false

variable [DecidableEq Ac] [DecidableEq Ou] [DecidableEq Mg]
theorem y_bd {ops : Array Oper} {S : World → Prop} {op : Oper} {a : Act} (hw : Region.wanted op (yielded ops a.tmps) = true) (t : TypeId) (parts : Array (Nat × Operand)) (ho : op.op = .build t parts) {ps : List (Nat × Value)} (hp : parts.toList.map (fun p => (p.1, a.eval p.2)) = ps) {C : Array Value} (hb : Try.prog.built t ps = some C) : YieldsIf Try.prog ops S op (.agg C) a :=
  .inl ⟨hw, fun w _ => by
    have e : (parts.map fun (i, x) => (i, a.eval x)).toList = ps := by rw [Array.toList_map]; exact hp
    unfold execOp
    simp only [ho, Sem.run_bind, run_build w t _ C (by rw [e]; exact hb), Result.andThen_ok, Sem.run_pure]⟩
theorem built26z : Try.prog.built 26 [] = some (Ac.arr za) := by kernel_rfl
theorem zero30 : (Try.prog.info? 30).map (·.zero) = some (some (.agg (stA zs none 0 0))) := by kernel_rfl
theorem zeroValue30 (w : World) : (zeroValue 30).run Try.prog w = .ok (.agg (stA zs none 0 0)) w := by
  have h := zero30
  cases hq : Try.prog.info? 30 with
  | none => rw [hq] at h; cases h
  | some i =>
    rw [hq] at h
    have hz : i.zero = some (.agg (stA zs none 0 0)) := by simpa using h
    simp [zeroValue, typeInfo, hq, hz]
theorem zss (N : Nat) (w : World) : SS N w zs none 0 0 [] := ⟨Hid.mk' zs_len, Hid.mk' zs_ok, OS.nil0 N w⟩
theorem zs_l32 : ∀ a ∈ zs, a.lk.length = 32 := fun a ha => (zs_ok a ha).l32
end Go.Proofs.Ytbhhbkoikocjgaa
/- Layer spec: what the layers below give. -/
namespace Go.Proofs.Ytbhhbkoikocjgaa
set_option linter.unusedSectionVars false
set_option maxHeartbeats 1000000
open Go.RowKit
set_option maxRecDepth 100000
set_option linter.unusedVariables false
set_option linter.unusedSimpArgs false

variable [DecidableEq Ac] [DecidableEq Ou] [DecidableEq Mg]
def ouF (os : List Ou) : List Value := (os.map Ou.cells).flatten
theorem ouF_len (os : List Ou) : (ouF os).length = os.length * 2 := by
  induction os with
  | nil => rfl
  | cons a r ih =>
    simp only [ouF, List.map_cons, List.flatten_cons, List.length_append, List.length_cons] at ih ⊢
    simp only [Ou.cells, List.length_cons, List.length_nil]
    omega
theorem ouF_one (os : List Ou) : ∀ v ∈ ouF os, v.oneCell' = true := by
  intro v hv
  simp only [ouF, List.mem_flatten, List.mem_map] at hv
  obtain ⟨l, ⟨e, -, rfl⟩, hv⟩ := hv
  exact e.one v hv
theorem ouF_at {os : List Ou} {i : Nat} {a : Ou} (he : os[i]? = some a) {j : Nat} {v : Value} (hv : a.cells[j]? = some v) : (ouF os)[i * 2 + j]? = some v := by
  induction os generalizing i with
  | nil => simp at he
  | cons b r ih =>
    have hj : j < 2 := by
      have := (List.getElem?_eq_some_iff.1 hv).1
      simpa [Ou.cells] using this
    simp only [ouF, List.map_cons, List.flatten_cons]
    cases i with
    | zero =>
      simp at he
      subst he
      rw [List.getElem?_append_left (by simp [Ou.cells]; omega)]
      simpa using hv
    | succ i =>
      have := ih (i := i) (by simpa using he)
      rw [List.getElem?_append_right (by simp [Ou.cells]; omega)]
      have e : (i + 1) * 2 + j - b.cells.length = i * 2 + j := by simp [Ou.cells]; omega
      rw [e]
      exact this
theorem ouF_of {os : List Ou} {j : Nat} {v : Value} (h : (ouF os)[j]? = some v) : ∃ a, os[j / 2]? = some a ∧ a.cells[j % 2]? = some v := by
  have hj := (List.getElem?_eq_some_iff.1 h).1
  rw [ouF_len] at hj
  have hd : j / 2 < os.length := by omega
  obtain ⟨a, ha⟩ : ∃ a, os[j / 2]? = some a := ⟨os[j / 2], List.getElem?_eq_getElem hd⟩
  have hm : j % 2 < a.cells.length := by simp [Ou.cells]; omega
  have h1 := ouF_at ha (List.getElem?_eq_getElem hm)
  rw [Nat.div_add_mod' j 2, h] at h1
  exact ⟨a, ha, by rw [List.getElem?_eq_getElem hm, Option.some.inj h1]⟩
/-- An own row of withdrawals, as one to be read. -/
theorem own_os {w : World} {base n : Nat} {v : Value} {os : List Ou} (h : w.ownsRow base 66 2 v n (ouF os)) (hn : n = os.length) (hsm : n ≤ 140737488355328) (hok : ∀ o ∈ os, OuOK o) : ∃ sp cap, v = .slice sp n cap ∧ OS w.heap.size w sp n cap os ∧ ∀ b off, sp = some ⟨b, off, none⟩ → base ≤ b := by
  obtain ⟨-, h' | ⟨g, cap, cur, rfl, hg, hh, hnc, hcm, hc, ht⟩⟩ := h
  · obtain ⟨rfl, rfl⟩ := h'
    have hz : os = [] := List.eq_nil_of_length_eq_zero hn.symm
    subst hz
    exact ⟨none, 0, rfl, OS.nil0 _ _, fun b off e => by cases e⟩
  · refine ⟨_, cap, rfl, ⟨Hid.mk' hn, (fun e => by cases e), hnc, by unfold maxLen at hcm; omega, hsm, fun h0 => ⟨g, 0, rfl, (Array.getElem?_eq_some_iff.1 hh).1, fun i a ha j u hu => ?_⟩, hok⟩, fun b off e => by cases e; exact hg⟩
    have hi := (List.getElem?_eq_some_iff.1 ha).1
    have hj : j < 2 := by
      have := (List.getElem?_eq_some_iff.1 hu).1
      simpa [Ou.cells] using this
    rw [Nat.zero_add, cell_of_row w g _ cur 66 (0, 0) hh, ← Array.getElem?_toList, ← List.getElem?_take_of_lt (show i * 2 + j < n * 2 by omega), ht]
    exact ouF_at ha hu
end Go.Proofs.Ytbhhbkoikocjgaa
/- Layer spec: what the layers below give. -/
namespace Go.Proofs.Ytbhhbkoikocjgaa
set_option linter.unusedSectionVars false
set_option maxHeartbeats 1000000
open Go.RowKit
set_option maxRecDepth 100000
set_option linter.unusedVariables false
set_option linter.unusedSimpArgs false

variable [DecidableEq Ac] [DecidableEq Ou] [DecidableEq Mg]
theorem range_row {w : World} {g b o : Nat} {cs : List Value} {D : Array Value} (h : w.rangeAt b o cs) (hne : b ≠ g) : (w.setRow g D).rangeAt b o cs := fun j v hv => (World.cell?_of_block (w := w) (a := ⟨b, o + j, none⟩) (setRow_other w g b D hne)).trans (h j v hv)
end Go.Proofs.Ytbhhbkoikocjgaa
/- Layer spec: what the layers below give. -/
namespace Go.Proofs.Ytbhhbkoikocjgaa
set_option linter.unusedSectionVars false
set_option maxHeartbeats 1000000
open Go.RowKit
set_option maxRecDepth 100000
set_option linter.unusedVariables false
set_option linter.unusedSimpArgs false

variable [DecidableEq Ac] [DecidableEq Ou] [DecidableEq Mg]
theorem info53 : (Try.prog.info? 66).map (fun i => (i.zero, i.size, i.bytes)) = some (some (.agg (Ou.arr ⟨0, 0⟩)), 2, 16) := by kernel_rfl
/-- append of withdrawals to an empty slice of the call's own. -/
theorem as53 {ops : Array Oper} {rest : List Oper} {op : Oper} {q : Act} {w : World} {Q : Exit → Act → World → Prop} (hgd : op.guard = none) (s x : Operand) (ho : op.op = .call { callee := .builtin .append, args := #[s, x], argTypes := #[28, 28] })
    (base N : Nat) (v : Value) (hs : q.eval s = v) (hown : w.ownsRow base 66 2 v 0 (ouF []))
    (sp : Option Addr) (n cap : Nat) (os : List Ou) (hx : q.eval x = .slice sp n cap) (hS : OS N w sp n cap os) (hb : n * 16 ≤ 140737488351232) (hbase : base ≤ w.heap.size)
    (h : ∀ v' w', w'.ownsRow base 66 2 v' n (ouF os) → w.grownBy w' v.ownBlock → wpList Try.prog ops Q rest (q.put op.dst v') w') : wpList Try.prog ops Q (op :: rest) q w := by
  obtain ⟨i0, hi0, hz0, hz1, hz2⟩ := info_parts info53
  have hln := hS.len.out
  cases sp with
  | none =>
    obtain ⟨rfl, rfl⟩ := hS.nil rfl
    obtain rfl : os = [] := List.eq_nil_of_length_eq_zero hln.symm
    have hrun := run_append_owned_none (P := Try.prog) (w := w) base 28 op.type 66 i0 2 Try.underlying28 hi0 v 0 _ hown
    refine wpList_plain hgd fun _ hK => ?_
    unfold Oper.wp
    simp [execOp, ho, resolve, invoke, builtin, hs, hx, hrun, Result.andThen]
    exact hK _ _ (h v w hown ⟨rfl, rfl, rfl, Nat.le_refl _, fun _ _ _ => rfl⟩)
  | some ad =>
    refine wpList_append_own w hgd s x 28 ho base 66 i0 (.agg (Ou.arr ⟨0, 0⟩)) 2 16 Try.underlying28 hi0 hz0 hz1 hz2 (by rfl) (by omega) v 0 _ hs hown ad n cap (ouF os) hx (by rw [ouF_len, hln]) (fun j u hj => ?_) (ouF_one os) (by unfold maxLen; omega) (by omega) hbase (fun v' w' h1 h2 _ => h v' w' (by simpa [ouF] using h1) h2)
    obtain ⟨X, hX, hv'⟩ := ouF_of hj
    have hjn := (List.getElem?_eq_some_iff.1 hX).1
    obtain ⟨b, off, e, -, hR⟩ := hS.at0 (by omega)
    obtain rfl := Option.some.inj e
    have := hR _ X hX _ u hv'
    rw [Addr.add_mid]
    rwa [Nat.add_assoc, Nat.div_add_mod' j 2] at this
theorem stA_set {ps : List Ac} {sp sp' : Option Addr} {n cap n' cap' : Nat} (h1 : ps.length = 32) (h2 : ∀ a ∈ ps, a.lk.length = 32) : (stA ps sp n cap).setIfInBounds 1088 (.slice sp' n' cap') = stA ps sp' n' cap' := by
  have hl : (acF ps).length = 1088 := by rw [acF_len h2, h1]
  unfold stA stC
  rw [List.setIfInBounds_toArray, List.set_append_right _ _ (by omega), hl]
  rfl
/-- What Copy answers. -/
def CPost (ps : List Ac) (n : Nat) (os : List Ou) (w : World) (r : Ending) (w' : World) : Prop :=
  ∃ sp cap, r = .returned (.agg (stA ps sp n cap)) ∧ SS w'.heap.size w' ps sp n cap os ∧ (∀ b off, sp = some ⟨b, off, none⟩ → w.heap.size ≤ b) ∧ Below w.heap.size w w'
set_option maxHeartbeats 2000000 in
theorem copy_any (ps : List Ac) (N : Nat) (sp : Option Addr) (n cap : Nat) (os : List Ou) (w : World) (hS : SS N w ps sp n cap os) (hb : n * 16 ≤ 140737488351232) : Calls Try.prog 21 #[.agg (stA ps sp n cap)] w (CPost ps n os w) := by
  have hS := hS.here
  have h1 := hS.a32.out
  have h2 := hS.l32
  have A0 := (Arr.new w 30 (stA ps sp n cap)).alloc (.cells (stA zs none 0 0) 30)
  have R0 : Arr ((w.alloc (.cells (stA ps sp n cap) 30)).alloc (.cells (stA zs none 0 0) 30)) (w.heap.size + 1) 30 (stA zs none 0 0) := by simpa using Arr.new (w.alloc (.cells (stA ps sp n cap) 30)) 30 (stA zs none 0 0)
  have B0 := (alloc_bel' w (.cells (stA ps sp n cap) 30)).alloc (by simp) (.cells (stA zs none 0 0) 30)
  have hz30 := zeroValue30
  have hzsz : (stA zs none 0 0).size = 1089 := stA_size zs_len zs_l32
  generalize stA zs none 0 0 = Z at A0 R0 B0 hz30 hzsz
  go_enter Try.func21, Try.ntmps21
  go_upto_region 1 with fail
  generalize (w.alloc (.cells (stA ps sp n cap) 30)).alloc (.cells Z 30) = V at A0 R0 B0 ⊢
  have cO := A0.stOut h1 h2
  have fO := A0.frozen 1088
  have a1 := alloc_bel' V (.cells #[] 66)
  have own0 : (V.alloc (.cells #[] 66)).ownsRow (w.heap.size + 1 + 1) 66 2 (.slice (some ⟨V.heap.size, 0, none⟩) 0 0) 0 (ouF []) := World.ownsRow_made V #[] 0 (by have := R0.lt; omega) (by unfold maxLen; omega) rfl
  have S1 := (hS.outs.below B0).below (a1.mono B0.size)
  have A1 := A0.bel a1
  have R1 := R0.bel a1
  have B1 := B0.trans (a1.mono B0.size)
  have hVz := R0.lt
  have cO1 := A1.stOut h1 h2
  have fO1 := A1.frozen 1088
  clear cO fO
  go_upto_region 2 with (first
    | (refine atA (.tmp 3) (.tmp 5) ?_; go_must (refine as53 (by rfl) (.tmp 3) (.tmp 5) (by rfl) (w.heap.size + 1 + 1) _ _ (by rfl) own0 sp n cap os (by rfl) S1 hb (by simp; omega) ?_; intro v2 w2 own2 g2; have A2 := A1.grown g2 (fun e => by have := own_ge own0 _ e.symm; omega); have R2 := R1.grown g2 (fun e => by have := own_ge own0 _ e.symm; omega); have B2 := B1.grown g2 B1.size (fun k e => by have := own_ge own0 k e; omega); obtain ⟨s2, c2, rfl, O2, hs2⟩ := own_os own2 S1.len.out S1.small S1.ok; have cO2 := A2.stOut h1 h2; have fO2 := A2.frozen 1088)))
  have A3 := A2.set 1088 (.slice s2 n c2)
  rw [stA_set h1 h2] at A3
  have R3 := R2.setOther (a := ⟨w.heap.size, 1088, none⟩) (.slice s2 n c2) (by simp)
  have B3 := B2.setCell (p := ⟨w.heap.size, 1088, none⟩) (by simp) (.slice s2 n c2)
  have O3 : OS (w2.setCell ⟨w.heap.size, 1088, none⟩ (.slice s2 n c2)).heap.size (w2.setCell ⟨w.heap.size, 1088, none⟩ (.slice s2 n c2)) s2 n c2 os := by
    have hz : (w2.setCell ⟨w.heap.size, 1088, none⟩ (.slice s2 n c2)).heap.size = w2.heap.size := by simp [World.setCell]
    rw [hz]
    refine ⟨O2.len, O2.nil, O2.le, O2.big, O2.small, fun h0 => ?_, O2.ok⟩
    obtain ⟨g, off, e, hg, hR⟩ := O2.at0 h0
    refine ⟨g, off, e, hg, fun i x hx j v hv => ?_⟩
    have hne : g ≠ w.heap.size := by have := hs2 g off e; omega
    exact (World.cell?_of_block (w := w2) (a := ⟨g, off + i * 2 + j, none⟩) (Below.heap_setCell _ _ _ _ hne)).trans (hR i x hx j v hv)
  generalize w2.setCell ⟨w.heap.size, 1088, none⟩ (.slice s2 n c2) = W3 at A3 R3 B3 O3 ⊢
  have hsz : (Try.prog.info? 30).map (·.size) = some (stA ps s2 n c2).size := by rw [stA_size h1 h2]; exact size30
  go_wp2_with (first
    | (refine atL 30 (.tmp 1) ?_; refine ld30 (by rfl) _ (by rfl) w.heap.size 30 (by rfl) ps s2 n c2 h1 h2 A3 ?_)
    | (refine atS 30 (.tmp 2) (.tmp 8) ?_; refine wpList_store_arr (by rfl) 30 (.tmp 2) (.tmp 8) (by rfl) (w.heap.size + 1) (stA ps s2 n c2) (by rfl) (by rfl) 30 _ R3 hsz (by rw [hzsz, stA_size h1 h2]) (stA_one ps s2 n c2) ?_))
  have O4 : OS (W3.setRow (w.heap.size + 1) (stA ps s2 n c2)).heap.size (W3.setRow (w.heap.size + 1) (stA ps s2 n c2)) s2 n c2 os := by
    have hz : (W3.setRow (w.heap.size + 1) (stA ps s2 n c2)).heap.size = W3.heap.size := by simp
    rw [hz]
    refine ⟨O3.len, O3.nil, O3.le, O3.big, O3.small, fun h0 => ?_, O3.ok⟩
    obtain ⟨g, off, e, hg, hR⟩ := O3.at0 h0
    exact ⟨g, off, e, hg, fun i x hx => range_row (hR i x hx) (by have := hs2 g off e; omega)⟩
  exact bodyPost_ret (v := .agg (stA ps s2 n c2)) (results_cell_row Try.results21 _ _ (w.heap.size + 1) 30 _ (0, 0) _ rfl (R3.setRow _) Try.underlying30 rfl hsz) rfl ⟨s2, c2, rfl, ⟨hS.a32, hS.ok, O4⟩, fun b off e => by have := hs2 b off e; omega, below_setRow B3 (by omega) _⟩
end Go.Proofs.Ytbhhbkoikocjgaa
