/- Qi, Fa, Sq, Fb. -/
import Derived.Test.YtbhhbkoikocjgaaX02
import Derived.Test.YtbhhbkoikocjgaaX04
import Derived.Test.YtbhhbkoikocjgaaX05
import Derived.Test.YtbhhbkoikocjgaaX06
import Derived.Test.YtbhhbkoikocjgaaX07
import Derived.Test.YtbhhbkoikocjgaaX14
import Derived.BigQuiet
import Derived.BigRegion
import Derived.ChangeKeysEq
import Derived.ChangeOld
import Derived.Deep.DeepCutAuto
import Derived.Deep.DrawnRows
import Derived.Deep.MidRow
import Derived.Deep.QuietTactic
import Derived.Deep.RegionHeld3
import Derived.Deep.RegionLaw
import Derived.Deep.RegionWith
import Derived.Deep.WholeRow
import Derived.Great.BuildSlice
import Derived.Great.FillDense
import Derived.JoinedTies
import Derived.KernelRfl
import Derived.Laws.AppendOwnNone
import Derived.Laws.BitsLemmas
import Derived.Laws.BytesArg
import Derived.Laws.CopyOwn
import Derived.Laws.CopyRow
import Derived.Laws.MakeOwn
import Derived.Laws.OwnMore
import Derived.Laws.Tables
import Derived.Lib.AppendZeros
import Derived.Lib.SlBytesConst
import Derived.LoopIn
import Derived.LoopNIn
import Derived.Maps.AppendAt
import Derived.OpenShut
import Derived.OwnWalkIn
import Derived.ProofKit
import Derived.RangeFuncBound
import Derived.RangeFuncCalls
import Derived.RangeFuncLeaves
import Derived.RangeFuncNested
import Derived.RangeFuncRecord
import Derived.Shelf.Abstract
import Derived.Shelf.RegionOpen
import Derived.ShutString
import Derived.SizedLaws
import Derived.TacticsInMore
import Derived.WalkKit
import Derived.WalkLawsBesides
import Derived.WalkSpells
import GoSem.Claim
import GoSem.ClaimJoined
import GoSem.ClaimMapViews
import Derived.Test.YtbhhbkoikocjgaaX01
import Derived.Test.YtbhhbkoikocjgaaX03
import Derived.Test.YtbhhbkoikocjgaaX12
/- Layer spec: what the layers below give. -/
namespace Go.Proofs.Ytbhhbkoikocjgaa
set_option linter.unusedSectionVars false
set_option maxHeartbeats 1000000
open Go.RowKit
set_option maxRecDepth 100000
set_option linter.unusedVariables false
set_option linter.unusedSimpArgs false

variable [DecidableEq Ac] [DecidableEq Ou] [DecidableEq Mg]
theorem y_bd {ops : Array Oper} {S : World → Prop} {op : Oper} {a : Act} (hw : Region.wanted op (yielded ops a.tmps) = true) (t : TypeId) (parts : Array (Nat × Operand)) (ho : op.op = .build t parts) {ps : List (Nat × Value)} (hp : parts.toList.map (fun p => (p.1, a.eval p.2)) = ps) {C : Array Value} (hb : Try.prog.built t ps = some C) : YieldsIf Try.prog ops S op (.agg C) a :=
  .inl ⟨hw, fun w _ => by
    have e : (parts.map fun (i, x) => (i, a.eval x)).toList = ps := by rw [Array.toList_map]; exact hp
    unfold execOp
    simp only [ho, Sem.run_bind, run_build w t _ C (by rw [e]; exact hb), Result.andThen_ok, Sem.run_pure]⟩
theorem built26z : Try.prog.built 26 [] = some (Ac.arr za) := by kernel_rfl
theorem zero30 : (Try.prog.info? 30).map (·.zero) = some (some (.agg (stA zs none 0 0))) := by kernel_rfl
theorem zeroValue30 (w : World) : (zeroValue 30).run Try.prog w = .ok (.agg (stA zs none 0 0)) w := by
  have h := zero30
  cases hq : Try.prog.info? 30 with
  | none => rw [hq] at h; cases h
  | some i =>
    rw [hq] at h
    have hz : i.zero = some (.agg (stA zs none 0 0)) := by simpa using h
    simp [zeroValue, typeInfo, hq, hz]
theorem zss (N : Nat) (w : World) : SS N w zs none 0 0 [] := ⟨Hid.mk' zs_len, Hid.mk' zs_ok, OS.nil0 N w⟩
theorem zs_l32 : ∀ a ∈ zs, a.lk.length = 32 := fun a ha => (zs_ok a ha).l32
end Go.Proofs.Ytbhhbkoikocjgaa
/- Layer spec: what the layers below give. -/
namespace Go.Proofs.Ytbhhbkoikocjgaa
set_option linter.unusedSectionVars false
set_option maxHeartbeats 1000000
open Go.RowKit
set_option maxRecDepth 100000
set_option linter.unusedVariables false
set_option linter.unusedSimpArgs false

variable [DecidableEq Ac] [DecidableEq Ou] [DecidableEq Mg]
def ouF (os : List Ou) : List Value := (os.map Ou.cells).flatten
theorem ouF_len (os : List Ou) : (ouF os).length = os.length * 2 := by
  induction os with
  | nil => rfl
  | cons a r ih =>
    simp only [ouF, List.map_cons, List.flatten_cons, List.length_append, List.length_cons] at ih ⊢
    simp only [Ou.cells, List.length_cons, List.length_nil]
    omega
theorem ouF_one (os : List Ou) : ∀ v ∈ ouF os, v.oneCell' = true := by
  intro v hv
  simp only [ouF, List.mem_flatten, List.mem_map] at hv
  obtain ⟨l, ⟨e, -, rfl⟩, hv⟩ := hv
  exact e.one v hv
theorem ouF_at {os : List Ou} {i : Nat} {a : Ou} (he : os[i]? = some a) {j : Nat} {v : Value} (hv : a.cells[j]? = some v) : (ouF os)[i * 2 + j]? = some v := by
  induction os generalizing i with
  | nil => simp at he
  | cons b r ih =>
    have hj : j < 2 := by
      have := (List.getElem?_eq_some_iff.1 hv).1
      simpa [Ou.cells] using this
    simp only [ouF, List.map_cons, List.flatten_cons]
    cases i with
    | zero =>
      simp at he
      subst he
      rw [List.getElem?_append_left (by simp [Ou.cells]; omega)]
      simpa using hv
    | succ i =>
      have := ih (i := i) (by simpa using he)
      rw [List.getElem?_append_right (by simp [Ou.cells]; omega)]
      have e : (i + 1) * 2 + j - b.cells.length = i * 2 + j := by simp [Ou.cells]; omega
      rw [e]
      exact this
theorem ouF_of {os : List Ou} {j : Nat} {v : Value} (h : (ouF os)[j]? = some v) : ∃ a, os[j / 2]? = some a ∧ a.cells[j % 2]? = some v := by
  have hj := (List.getElem?_eq_some_iff.1 h).1
  rw [ouF_len] at hj
  have hd : j / 2 < os.length := by omega
  obtain ⟨a, ha⟩ : ∃ a, os[j / 2]? = some a := ⟨os[j / 2], List.getElem?_eq_getElem hd⟩
  have hm : j % 2 < a.cells.length := by simp [Ou.cells]; omega
  have h1 := ouF_at ha (List.getElem?_eq_getElem hm)
  rw [Nat.div_add_mod' j 2, h] at h1
  exact ⟨a, ha, by rw [List.getElem?_eq_getElem hm, Option.some.inj h1]⟩
/-- An own row of withdrawals, as one to be read. -/
theorem own_os {w : World} {base n : Nat} {v : Value} {os : List Ou} (h : w.ownsRow base 66 2 v n (ouF os)) (hn : n = os.length) (hsm : n ≤ 140737488355328) (hok : ∀ o ∈ os, OuOK o) : ∃ sp cap, v = .slice sp n cap ∧ OS w.heap.size w sp n cap os ∧ ∀ b off, sp = some ⟨b, off, none⟩ → base ≤ b := by
  obtain ⟨-, h' | ⟨g, cap, cur, rfl, hg, hh, hnc, hcm, hc, ht⟩⟩ := h
  · obtain ⟨rfl, rfl⟩ := h'
    have hz : os = [] := List.eq_nil_of_length_eq_zero hn.symm
    subst hz
    exact ⟨none, 0, rfl, OS.nil0 _ _, fun b off e => by cases e⟩
  · refine ⟨_, cap, rfl, ⟨Hid.mk' hn, (fun e => by cases e), hnc, by unfold maxLen at hcm; omega, hsm, fun h0 => ⟨g, 0, rfl, (Array.getElem?_eq_some_iff.1 hh).1, fun i a ha j u hu => ?_⟩, hok⟩, fun b off e => by cases e; exact hg⟩
    have hi := (List.getElem?_eq_some_iff.1 ha).1
    have hj : j < 2 := by
      have := (List.getElem?_eq_some_iff.1 hu).1
      simpa [Ou.cells] using this
    rw [Nat.zero_add, cell_of_row w g _ cur 66 (0, 0) hh, ← Array.getElem?_toList, ← List.getElem?_take_of_lt (show i * 2 + j < n * 2 by omega), ht]
    exact ouF_at ha hu
end Go.Proofs.Ytbhhbkoikocjgaa
/- Layer spec: what the layers below give. -/
namespace Go.Proofs.Ytbhhbkoikocjgaa
set_option linter.unusedSectionVars false
set_option maxHeartbeats 1000000
open Go.RowKit
set_option maxRecDepth 100000
set_option linter.unusedVariables false
set_option linter.unusedSimpArgs false

variable [DecidableEq Ac] [DecidableEq Ou] [DecidableEq Mg]
theorem range_row {w : World} {g b o : Nat} {cs : List Value} {D : Array Value} (h : w.rangeAt b o cs) (hne : b ≠ g) : (w.setRow g D).rangeAt b o cs := fun j v hv => (World.cell?_of_block (w := w) (a := ⟨b, o + j, none⟩) (setRow_other w g b D hne)).trans (h j v hv)
end Go.Proofs.Ytbhhbkoikocjgaa
/- Layer spec: what the layers below give. -/
namespace Go.Proofs.Ytbhhbkoikocjgaa
set_option linter.unusedSectionVars false
set_option maxHeartbeats 1000000
open Go.RowKit
set_option maxRecDepth 100000
set_option linter.unusedVariables false
set_option linter.unusedSimpArgs false

variable [DecidableEq Ac] [DecidableEq Ou] [DecidableEq Mg]
theorem info53 : (Try.prog.info? 66).map (fun i => (i.zero, i.size, i.bytes)) = some (some (.agg (Ou.arr ⟨0, 0⟩)), 2, 16) := by kernel_rfl
/-- append of withdrawals to an empty slice of the call's own. -/
theorem as53 {ops : Array Oper} {rest : List Oper} {op : Oper} {q : Act} {w : World} {Q : Exit → Act → World → Prop} (hgd : op.guard = none) (s x : Operand) (ho : op.op = .call { callee := .builtin .append, args := #[s, x], argTypes := #[28, 28] })
    (base N : Nat) (v : Value) (hs : q.eval s = v) (hown : w.ownsRow base 66 2 v 0 (ouF []))
    (sp : Option Addr) (n cap : Nat) (os : List Ou) (hx : q.eval x = .slice sp n cap) (hS : OS N w sp n cap os) (hb : n * 16 ≤ 140737488351232) (hbase : base ≤ w.heap.size)
    (h : ∀ v' w', w'.ownsRow base 66 2 v' n (ouF os) → w.grownBy w' v.ownBlock → wpList Try.prog ops Q rest (q.put op.dst v') w') : wpList Try.prog ops Q (op :: rest) q w := by
  obtain ⟨i0, hi0, hz0, hz1, hz2⟩ := info_parts info53
  have hln := hS.len.out
  cases sp with
  | none =>
    obtain ⟨rfl, rfl⟩ := hS.nil rfl
    obtain rfl : os = [] := List.eq_nil_of_length_eq_zero hln.symm
    have hrun := run_append_owned_none (P := Try.prog) (w := w) base 28 op.type 66 i0 2 Try.underlying28 hi0 v 0 _ hown
    refine wpList_plain hgd fun _ hK => ?_
    unfold Oper.wp
    simp [execOp, ho, resolve, invoke, builtin, hs, hx, hrun, Result.andThen]
    exact hK _ _ (h v w hown ⟨rfl, rfl, rfl, Nat.le_refl _, fun _ _ _ => rfl⟩)
  | some ad =>
    refine wpList_append_own w hgd s x 28 ho base 66 i0 (.agg (Ou.arr ⟨0, 0⟩)) 2 16 Try.underlying28 hi0 hz0 hz1 hz2 (by rfl) (by omega) v 0 _ hs hown ad n cap (ouF os) hx (by rw [ouF_len, hln]) (fun j u hj => ?_) (ouF_one os) (by unfold maxLen; omega) (by omega) hbase (fun v' w' h1 h2 _ => h v' w' (by simpa [ouF] using h1) h2)
    obtain ⟨X, hX, hv'⟩ := ouF_of hj
    have hjn := (List.getElem?_eq_some_iff.1 hX).1
    obtain ⟨b, off, e, -, hR⟩ := hS.at0 (by omega)
    obtain rfl := Option.some.inj e
    have := hR _ X hX _ u hv'
    rw [Addr.add_mid]
    rwa [Nat.add_assoc, Nat.div_add_mod' j 2] at this
theorem stA_set {ps : List Ac} {sp sp' : Option Addr} {n cap n' cap' : Nat} (h1 : ps.length = 32) (h2 : ∀ a ∈ ps, a.lk.length = 32) : (stA ps sp n cap).setIfInBounds 1088 (.slice sp' n' cap') = stA ps sp' n' cap' := by
  have hl : (acF ps).length = 1088 := by rw [acF_len h2, h1]
  unfold stA stC
  rw [List.setIfInBounds_toArray, List.set_append_right _ _ (by omega), hl]
  rfl
/-- What Copy answers. -/
def CPost (ps : List Ac) (n : Nat) (os : List Ou) (w : World) (r : Ending) (w' : World) : Prop :=
  ∃ sp cap, r = .returned (.agg (stA ps sp n cap)) ∧ SS w'.heap.size w' ps sp n cap os ∧ (∀ b off, sp = some ⟨b, off, none⟩ → w.heap.size ≤ b) ∧ Below w.heap.size w w'
set_option maxHeartbeats 2000000 in
theorem copy_any (ps : List Ac) (N : Nat) (sp : Option Addr) (n cap : Nat) (os : List Ou) (w : World) (hS : SS N w ps sp n cap os) (hb : n * 16 ≤ 140737488351232) : Calls Try.prog 21 #[.agg (stA ps sp n cap)] w (CPost ps n os w) := by
  have hS := hS.here
  have h1 := hS.a32.out
  have h2 := hS.l32
  have A0 := (Arr.new w 30 (stA ps sp n cap)).alloc (.cells (stA zs none 0 0) 30)
  have R0 : Arr ((w.alloc (.cells (stA ps sp n cap) 30)).alloc (.cells (stA zs none 0 0) 30)) (w.heap.size + 1) 30 (stA zs none 0 0) := by simpa using Arr.new (w.alloc (.cells (stA ps sp n cap) 30)) 30 (stA zs none 0 0)
  have B0 := (alloc_bel' w (.cells (stA ps sp n cap) 30)).alloc (by simp) (.cells (stA zs none 0 0) 30)
  have hz30 := zeroValue30
  have hzsz : (stA zs none 0 0).size = 1089 := stA_size zs_len zs_l32
  generalize stA zs none 0 0 = Z at A0 R0 B0 hz30 hzsz
  go_enter Try.func21, Try.ntmps21
  go_upto_region 1 with fail
  generalize (w.alloc (.cells (stA ps sp n cap) 30)).alloc (.cells Z 30) = V at A0 R0 B0 ⊢
  have cO := A0.stOut h1 h2
  have fO := A0.frozen 1088
  have a1 := alloc_bel' V (.cells #[] 66)
  have own0 : (V.alloc (.cells #[] 66)).ownsRow (w.heap.size + 1 + 1) 66 2 (.slice (some ⟨V.heap.size, 0, none⟩) 0 0) 0 (ouF []) := World.ownsRow_made V #[] 0 (by have := R0.lt; omega) (by unfold maxLen; omega) rfl
  have S1 := (hS.outs.below B0).below (a1.mono B0.size)
  have A1 := A0.bel a1
  have R1 := R0.bel a1
  have B1 := B0.trans (a1.mono B0.size)
  have hVz := R0.lt
  have cO1 := A1.stOut h1 h2
  have fO1 := A1.frozen 1088
  clear cO fO
  go_upto_region 2 with (first
    | (refine atA (.tmp 3) (.tmp 5) ?_; go_must (refine as53 (by rfl) (.tmp 3) (.tmp 5) (by rfl) (w.heap.size + 1 + 1) _ _ (by rfl) own0 sp n cap os (by rfl) S1 hb (by simp; omega) ?_; intro v2 w2 own2 g2; have A2 := A1.grown g2 (fun e => by have := own_ge own0 _ e.symm; omega); have R2 := R1.grown g2 (fun e => by have := own_ge own0 _ e.symm; omega); have B2 := B1.grown g2 B1.size (fun k e => by have := own_ge own0 k e; omega); obtain ⟨s2, c2, rfl, O2, hs2⟩ := own_os own2 S1.len.out S1.small S1.ok; have cO2 := A2.stOut h1 h2; have fO2 := A2.frozen 1088)))
  have A3 := A2.set 1088 (.slice s2 n c2)
  rw [stA_set h1 h2] at A3
  have R3 := R2.setOther (a := ⟨w.heap.size, 1088, none⟩) (.slice s2 n c2) (by simp)
  have B3 := B2.setCell (p := ⟨w.heap.size, 1088, none⟩) (by simp) (.slice s2 n c2)
  have O3 : OS (w2.setCell ⟨w.heap.size, 1088, none⟩ (.slice s2 n c2)).heap.size (w2.setCell ⟨w.heap.size, 1088, none⟩ (.slice s2 n c2)) s2 n c2 os := by
    have hz : (w2.setCell ⟨w.heap.size, 1088, none⟩ (.slice s2 n c2)).heap.size = w2.heap.size := by simp [World.setCell]
    rw [hz]
    refine ⟨O2.len, O2.nil, O2.le, O2.big, O2.small, fun h0 => ?_, O2.ok⟩
    obtain ⟨g, off, e, hg, hR⟩ := O2.at0 h0
    refine ⟨g, off, e, hg, fun i x hx j v hv => ?_⟩
    have hne : g ≠ w.heap.size := by have := hs2 g off e; omega
    exact (World.cell?_of_block (w := w2) (a := ⟨g, off + i * 2 + j, none⟩) (Below.heap_setCell _ _ _ _ hne)).trans (hR i x hx j v hv)
  generalize w2.setCell ⟨w.heap.size, 1088, none⟩ (.slice s2 n c2) = W3 at A3 R3 B3 O3 ⊢
  have hsz : (Try.prog.info? 30).map (·.size) = some (stA ps s2 n c2).size := by rw [stA_size h1 h2]; exact size30
  go_wp2_with (first
    | (refine atL 30 (.tmp 1) ?_; refine ld30 (by rfl) _ (by rfl) w.heap.size 30 (by rfl) ps s2 n c2 h1 h2 A3 ?_)
    | (refine atS 30 (.tmp 2) (.tmp 8) ?_; refine wpList_store_arr (by rfl) 30 (.tmp 2) (.tmp 8) (by rfl) (w.heap.size + 1) (stA ps s2 n c2) (by rfl) (by rfl) 30 _ R3 hsz (by rw [hzsz, stA_size h1 h2]) (stA_one ps s2 n c2) ?_))
  have O4 : OS (W3.setRow (w.heap.size + 1) (stA ps s2 n c2)).heap.size (W3.setRow (w.heap.size + 1) (stA ps s2 n c2)) s2 n c2 os := by
    have hz : (W3.setRow (w.heap.size + 1) (stA ps s2 n c2)).heap.size = W3.heap.size := by simp
    rw [hz]
    refine ⟨O3.len, O3.nil, O3.le, O3.big, O3.small, fun h0 => ?_, O3.ok⟩
    obtain ⟨g, off, e, hg, hR⟩ := O3.at0 h0
    exact ⟨g, off, e, hg, fun i x hx => range_row (hR i x hx) (by have := hs2 g off e; omega)⟩
  exact bodyPost_ret (v := .agg (stA ps s2 n c2)) (results_cell_row Try.results21 _ _ (w.heap.size + 1) 30 _ (0, 0) _ rfl (R3.setRow _) Try.underlying30 rfl hsz) rfl ⟨s2, c2, rfl, ⟨hS.a32, hS.ok, O4⟩, fun b off e => by have := hs2 b off e; omega, below_setRow B3 (by omega) _⟩
end Go.Proofs.Ytbhhbkoikocjgaa
