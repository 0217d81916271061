/- Ej, J, Em0, Eh. -/
import Derived.Test.YtbhhbkoikocjgaaX01
import Derived.Test.YtbhhbkoikocjgaaX02
import Derived.Test.YtbhhbkoikocjgaaX03
import Derived.Test.YtbhhbkoikocjgaaX04
import Derived.Test.YtbhhbkoikocjgaaX05
import Derived.Test.YtbhhbkoikocjgaaX06
import Derived.Test.YtbhhbkoikocjgaaX07
import Derived.Test.YtbhhbkoikocjgaaX08
import Derived.Test.YtbhhbkoikocjgaaX14
import Derived.Test.YtbhhbkoikocjgaaX15
import Derived.Test.YtbhhbkoikocjgaaX18
import Derived.Test.YtbhhbkoikocjgaaX17
import Derived.Test.YtbhhbkoikocjgaaX22
import Derived.Test.YtbhhbkoikocjgaaX25
import Derived.BigQuiet
import Derived.BigRegion
import Derived.ChangeKeysEq
import Derived.ChangeOld
import Derived.Deep.DeepCutAuto
import Derived.Deep.DrawnRows
import Derived.Deep.MidRow
import Derived.Deep.QuietTactic
import Derived.Deep.RegionHeld3
import Derived.Deep.RegionLaw
import Derived.Deep.RegionWith
import Derived.Deep.WholeRow
import Derived.Great.BuildSlice
import Derived.Great.FillDense
import Derived.JoinedTies
import Derived.KernelRfl
import Derived.Laws.AppendOwnNone
import Derived.Laws.BitsLemmas
import Derived.Laws.BytesArg
import Derived.Laws.CopyOwn
import Derived.Laws.CopyRow
import Derived.Laws.MakeOwn
import Derived.Laws.OwnMore
import Derived.Laws.ResultCell
import Derived.Laws.Tables
import Derived.Lib.AppendZeros
import Derived.Lib.SlBytesConst
import Derived.Lib.SliceRun
import Derived.LoopIn
import Derived.LoopNIn
import Derived.Maps.AppendAt
import Derived.OpenShut
import Derived.OwnWalkIn
import Derived.ProofKit
import Derived.RangeFuncBound
import Derived.RangeFuncCalls
import Derived.RangeFuncLeaves
import Derived.RangeFuncNested
import Derived.RangeFuncRecord
import Derived.Shelf.Abstract
import Derived.Shelf.RegionOpen
import Derived.ShutString
import Derived.SizedLaws
import Derived.TacticsInMore
import Derived.WalkKit
import Derived.WalkLawsBesides
import Derived.WalkSpells
import GoSem.Claim
import GoSem.ClaimJoined
import GoSem.ClaimMapViews
import Derived.Test.YtbhhbkoikocjgaaX16
import Derived.Test.YtbhhbkoikocjgaaX12
import Derived.Test.YtbhhbkoikocjgaaX21
import Derived.Test.YtbhhbkoikocjgaaX23
/- Layer spec: what the layers below give. -/
namespace Go.Proofs.Ytbhhbkoikocjgaa
set_option linter.unusedSectionVars false
set_option maxHeartbeats 1000000
open Go.RowKit
set_option maxRecDepth 100000
set_option linter.unusedVariables false
set_option linter.unusedSimpArgs false

variable [DecidableEq Ac] [DecidableEq Ou] [DecidableEq Mg]
theorem dl_len (ps : List Ac) (os : List Ou) (L : List Int) : (dlO ps os L).length ≤ os.length + 1 := by
  unfold dlO dlt
  split
  · unfold act
    split
    · split <;> simp
    · split
      · simp
      · split
        · split
          · simp
          · split <;> simp
        · simp
  · simp
theorem xO_len (ps : List Ac) (os : List Ou) (L : List Int) : (xO ps os L).length ≤ 33 := by
  unfold xO
  split
  · next h => have := may_le h; have := dl_len ps os L; omega
  · simp
theorem xP_ok {ps : List Ac} {os : List Ou} {L : List Int} (hL : Bts L) (hl : ps.length = 32) (h1 : ∀ a ∈ ps, AcOK a) (h2 : ∀ o ∈ os, OuOK o) : (xP ps os L).length = 32 ∧ (∀ a ∈ xP ps os L, AcOK a) ∧ (∀ o ∈ xO ps os L, OuOK o) := by
  have := dl_ok (ps := ps) (os := os) hL hl h1 h2
  unfold xP xO
  split
  · exact this
  · exact ⟨zs_len, zs_ok, fun o ho => by cases ho⟩
theorem os_own {w : World} {base n cap : Nat} {sp : Option Addr} {os : List Ou} (own : w.ownsRow base 66 2 (.slice sp n cap) n (ouF os)) (hn : n = os.length) (hsm : n ≤ 140737488355328) (hoo : ∀ o ∈ os, OuOK o) : OS w.heap.size w sp n cap os := by
  obtain ⟨s, c, e, h, -⟩ := own_os own hn hsm hoo
  cases e; exact h
/-- What Delta answers, as a state. -/
def DX (Q : List Ac) (O : List Ou) (d : Bool) (e : Int) (w : World) (r : Ending) (w' : World) : Prop :=
  ∃ sp n cap, r = .returned (.tuple #[.agg (stA Q sp n cap), .bool d, .int .i64 e]) ∧ SS w'.heap.size w' Q sp n cap O ∧ w'.ownsRow w.heap.size 66 2 (.slice sp n cap) n (ouF O) ∧ Below w.heap.size w w'
theorem DLPost.x {ps : List Ac} {os : List Ou} {L : List Int} {w w' : World} {r : Ending} (hL : Bts L) (hl : ps.length = 32) (h1 : ∀ a ∈ ps, AcOK a) (h2 : ∀ o ∈ os, OuOK o) (h : DLPost ps os L w r w') : DX (xP ps os L) (xO ps os L) (xD ps os L) (xE ps os) w r w' := by
  obtain ⟨sp, n, cap, rfl, own, hn, hb⟩ := h
  obtain ⟨a1, a2, a3⟩ := xP_ok (os := os) hL hl h1 h2
  exact ⟨sp, n, cap, rfl, ⟨Hid.mk' a1, Hid.mk' a2, os_own own hn.out (by have := xO_len ps os L; have := hn.out; omega) a3⟩, own, hb⟩
theorem delta_x (ps : List Ac) (N : Nat) (sp : Option Addr) (n cap : Nat) (os : List Ou) (sb : Option Addr) (nb cb : Nat) (L : List Int) (Nb : Nat) (w : World) (hS : SS N w ps sp n cap os) (hL : BS Nb w sb nb cb L) : Calls Try.prog 46 #[.agg (stA ps sp n cap), .slice sb nb cb] w (DX (xP ps os L) (xO ps os L) (xD ps os L) (xE ps os) w) :=
  (delta_any ps N sp n cap os sb nb cb L Nb w hS hL).mono fun r w' h => DLPost.x hL.bts hS.a32.out hS.ok.out hS.outs.ok h
theorem refDelta_x (ps : List Ac) (N : Nat) (sp : Option Addr) (n cap : Nat) (os : List Ou) (sb : Option Addr) (nb cb : Nat) (L : List Int) (Nb : Nat) (w : World) (hS : SS N w ps sp n cap os) (hL : BS Nb w sb nb cb L) : Calls Try.prog 29 #[.agg (stA ps sp n cap), .slice sb nb cb] w (DX (xP ps os L) (xO ps os L) (xD ps os L) (xE ps os) w) :=
  (refDelta_any ps N sp n cap os sb nb cb L Nb w hS hL).mono fun r w' h => DLPost.x hL.bts hS.a32.out hS.ok.out hS.outs.ok h
theorem ld30g {ops : Array Oper} {rest : List Oper} {o : Oper} {a : Act} {w : World} {Q : Exit → Act → World → Prop} (hgd : Region.wanted o (yielded ops a.tmps) = true) (x : Operand) (ho : o.op = .load 30 x)
    (g ty : Nat) (hx : a.eval x = .pointer (some ⟨g, 0, none⟩)) (ps : List Ac) (sp : Option Addr) (n cap : Nat) (h1 : ps.length = 32) (h2 : ∀ a ∈ ps, a.lk.length = 32) (hA : Arr w g ty (stA ps sp n cap))
    (h : wpList Try.prog ops Q rest (a.put o.dst (.agg (stA ps sp n cap))) w) : wpList Try.prog ops Q (o :: rest) a w :=
  wpList_want hgd fun _ hK => wp_load_mid 30 x ho g 0 hx (stC ps sp n cap) _ hA.st Try.underlying30 rfl (by rw [stC_len h1 h2]; exact size30) (hK _ _ h)
theorem smB_self (Q : List Ac) (O : List Ou) : smB Q O Q O = true := by simp [smB]
end Go.Proofs.Ytbhhbkoikocjgaa
/- Layer spec: what the layers below give. -/
namespace Go.Proofs.Ytbhhbkoikocjgaa
set_option linter.unusedSectionVars false
set_option maxHeartbeats 1000000
open Go.RowKit
set_option maxRecDepth 100000
set_option linter.unusedVariables false
set_option linter.unusedSimpArgs false

variable [DecidableEq Ac] [DecidableEq Ou] [DecidableEq Mg]
def wb (m : Mg) : List Int := if m.may then m.bytes else []
def WPost (m : Mg) (w : World) (e : Ending) (w' : World) : Prop := ∃ sp n cap, e = .returned (.tuple #[.slice sp n cap, .int .i64 (if m.may then 0 else 2)]) ∧ BS w'.heap.size w' sp n cap (wb m) ∧ Below w.heap.size w w'
theorem wb_no {m : Mg} (h : m.may = false) : wb m = [] := by unfold wb; rw [h]; rfl
theorem wb_yes {m : Mg} (h : m.may = true) : wb m = m.bytes := by unfold wb; rw [h]; rfl
theorem WPost.no {m : Mg} {w w' : World} (h : m.may = false) (hb : Below w.heap.size w w') : WPost m w (.returned (.tuple #[.slice none 0 0, .int .i64 2])) w' := ⟨none, 0, 0, by rw [h]; rfl, by rw [wb_no h]; exact BS.nil0 _ _, hb⟩
theorem WPost.yes {m : Mg} {w w' : World} {v : Value} {base : Nat} (hm : MgOK m) (h : m.may = true) (ho : w'.ownsRow base 5 1 v 104 (by8 m.bytes)) (hb : Below w.heap.size w w') : WPost m w (.returned (.tuple #[v, .int .i64 0])) w' := by
  obtain ⟨sp, cap, rfl, hS, -⟩ := own_bs ho (Mg.bbts hm) (by omega)
  exact ⟨sp, 104, cap, by rw [h]; rfl, by rw [wb_yes h]; exact hS, hb⟩
end Go.Proofs.Ytbhhbkoikocjgaa
/- Layer spec: what the layers below give. -/
namespace Go.Proofs.Ytbhhbkoikocjgaa
set_option linter.unusedSectionVars false
set_option maxHeartbeats 1000000
open Go.RowKit
set_option maxRecDepth 100000
set_option linter.unusedVariables false
set_option linter.unusedSimpArgs false

variable [DecidableEq Ac] [DecidableEq Ou] [DecidableEq Mg]
/-- All balances. -/
def sm : List Ac → Int
  | [] => 0
  | a :: r => a.bal + sm r
theorem sm_nn : ∀ (ps : List Ac), (∀ a ∈ ps, AcOK a) → 0 ≤ sm ps
  | [], _ => by simp [sm]
  | a :: r, h => by
    have := sm_nn r (fun x hx => h x (by simp [hx]))
    have := (h a (by simp)).b0
    simp only [sm]; omega
theorem tt_sum : ∀ (ps : List Ac) (t : Int), (∀ a ∈ ps, AcOK a) → t ≤ 4611686018427387904 → tt ps t = if t + sm ps ≤ 4611686018427387904 then some (t + sm ps) else none
  | [], t, _, h => by simp [tt, sm, h]
  | a :: r, t, hok, h => by
    have h0 := sm_nn r (fun x hx => hok x (by simp [hx]))
    have h1 := (hok a (by simp)).b0
    have es : sm (a :: r) = a.bal + sm r := rfl
    have ht : tt (a :: r) t = if a.bal > 4611686018427387904 - t then none else tt r (t + a.bal) := rfl
    rw [ht]
    by_cases hb : a.bal > 4611686018427387904 - t
    · rw [if_pos hb, if_neg (by rw [es]; omega)]
    · rw [if_neg hb, tt_sum r (t + a.bal) (fun x hx => hok x (by simp [hx])) (by omega)]
      rw [show t + a.bal + sm r = t + sm (a :: r) by rw [es]; omega]
theorem may_sum {ps : List Ac} {n : Nat} (hok : ∀ a ∈ ps, AcOK a) : may ps n = true ↔ sm ps ≤ 4611686018427387904 ∧ n ≤ 32 := by
  unfold may
  rw [tt_sum ps 0 hok (by omega), Int.zero_add]
  by_cases h : sm ps ≤ 4611686018427387904 <;> simp [h]
theorem ttV_sum {ps : List Ac} {n : Nat} (hok : ∀ a ∈ ps, AcOK a) (h : may ps n = true) : ttV ps = sm ps := by
  have := (may_sum hok).1 h
  unfold ttV
  rw [tt_sum ps 0 hok (by omega), Int.zero_add, if_pos this.1]; rfl
theorem sm_set : ∀ (ps : List Ac) (i : Nat) (a b : Ac), ps[i]? = some a → sm (ps.set i b) = sm ps - a.bal + b.bal
  | [], i, a, b, h => by simp at h
  | x :: r, 0, a, b, h => by
    simp at h; subst h
    simp only [List.set_cons_zero, sm]; omega
  | x :: r, i + 1, a, b, h => by
    simp only [List.getElem?_cons_succ] at h
    simp only [List.set_cons_succ, sm]
    rw [sm_set r i a b h]; omega
theorem sm_ge : ∀ (ps : List Ac) (i : Nat) (a : Ac), (∀ a ∈ ps, AcOK a) → ps[i]? = some a → a.bal ≤ sm ps
  | [], i, a, _, h => by simp at h
  | x :: r, 0, a, hok, h => by
    simp at h; subst h
    have := sm_nn r (fun y hy => hok y (by simp [hy]))
    simp only [sm]; omega
  | x :: r, i + 1, a, hok, h => by
    simp only [List.getElem?_cons_succ] at h
    have := sm_ge r i a (fun y hy => hok y (by simp [hy])) h
    have := (hok x (by simp)).b0
    simp only [sm]; omega
/-- A balance grows by x, if it does not pass the end of the numbers. -/
theorem sm_add {ps : List Ac} {j : Nat} {x : Int} (hok : ∀ a ∈ ps, AcOK a) (hj : j < ps.length) (h0 : 0 ≤ x) (h : sm ps + x < 18446744073709551616) : sm (addB ps j x) = sm ps + x := by
  have hb : ps[j]? = some ps[j] := List.getElem?_eq_getElem hj
  have h1 := sm_ge ps j ps[j] hok hb
  have h2 := (hok _ (List.getElem_mem hj)).b0
  rw [addB_some hb, sm_set ps j ps[j] _ hb]
  simp only []
  omega
theorem spd_facts {a : Ac} {m : Mg} (h : spd a m = true) : m.no = a.non ∧ m.am ≤ a.bal ∧ a.non ≠ 18446744073709551615 := by
  simp only [spd, opn, Bool.and_eq_true, decide_eq_true_eq, Bool.not_eq_true', decide_eq_false_iff_not] at h
  exact ⟨h.1.1, h.2.1, h.2.2⟩
theorem act_keeps {ps q : List Ac} {os u : List Ou} {m : Mg} (hm : MgOK m) (hmy : m.may = true) (hl : ps.length = 32) (hok : ∀ a ∈ ps, AcOK a) (hma : may ps os.length = true) (h : act ps os m = some (q, u)) :
    may q u.length = true ∧ sm q = sm ps + (if m.kd = 1 then m.am else 0) - (if m.kd = 3 then m.am else 0) ∧ ((u = os ∧ m.kd ≠ 3) ∨ (m.kd = 3 ∧ u = os ++ [⟨m.tw, m.am⟩])) := by
  have hk := may_kinds hm hmy
  have hs := (may_sum hok).1 hma
  have ht0 := hm.t0
  have hf0 := hm.f0
  have ha0 := hm.a0
  have hv := ttV_sum hok hma
  unfold act at h
  split at h
  · next hk1 =>
    obtain ⟨-, ht, -⟩ : m.kd = 1 ∧ m.tw < 32 ∧ 0 < m.am := by omega
    split at h
    · next hr =>
      cases h
      rw [hv] at hr
      have e := sm_add (j := m.tw.toNat) (x := m.am) hok (by omega) ha0 (by omega)
      refine ⟨(may_sum (addB_ok hok _ _)).2 ⟨by rw [e]; omega, hs.2⟩, ?_, .inl ⟨rfl, by omega⟩⟩
      rw [e, if_pos hk1, if_neg (by omega)]; omega
    · cases h
  · next hk1 =>
    split at h
    · cases h
    · next a ha =>
      split at h
      · next hsp =>
        obtain ⟨-, hle, -⟩ := spd_facts hsp
        have hao := hok a (List.mem_of_getElem? ha)
        have hsa := spent_ok hao hm hsp
        have hok' := set_ok hok m.fr.toNat hsa
        have e1 : sm (ps.set m.fr.toNat (spent a m)) = sm ps - m.am := by
          rw [sm_set ps _ a _ ha]; simp only [spent]; omega
        split at h
        · next hk2 =>
          cases h
          obtain ⟨-, -, ht⟩ : m.kd = 2 ∧ m.fr < 32 ∧ m.tw < 32 := by omega
          have e := sm_add (j := m.tw.toNat) (x := m.am) hok' (by rw [List.length_set]; omega) ha0 (by omega)
          refine ⟨(may_sum (addB_ok hok' _ _)).2 ⟨by rw [e]; omega, hs.2⟩, ?_, .inl ⟨rfl, by omega⟩⟩
          rw [e, e1, if_neg hk1, if_neg (by omega)]; omega
        · next hk2 =>
          split at h
          · next h32 =>
            cases h
            refine ⟨(may_sum hok').2 ⟨by rw [e1]; omega, by rw [List.length_append]; simp; omega⟩, ?_, .inr ⟨by omega, rfl⟩⟩
            rw [e1, if_neg hk1, if_pos (by omega)]; omega
          · cases h
      · cases h
theorem act_once {ps q : List Ac} {os u : List Ou} {m : Mg} (hm : MgOK m) (hl : ps.length = 32) (hok : ∀ a ∈ ps, AcOK a) (hk1 : ¬ m.kd = 1) (h : act ps os m = some (q, u)) :
    act q u m = none ∧ ∃ a b, ps[m.fr.toNat]? = some a ∧ q[m.fr.toNat]? = some b ∧ b.non = a.non + 1 ∧ a.non + 1 < 18446744073709551616 := by
  have h' := h
  unfold act at h
  rw [if_neg hk1] at h
  cases ha : ps[m.fr.toNat]? with
  | none => rw [ha] at h; cases h
  | some a =>
    rw [ha] at h
    simp only [] at h
    split at h
    · next hsp =>
      obtain ⟨hno, -, hne⟩ := spd_facts hsp
      have hao := hok a (List.mem_of_getElem? ha)
      have hi := (List.getElem?_eq_some_iff.1 ha).1
      have hn1 := hao.n1
      have key : ∃ b, q[m.fr.toNat]? = some b ∧ b.non = a.non + 1 := by
        have hset : (ps.set m.fr.toNat (spent a m))[m.fr.toNat]? = some (spent a m) := List.getElem?_set_self hi
        split at h
        · cases h
          have := addB_non (ps.set m.fr.toNat (spent a m)) m.tw.toNat m.am m.fr.toNat
          rw [hset] at this
          cases hb : (addB (ps.set m.fr.toNat (spent a m)) m.tw.toNat m.am)[m.fr.toNat]? with
          | none => rw [hb] at this; cases this
          | some b => rw [hb] at this; exact ⟨b, rfl, by simpa [spent] using this⟩
        · split at h
          · cases h; exact ⟨_, hset, rfl⟩
          · cases h
      obtain ⟨b, hb, hbn⟩ := key
      refine ⟨?_, a, b, rfl, hb, hbn, by omega⟩
      unfold act
      rw [if_neg hk1, hb]
      simp only []
      have : spd b m = false := by
        unfold spd opn
        rw [decide_eq_false (by omega)]; rfl
      rw [this]; rfl
    · cases h
theorem dlt_some {ps : List Ac} {os : List Ou} {L : List Int} {r : List Ac × List Ou} (h : dlt ps os L = some r) : rdE L = 0 ∧ act ps os (rdM L) = some r := by
  unfold dlt at h
  split at h
  · next he => exact ⟨he, h⟩
  · cases h
/-- Where Delta did something. -/
theorem did_some {ps : List Ac} {os : List Ou} {L : List Int} (h : xD ps os L = true) : may ps os.length = true ∧ xE ps os = 0 ∧ rdE L = 0 ∧ act ps os (rdM L) = some (xP ps os L, xO ps os L) := by
  unfold xD dlD at h
  simp only [Bool.and_eq_true] at h
  obtain ⟨hm, hs⟩ := h
  obtain ⟨r, hr⟩ := Option.isSome_iff_exists.1 hs
  obtain ⟨e0, ha⟩ := dlt_some hr
  refine ⟨hm, by unfold xE; rw [if_pos hm], e0, ?_⟩
  unfold xP xO dlP dlO
  rw [if_pos hm, if_pos hm, hr, ha]
  cases r; rfl
theorem did_none {ps : List Ac} {os : List Ou} {L : List Int} (hm : may ps os.length = true) (h : dlt ps os L = none) : xP ps os L = ps ∧ xO ps os L = os ∧ xD ps os L = false ∧ xE ps os = 0 := by
  unfold xP xO xD xE dlP dlO dlD
  rw [if_pos hm, if_pos hm, hm, h]
  exact ⟨rfl, rfl, rfl, rfl⟩
theorem did_false {ps : List Ac} {os : List Ou} {L : List Int} (hm : may ps os.length = true) (h : xD ps os L = false) : xP ps os L = ps ∧ xO ps os L = os ∧ xE ps os = 0 := by
  have : dlt ps os L = none := by
    unfold xD dlD at h
    rw [hm] at h
    simpa using h
  have := did_none hm this
  exact ⟨this.1, this.2.1, this.2.2.2⟩
theorem not_may {ps : List Ac} {os : List Ou} {L : List Int} (hm : may ps os.length = false) : xD ps os L = false ∧ xE ps os = 2 := by
  unfold xD xE; rw [hm]; exact ⟨rfl, rfl⟩
end Go.Proofs.Ytbhhbkoikocjgaa
/- Layer spec: what the layers below give. -/
namespace Go.Proofs.Ytbhhbkoikocjgaa
set_option linter.unusedSectionVars false
set_option maxHeartbeats 1000000
open Go.RowKit
set_option maxRecDepth 100000
set_option linter.unusedVariables false
set_option linter.unusedSimpArgs false

variable [DecidableEq Ac] [DecidableEq Ou] [DecidableEq Mg]
def gI (L : List Int) : Int := if rdE L = 0 ∧ (rdM L).kd = 1 then (rdM L).am else 0
def gO (L : List Int) : Int := if rdE L = 0 ∧ (rdM L).kd = 3 then (rdM L).am else 0
set_option maxHeartbeats 1000000 in
theorem gain_any (sb : Option Addr) (nb cb : Nat) (L : List Int) (Nb : Nat) (w : World) (hL : BS Nb w sb nb cb L) : Calls Try.prog 51 #[.slice sb nb cb] w fun r w' => r = .returned (.tuple #[.int .u64 (gI L), .int .u64 (gO L)]) ∧ Below w.heap.size w w' := by
  have hmo := rdM_ok hL.bts
  have hRd := read_any sb nb cb _ L w hL
  unfold RPost at hRd
  have z27 := zv27
  have hmz := Mg.size mg0_ok
  have hgi : Hid (gI L = if rdE L = 0 ∧ (rdM L).kd = 1 then (rdM L).am else 0) := Hid.mk' rfl
  have hgo : Hid (gO L = if rdE L = 0 ∧ (rdM L).kd = 3 then (rdM L).am else 0) := Hid.mk' rfl
  go_enter Try.func51, Try.ntmps51
  by_cases he : rdE L = 0
  · have hmy := rdE_may he
    rw [he] at hRd
    generalize rdM L = m at *
    replace hRd := Hid.mk' hRd
    rcases may_kinds hmo hmy with ⟨hk, -⟩ | ⟨hk, -⟩ | ⟨hk, -⟩
    · replace hgi : Hid (gI L = m.am) := Hid.mk' (by rw [hgi.out, if_pos ⟨he, hk⟩])
      replace hgo : Hid (gO L = 0) := Hid.mk' (by rw [hgo.out, if_neg (fun h => by omega)])
      clear he
      go_upto_region 2 with (first
        | (go_at_call 64; go_must (refine hRd.out.mono ?_; rintro r w1 ⟨rfl, hb1⟩))
        | (refine atS 95 (.tmp 4) (.tmp 9) ?_; refine st27n (by rfl) _ _ (by rfl) w1 w1.heap.size rfl hmz m (by rfl) (by rfl) hmo ?_))
      have B1 := (hb1.alloc hb1.size (.cells m.arr 95))
      have M1 := Arr.new w1 95 m.arr
      generalize w1.alloc (.cells m.arr 95) = W1 at *
      generalize w1.heap.size = GM at *
      have c0 := mg_c0 M1
      have c3 := mg_c3 M1
      rw [hk] at c0
      clear hk
      go_wp2_with fail
      go_ret2
      exact ⟨by rw [hgi.out, hgo.out]; rfl, B1⟩
    · replace hgi : Hid (gI L = 0) := Hid.mk' (by rw [hgi.out, if_neg (fun h => by omega)])
      replace hgo : Hid (gO L = 0) := Hid.mk' (by rw [hgo.out, if_neg (fun h => by omega)])
      clear he
      go_upto_region 2 with (first
        | (go_at_call 64; go_must (refine hRd.out.mono ?_; rintro r w1 ⟨rfl, hb1⟩))
        | (refine atS 95 (.tmp 4) (.tmp 9) ?_; refine st27n (by rfl) _ _ (by rfl) w1 w1.heap.size rfl hmz m (by rfl) (by rfl) hmo ?_))
      have B1 := (hb1.alloc hb1.size (.cells m.arr 95))
      have M1 := Arr.new w1 95 m.arr
      generalize w1.alloc (.cells m.arr 95) = W1 at *
      generalize w1.heap.size = GM at *
      have c0 := mg_c0 M1
      have c3 := mg_c3 M1
      rw [hk] at c0
      clear hk
      go_wp2_with fail
      go_ret2
      exact ⟨by rw [hgi.out, hgo.out]; rfl, B1⟩
    · replace hgi : Hid (gI L = 0) := Hid.mk' (by rw [hgi.out, if_neg (fun h => by omega)])
      replace hgo : Hid (gO L = m.am) := Hid.mk' (by rw [hgo.out, if_pos ⟨he, hk⟩])
      clear he
      go_upto_region 2 with (first
        | (go_at_call 64; go_must (refine hRd.out.mono ?_; rintro r w1 ⟨rfl, hb1⟩))
        | (refine atS 95 (.tmp 4) (.tmp 9) ?_; refine st27n (by rfl) _ _ (by rfl) w1 w1.heap.size rfl hmz m (by rfl) (by rfl) hmo ?_))
      have B1 := (hb1.alloc hb1.size (.cells m.arr 95))
      have M1 := Arr.new w1 95 m.arr
      generalize w1.alloc (.cells m.arr 95) = W1 at *
      generalize w1.heap.size = GM at *
      have c0 := mg_c0 M1
      have c3 := mg_c3 M1
      rw [hk] at c0
      clear hk
      go_upto_region 8 with fail
      have M2 := M1.drew
      refine wp_region_held_drew (S := fun u => Arr u GM 95 m.arr) (by kernel_rfl) (M2) (fun hHeld => ?_)
      refine wpAnyH_take (i := 0) (oi := ⟨_, _, _, _, _, _⟩) (v := ?_) rfl (by kernel_rfl) (by kernel_rfl) (by kernel_rfl) (fun _ _ _ h => h) (Or.inl ⟨by rfl, ?_⟩) (by assumption) ?_
      rotate_left
      · intro u hSw
        go_simp
        try (with_reducible rfl)
      try simp only [Act.put, List.setIfInBounds_toArray, List.set_cons_zero, List.set_cons_succ]
      refine wpAnyH_take (i := 1) (oi := ⟨_, _, _, _, _, _⟩) (v := ?_) rfl (by kernel_rfl) (by kernel_rfl) (by kernel_rfl) (fun _ _ _ h => h) (Or.inl ⟨by rfl, ?_⟩) (by assumption) ?_
      rotate_left
      · intro u hSw
        have cc := mg_c3 hSw
        go_simp
        try (with_reducible rfl)
      try simp only [Act.put, List.setIfInBounds_toArray, List.set_cons_zero, List.set_cons_succ]
      refine wpAnyH_take (i := 2) (oi := ⟨_, _, _, _, _, _⟩) (v := ?_) rfl (by kernel_rfl) (by kernel_rfl) (by kernel_rfl) (fun _ _ _ h => h) (Or.inl ⟨by rfl, ?_⟩) (by assumption) ?_
      rotate_left
      · intro u hSw
        go_simp
        try (with_reducible rfl)
      try simp only [Act.put, List.setIfInBounds_toArray, List.set_cons_zero, List.set_cons_succ]
      refine wpAnyH_take (i := 3) (oi := ⟨_, _, _, _, _, _⟩) (v := ?_) rfl (by kernel_rfl) (by kernel_rfl) (by kernel_rfl) (fun _ _ _ h => h) (Or.inl ⟨by rfl, ?_⟩) (by assumption) ?_
      rotate_left
      · intro u hSw
        go_simp
        try (with_reducible rfl)
      try simp only [Act.put, List.setIfInBounds_toArray, List.set_cons_zero, List.set_cons_succ]
      refine wpAnyH_done (by kernel_rfl) ?_ _
      go_wp2_with fail
      go_ret2
      exact ⟨by rw [hgi.out, hgo.out]; rfl, B1.drew⟩
  · have hne : (rdE L != 0) = true := by simp [he]
    replace hgi : Hid (gI L = 0) := Hid.mk' (by rw [hgi.out, if_neg (fun h => he h.1)])
    replace hgo : Hid (gO L = 0) := Hid.mk' (by rw [hgo.out, if_neg (fun h => he h.1)])
    generalize rdM L = m at *
    generalize rdE L = ee at *
    replace hRd := Hid.mk' hRd
    clear he
    go_upto_region 2 with (first
      | (go_at_call 64; go_must (refine hRd.out.mono ?_; rintro r w1 ⟨rfl, hb1⟩))
      | (refine atS 95 (.tmp 4) (.tmp 9) ?_; refine st27n (by rfl) _ _ (by rfl) w1 w1.heap.size rfl hmz m (by rfl) (by rfl) hmo ?_))
    have B1 := (hb1.alloc hb1.size (.cells m.arr 95))
    have M1 := Arr.new w1 95 m.arr
    generalize w1.alloc (.cells m.arr 95) = W1 at *
    generalize w1.heap.size = GM at *
    have c0 := mg_c0 M1
    have c3 := mg_c3 M1
    go_wp2_with fail
    go_ret2
    exact ⟨by rw [hgi.out, hgo.out]; rfl, B1⟩
set_option maxHeartbeats 1000000 in
theorem refGain_any (sb : Option Addr) (nb cb : Nat) (L : List Int) (Nb : Nat) (w : World) (hL : BS Nb w sb nb cb L) : Calls Try.prog 36 #[.slice sb nb cb] w fun r w' => r = .returned (.tuple #[.int .u64 (gI L), .int .u64 (gO L)]) ∧ Below w.heap.size w w' := by
  have hmo := rdM_ok hL.bts
  have hRd := refRead_any sb nb cb _ L w hL
  unfold RPost at hRd
  have z27 := zv27
  have hmz := Mg.size mg0_ok
  have hgi : Hid (gI L = if rdE L = 0 ∧ (rdM L).kd = 1 then (rdM L).am else 0) := Hid.mk' rfl
  have hgo : Hid (gO L = if rdE L = 0 ∧ (rdM L).kd = 3 then (rdM L).am else 0) := Hid.mk' rfl
  go_enter Try.func36, Try.ntmps36
  by_cases he : rdE L = 0
  · have hmy := rdE_may he
    rw [he] at hRd
    generalize rdM L = m at *
    replace hRd := Hid.mk' hRd
    rcases may_kinds hmo hmy with ⟨hk, -⟩ | ⟨hk, -⟩ | ⟨hk, -⟩
    · replace hgi : Hid (gI L = m.am) := Hid.mk' (by rw [hgi.out, if_pos ⟨he, hk⟩])
      replace hgo : Hid (gO L = 0) := Hid.mk' (by rw [hgo.out, if_neg (fun h => by omega)])
      clear he
      go_upto_region 2 with (first
        | (go_at_call 47; go_must (refine hRd.out.mono ?_; rintro r w1 ⟨rfl, hb1⟩))
        | (refine atS 95 (.tmp 4) (.tmp 9) ?_; refine st27n (by rfl) _ _ (by rfl) w1 w1.heap.size rfl hmz m (by rfl) (by rfl) hmo ?_))
      have B1 := (hb1.alloc hb1.size (.cells m.arr 95))
      have M1 := Arr.new w1 95 m.arr
      generalize w1.alloc (.cells m.arr 95) = W1 at *
      generalize w1.heap.size = GM at *
      have c0 := mg_c0 M1
      have c3 := mg_c3 M1
      rw [hk] at c0
      clear hk
      go_wp2_with fail
      go_ret2
      exact ⟨by rw [hgi.out, hgo.out]; rfl, B1⟩
    · replace hgi : Hid (gI L = 0) := Hid.mk' (by rw [hgi.out, if_neg (fun h => by omega)])
      replace hgo : Hid (gO L = 0) := Hid.mk' (by rw [hgo.out, if_neg (fun h => by omega)])
      clear he
      go_upto_region 2 with (first
        | (go_at_call 47; go_must (refine hRd.out.mono ?_; rintro r w1 ⟨rfl, hb1⟩))
        | (refine atS 95 (.tmp 4) (.tmp 9) ?_; refine st27n (by rfl) _ _ (by rfl) w1 w1.heap.size rfl hmz m (by rfl) (by rfl) hmo ?_))
      have B1 := (hb1.alloc hb1.size (.cells m.arr 95))
      have M1 := Arr.new w1 95 m.arr
      generalize w1.alloc (.cells m.arr 95) = W1 at *
      generalize w1.heap.size = GM at *
      have c0 := mg_c0 M1
      have c3 := mg_c3 M1
      rw [hk] at c0
      clear hk
      go_wp2_with fail
      go_ret2
      exact ⟨by rw [hgi.out, hgo.out]; rfl, B1⟩
    · replace hgi : Hid (gI L = 0) := Hid.mk' (by rw [hgi.out, if_neg (fun h => by omega)])
      replace hgo : Hid (gO L = m.am) := Hid.mk' (by rw [hgo.out, if_pos ⟨he, hk⟩])
      clear he
      go_upto_region 2 with (first
        | (go_at_call 47; go_must (refine hRd.out.mono ?_; rintro r w1 ⟨rfl, hb1⟩))
        | (refine atS 95 (.tmp 4) (.tmp 9) ?_; refine st27n (by rfl) _ _ (by rfl) w1 w1.heap.size rfl hmz m (by rfl) (by rfl) hmo ?_))
      have B1 := (hb1.alloc hb1.size (.cells m.arr 95))
      have M1 := Arr.new w1 95 m.arr
      generalize w1.alloc (.cells m.arr 95) = W1 at *
      generalize w1.heap.size = GM at *
      have c0 := mg_c0 M1
      have c3 := mg_c3 M1
      rw [hk] at c0
      clear hk
      go_upto_region 8 with fail
      have M2 := M1.drew
      refine wp_region_held_drew (S := fun u => Arr u GM 95 m.arr) (by kernel_rfl) (M2) (fun hHeld => ?_)
      refine wpAnyH_take (i := 0) (oi := ⟨_, _, _, _, _, _⟩) (v := ?_) rfl (by kernel_rfl) (by kernel_rfl) (by kernel_rfl) (fun _ _ _ h => h) (Or.inl ⟨by rfl, ?_⟩) (by assumption) ?_
      rotate_left
      · intro u hSw
        go_simp
        try (with_reducible rfl)
      try simp only [Act.put, List.setIfInBounds_toArray, List.set_cons_zero, List.set_cons_succ]
      refine wpAnyH_take (i := 1) (oi := ⟨_, _, _, _, _, _⟩) (v := ?_) rfl (by kernel_rfl) (by kernel_rfl) (by kernel_rfl) (fun _ _ _ h => h) (Or.inl ⟨by rfl, ?_⟩) (by assumption) ?_
      rotate_left
      · intro u hSw
        have cc := mg_c3 hSw
        go_simp
        try (with_reducible rfl)
      try simp only [Act.put, List.setIfInBounds_toArray, List.set_cons_zero, List.set_cons_succ]
      refine wpAnyH_take (i := 2) (oi := ⟨_, _, _, _, _, _⟩) (v := ?_) rfl (by kernel_rfl) (by kernel_rfl) (by kernel_rfl) (fun _ _ _ h => h) (Or.inl ⟨by rfl, ?_⟩) (by assumption) ?_
      rotate_left
      · intro u hSw
        go_simp
        try (with_reducible rfl)
      try simp only [Act.put, List.setIfInBounds_toArray, List.set_cons_zero, List.set_cons_succ]
      refine wpAnyH_take (i := 3) (oi := ⟨_, _, _, _, _, _⟩) (v := ?_) rfl (by kernel_rfl) (by kernel_rfl) (by kernel_rfl) (fun _ _ _ h => h) (Or.inl ⟨by rfl, ?_⟩) (by assumption) ?_
      rotate_left
      · intro u hSw
        go_simp
        try (with_reducible rfl)
      try simp only [Act.put, List.setIfInBounds_toArray, List.set_cons_zero, List.set_cons_succ]
      refine wpAnyH_done (by kernel_rfl) ?_ _
      go_wp2_with fail
      go_ret2
      exact ⟨by rw [hgi.out, hgo.out]; rfl, B1.drew⟩
  · have hne : (rdE L != 0) = true := by simp [he]
    replace hgi : Hid (gI L = 0) := Hid.mk' (by rw [hgi.out, if_neg (fun h => he h.1)])
    replace hgo : Hid (gO L = 0) := Hid.mk' (by rw [hgo.out, if_neg (fun h => he h.1)])
    generalize rdM L = m at *
    generalize rdE L = ee at *
    replace hRd := Hid.mk' hRd
    clear he
    go_upto_region 2 with (first
      | (go_at_call 47; go_must (refine hRd.out.mono ?_; rintro r w1 ⟨rfl, hb1⟩))
      | (refine atS 95 (.tmp 4) (.tmp 9) ?_; refine st27n (by rfl) _ _ (by rfl) w1 w1.heap.size rfl hmz m (by rfl) (by rfl) hmo ?_))
    have B1 := (hb1.alloc hb1.size (.cells m.arr 95))
    have M1 := Arr.new w1 95 m.arr
    generalize w1.alloc (.cells m.arr 95) = W1 at *
    generalize w1.heap.size = GM at *
    have c0 := mg_c0 M1
    have c3 := mg_c3 M1
    go_wp2_with fail
    go_ret2
    exact ⟨by rw [hgi.out, hgo.out]; rfl, B1⟩
end Go.Proofs.Ytbhhbkoikocjgaa
