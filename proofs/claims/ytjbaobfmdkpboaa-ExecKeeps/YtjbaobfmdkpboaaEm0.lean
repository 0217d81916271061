/- Layer exec: nothing is made, nothing is lost. Pure. -/
import Derived.Test.YtjbaobfmdkpboaaX31
namespace Go.Proofs.Ytjbaobfmdkpboaa
set_option linter.unusedSectionVars false
set_option maxHeartbeats 1000000
open Go.RowKit
set_option maxRecDepth 100000
set_option linter.unusedVariables false
set_option linter.unusedSimpArgs false

variable [DecidableEq Ac] [DecidableEq Ou] [DecidableEq Mg]
/-- All balances. -/
def sm : List Ac → Int
  | [] => 0
  | a :: r => a.bal + sm r
theorem sm_nn : ∀ (ps : List Ac), (∀ a ∈ ps, AcOK a) → 0 ≤ sm ps
  | [], _ => by simp [sm]
  | a :: r, h => by
    have := sm_nn r (fun x hx => h x (by simp [hx]))
    have := (h a (by simp)).b0
    simp only [sm]; omega
theorem tt_sum : ∀ (ps : List Ac) (t : Int), (∀ a ∈ ps, AcOK a) → t ≤ 4611686018427387904 → tt ps t = if t + sm ps ≤ 4611686018427387904 then some (t + sm ps) else none
  | [], t, _, h => by simp [tt, sm, h]
  | a :: r, t, hok, h => by
    have h0 := sm_nn r (fun x hx => hok x (by simp [hx]))
    have h1 := (hok a (by simp)).b0
    have es : sm (a :: r) = a.bal + sm r := rfl
    have ht : tt (a :: r) t = if a.bal > 4611686018427387904 - t then none else tt r (t + a.bal) := rfl
    rw [ht]
    by_cases hb : a.bal > 4611686018427387904 - t
    · rw [if_pos hb, if_neg (by rw [es]; omega)]
    · rw [if_neg hb, tt_sum r (t + a.bal) (fun x hx => hok x (by simp [hx])) (by omega)]
      rw [show t + a.bal + sm r = t + sm (a :: r) by rw [es]; omega]
theorem may_sum {ps : List Ac} {n : Nat} (hok : ∀ a ∈ ps, AcOK a) : may ps n = true ↔ sm ps ≤ 4611686018427387904 ∧ n ≤ 32 := by
  unfold may
  rw [tt_sum ps 0 hok (by omega), Int.zero_add]
  by_cases h : sm ps ≤ 4611686018427387904 <;> simp [h]
theorem ttV_sum {ps : List Ac} {n : Nat} (hok : ∀ a ∈ ps, AcOK a) (h : may ps n = true) : ttV ps = sm ps := by
  have := (may_sum hok).1 h
  unfold ttV
  rw [tt_sum ps 0 hok (by omega), Int.zero_add, if_pos this.1]; rfl
theorem sm_set : ∀ (ps : List Ac) (i : Nat) (a b : Ac), ps[i]? = some a → sm (ps.set i b) = sm ps - a.bal + b.bal
  | [], i, a, b, h => by simp at h
  | x :: r, 0, a, b, h => by
    simp at h; subst h
    simp only [List.set_cons_zero, sm]; omega
  | x :: r, i + 1, a, b, h => by
    simp only [List.getElem?_cons_succ] at h
    simp only [List.set_cons_succ, sm]
    rw [sm_set r i a b h]; omega
theorem sm_ge : ∀ (ps : List Ac) (i : Nat) (a : Ac), (∀ a ∈ ps, AcOK a) → ps[i]? = some a → a.bal ≤ sm ps
  | [], i, a, _, h => by simp at h
  | x :: r, 0, a, hok, h => by
    simp at h; subst h
    have := sm_nn r (fun y hy => hok y (by simp [hy]))
    simp only [sm]; omega
  | x :: r, i + 1, a, hok, h => by
    simp only [List.getElem?_cons_succ] at h
    have := sm_ge r i a (fun y hy => hok y (by simp [hy])) h
    have := (hok x (by simp)).b0
    simp only [sm]; omega
/-- A balance grows by x, if it does not pass the end of the numbers. -/
theorem sm_add {ps : List Ac} {j : Nat} {x : Int} (hok : ∀ a ∈ ps, AcOK a) (hj : j < ps.length) (h0 : 0 ≤ x) (h : sm ps + x < 18446744073709551616) : sm (addB ps j x) = sm ps + x := by
  have hb : ps[j]? = some ps[j] := List.getElem?_eq_getElem hj
  have h1 := sm_ge ps j ps[j] hok hb
  have h2 := (hok _ (List.getElem_mem hj)).b0
  rw [addB_some hb, sm_set ps j ps[j] _ hb]
  simp only []
  omega
theorem spd_facts {a : Ac} {m : Mg} (h : spd a m = true) : m.no = a.non ∧ m.am ≤ a.bal ∧ a.non ≠ 18446744073709551615 := by
  simp only [spd, opn, Bool.and_eq_true, decide_eq_true_eq, Bool.not_eq_true', decide_eq_false_iff_not] at h
  exact ⟨h.1.1, h.2.1, h.2.2⟩
theorem act_keeps {ps q : List Ac} {os u : List Ou} {m : Mg} (hm : MgOK m) (hmy : m.may = true) (hl : ps.length = 32) (hok : ∀ a ∈ ps, AcOK a) (hma : may ps os.length = true) (h : act ps os m = some (q, u)) :
    may q u.length = true ∧ sm q = sm ps + (if m.kd = 1 then m.am else 0) - (if m.kd = 3 then m.am else 0) ∧ ((u = os ∧ m.kd ≠ 3) ∨ (m.kd = 3 ∧ u = os ++ [⟨m.tw, m.am⟩])) := by
  have hk := may_kinds hm hmy
  have hs := (may_sum hok).1 hma
  have ht0 := hm.t0
  have hf0 := hm.f0
  have ha0 := hm.a0
  have hv := ttV_sum hok hma
  unfold act at h
  split at h
  · next hk1 =>
    obtain ⟨-, ht, -⟩ : m.kd = 1 ∧ m.tw < 32 ∧ 0 < m.am := by omega
    split at h
    · next hr =>
      cases h
      rw [hv] at hr
      have e := sm_add (j := m.tw.toNat) (x := m.am) hok (by omega) ha0 (by omega)
      refine ⟨(may_sum (addB_ok hok _ _)).2 ⟨by rw [e]; omega, hs.2⟩, ?_, .inl ⟨rfl, by omega⟩⟩
      rw [e, if_pos hk1, if_neg (by omega)]; omega
    · cases h
  · next hk1 =>
    split at h
    · cases h
    · next a ha =>
      split at h
      · next hsp =>
        obtain ⟨-, hle, -⟩ := spd_facts hsp
        have hao := hok a (List.mem_of_getElem? ha)
        have hsa := spent_ok hao hm hsp
        have hok' := set_ok hok m.fr.toNat hsa
        have e1 : sm (ps.set m.fr.toNat (spent a m)) = sm ps - m.am := by
          rw [sm_set ps _ a _ ha]; simp only [spent]; omega
        split at h
        · next hk2 =>
          cases h
          obtain ⟨-, -, ht⟩ : m.kd = 2 ∧ m.fr < 32 ∧ m.tw < 32 := by omega
          have e := sm_add (j := m.tw.toNat) (x := m.am) hok' (by rw [List.length_set]; omega) ha0 (by omega)
          refine ⟨(may_sum (addB_ok hok' _ _)).2 ⟨by rw [e]; omega, hs.2⟩, ?_, .inl ⟨rfl, by omega⟩⟩
          rw [e, e1, if_neg hk1, if_neg (by omega)]; omega
        · next hk2 =>
          split at h
          · next h32 =>
            cases h
            refine ⟨(may_sum hok').2 ⟨by rw [e1]; omega, by rw [List.length_append]; simp; omega⟩, ?_, .inr ⟨by omega, rfl⟩⟩
            rw [e1, if_neg hk1, if_pos (by omega)]; omega
          · cases h
      · cases h
theorem act_once {ps q : List Ac} {os u : List Ou} {m : Mg} (hm : MgOK m) (hl : ps.length = 32) (hok : ∀ a ∈ ps, AcOK a) (hk1 : ¬ m.kd = 1) (h : act ps os m = some (q, u)) :
    act q u m = none ∧ ∃ a b, ps[m.fr.toNat]? = some a ∧ q[m.fr.toNat]? = some b ∧ b.non = a.non + 1 ∧ a.non + 1 < 18446744073709551616 := by
  have h' := h
  unfold act at h
  rw [if_neg hk1] at h
  cases ha : ps[m.fr.toNat]? with
  | none => rw [ha] at h; cases h
  | some a =>
    rw [ha] at h
    simp only [] at h
    split at h
    · next hsp =>
      obtain ⟨hno, -, hne⟩ := spd_facts hsp
      have hao := hok a (List.mem_of_getElem? ha)
      have hi := (List.getElem?_eq_some_iff.1 ha).1
      have hn1 := hao.n1
      have key : ∃ b, q[m.fr.toNat]? = some b ∧ b.non = a.non + 1 := by
        have hset : (ps.set m.fr.toNat (spent a m))[m.fr.toNat]? = some (spent a m) := List.getElem?_set_self hi
        split at h
        · cases h
          have := addB_non (ps.set m.fr.toNat (spent a m)) m.tw.toNat m.am m.fr.toNat
          rw [hset] at this
          cases hb : (addB (ps.set m.fr.toNat (spent a m)) m.tw.toNat m.am)[m.fr.toNat]? with
          | none => rw [hb] at this; cases this
          | some b => rw [hb] at this; exact ⟨b, rfl, by simpa [spent] using this⟩
        · split at h
          · cases h; exact ⟨_, hset, rfl⟩
          · cases h
      obtain ⟨b, hb, hbn⟩ := key
      refine ⟨?_, a, b, rfl, hb, hbn, by omega⟩
      unfold act
      rw [if_neg hk1, hb]
      simp only []
      have : spd b m = false := by
        unfold spd opn
        rw [decide_eq_false (by omega)]; rfl
      rw [this]; rfl
    · cases h
theorem dlt_some {ps : List Ac} {os : List Ou} {L : List Int} {r : List Ac × List Ou} (h : dlt ps os L = some r) : rdE L = 0 ∧ act ps os (rdM L) = some r := by
  unfold dlt at h
  split at h
  · next he => exact ⟨he, h⟩
  · cases h
/-- Where Delta did something. -/
theorem did_some {ps : List Ac} {os : List Ou} {L : List Int} (h : xD ps os L = true) : may ps os.length = true ∧ xE ps os = 0 ∧ rdE L = 0 ∧ act ps os (rdM L) = some (xP ps os L, xO ps os L) := by
  unfold xD dlD at h
  simp only [Bool.and_eq_true] at h
  obtain ⟨hm, hs⟩ := h
  obtain ⟨r, hr⟩ := Option.isSome_iff_exists.1 hs
  obtain ⟨e0, ha⟩ := dlt_some hr
  refine ⟨hm, by unfold xE; rw [if_pos hm], e0, ?_⟩
  unfold xP xO dlP dlO
  rw [if_pos hm, if_pos hm, hr, ha]
  cases r; rfl
theorem did_none {ps : List Ac} {os : List Ou} {L : List Int} (hm : may ps os.length = true) (h : dlt ps os L = none) : xP ps os L = ps ∧ xO ps os L = os ∧ xD ps os L = false ∧ xE ps os = 0 := by
  unfold xP xO xD xE dlP dlO dlD
  rw [if_pos hm, if_pos hm, hm, h]
  exact ⟨rfl, rfl, rfl, rfl⟩
theorem did_false {ps : List Ac} {os : List Ou} {L : List Int} (hm : may ps os.length = true) (h : xD ps os L = false) : xP ps os L = ps ∧ xO ps os L = os ∧ xE ps os = 0 := by
  have : dlt ps os L = none := by
    unfold xD dlD at h
    rw [hm] at h
    simpa using h
  have := did_none hm this
  exact ⟨this.1, this.2.1, this.2.2.2⟩
theorem not_may {ps : List Ac} {os : List Ou} {L : List Int} (hm : may ps os.length = false) : xD ps os L = false ∧ xE ps os = 2 := by
  unfold xD xE; rw [hm]; exact ⟨rfl, rfl⟩
end Go.Proofs.Ytjbaobfmdkpboaa
