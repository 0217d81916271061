/- Ea, Ub, Ua. -/
import Derived.Test.YtjbaobfmdkpboaaX08
import Derived.Test.YtjbaobfmdkpboaaX11
import Derived.Test.YtjbaobfmdkpboaaX01
import Derived.Test.YtjbaobfmdkpboaaX02
import Derived.Test.YtjbaobfmdkpboaaX03
import Derived.BigQuiet
import Derived.BigRegion
import Derived.ChangeKeysEq
import Derived.Deep.DeepCutAuto
import Derived.Deep.DrawnRows
import Derived.Deep.QuietTactic
import Derived.Deep.RegionHeld3
import Derived.Deep.RegionLaw
import Derived.Deep.RegionWith
import Derived.Deep.WholeRow
import Derived.JoinedTies
import Derived.KernelRfl
import Derived.Laws.AppendOwnNone
import Derived.Laws.BytesArg
import Derived.Laws.CopyOwn
import Derived.Lib.SlBytesConst
import Derived.WalkKit
import Derived.WalkLawsBesides
import Derived.WalkSpells
import GoSem.Claim
import GoSem.ClaimJoined
import GoSem.ClaimMapViews
/- Layer exec: what a message does. Pure. -/
namespace Go.Proofs.Ytjbaobfmdkpboaa
set_option linter.unusedSectionVars false
set_option maxHeartbeats 1000000
open Go.RowKit
set_option maxRecDepth 100000
set_option linter.unusedVariables false
set_option linter.unusedSimpArgs false

variable [DecidableEq Ac] [DecidableEq Ou] [DecidableEq Mg]
/-- Does a message open an account? -/
def opn (a : Ac) (m : Mg) : Bool := decide (m.no = a.non) && decide (shl m.ky = a.lk)
/-- .. may it spend of it? -/
def spd (a : Ac) (m : Mg) : Bool := opn a m && (decide (m.am ≤ a.bal) && !decide (a.non = 18446744073709551615))
/-- The account behind it. -/
def spent (a : Ac) (m : Mg) : Ac := ⟨a.bal - m.am, a.non + 1, m.nx⟩
/-- A balance grows. -/
def addB (ps : List Ac) (i : Nat) (x : Int) : List Ac :=
  match ps[i]? with
  | none => ps
  | some a => ps.set i ⟨(a.bal + x) % 18446744073709551616, a.non, a.lk⟩
theorem addB_some {ps : List Ac} {i : Nat} {a : Ac} (h : ps[i]? = some a) (x : Int) : addB ps i x = ps.set i ⟨(a.bal + x) % 18446744073709551616, a.non, a.lk⟩ := by unfold addB; rw [h]
theorem addB_len (ps : List Ac) (i : Nat) (x : Int) : (addB ps i x).length = ps.length := by
  unfold addB; split <;> simp
theorem addB_ok {ps : List Ac} (h : ∀ a ∈ ps, AcOK a) (i : Nat) (x : Int) : ∀ a ∈ addB ps i x, AcOK a := by
  unfold addB
  split
  · exact h
  · next a ha =>
    intro b hb
    rcases List.mem_or_eq_of_mem_set hb with hb | rfl
    · exact h b hb
    · have := h a (List.mem_of_getElem? ha)
      exact ⟨by simp only []; omega, by simp only []; omega, this.n0, this.n1, this.l32, this.lb⟩
theorem spent_ok {a : Ac} {m : Mg} (ha : AcOK a) (hm : MgOK m) (h : spd a m = true) : AcOK (spent a m) := by
  simp only [spd, opn, Bool.and_eq_true, decide_eq_true_eq, Bool.not_eq_true', decide_eq_false_iff_not] at h
  obtain ⟨-, h1, h2⟩ := h
  have := ha.b1
  have := ha.n0
  have := ha.n1
  have := hm.a0
  exact ⟨by simp only [spent]; omega, by simp only [spent]; omega, by simp only [spent]; omega, by simp only [spent]; omega, hm.nl, hm.nb⟩
theorem set_ok {ps : List Ac} (h : ∀ a ∈ ps, AcOK a) (i : Nat) {b : Ac} (hb : AcOK b) : ∀ a ∈ ps.set i b, AcOK a := by
  intro a ha
  rcases List.mem_or_eq_of_mem_set ha with ha | rfl
  · exact h a ha
  · exact hb
/-- What a message does, if it does something. -/
def act (ps : List Ac) (os : List Ou) (m : Mg) : Option (List Ac × List Ou) :=
  if m.kd = 1 then (if m.am ≤ 4611686018427387904 - ttV ps then some (addB ps m.tw.toNat m.am, os) else none)
  else match ps[m.fr.toNat]? with
    | none => none
    | some a => if spd a m = true then
        (if m.kd = 2 then some (addB (ps.set m.fr.toNat (spent a m)) m.tw.toNat m.am, os)
         else if os.length < 32 then some (ps.set m.fr.toNat (spent a m), os ++ [⟨m.tw, m.am⟩]) else none) else none
/-- What bytes do. -/
def dlt (ps : List Ac) (os : List Ou) (L : List Int) : Option (List Ac × List Ou) := if rdE L = 0 then act ps os (rdM L) else none
def dlP (ps : List Ac) (os : List Ou) (L : List Int) : List Ac := ((dlt ps os L).getD (ps, os)).1
def dlO (ps : List Ac) (os : List Ou) (L : List Int) : List Ou := ((dlt ps os L).getD (ps, os)).2
def dlD (ps : List Ac) (os : List Ou) (L : List Int) : Bool := (dlt ps os L).isSome
theorem rdE_may {L : List Int} (h : rdE L = 0) : (rdM L).may = true := by
  unfold rdE at h
  by_cases h1 : L.length < 104
  · rw [if_pos h1] at h; omega
  · rw [if_neg h1] at h
    by_cases h2 : L.length = 104 ∧ goodM L = true
    · unfold rdM; rw [if_pos h2]
      have := h2.2
      unfold goodM at this
      simp only [Bool.and_eq_true] at this
      exact this.2
    · rw [if_neg h2] at h; omega
/-- What a message that may be is like. -/
theorem may_kinds {m : Mg} (hm : MgOK m) (h : m.may = true) : (m.kd = 1 ∧ m.tw < 32 ∧ 0 < m.am) ∨ (m.kd = 2 ∧ m.fr < 32 ∧ m.tw < 32) ∨ (m.kd = 3 ∧ m.fr < 32 ∧ 0 < m.am) := by
  simp only [Mg.may, Bool.or_eq_true, Bool.and_eq_true, beq_iff_eq, decide_eq_true_eq] at h
  omega
theorem act_ok {ps : List Ac} {os : List Ou} {m : Mg} {r : List Ac × List Ou} (hm : MgOK m) (hl : ps.length = 32) (h1 : ∀ a ∈ ps, AcOK a) (h2 : ∀ o ∈ os, OuOK o) (h : act ps os m = some r) : r.1.length = 32 ∧ (∀ a ∈ r.1, AcOK a) ∧ (∀ o ∈ r.2, OuOK o) := by
  unfold act at h
  split at h
  · split at h
    · cases h; exact ⟨by rw [addB_len, hl], addB_ok h1 _ _, h2⟩
    · cases h
  · split at h
    · cases h
    · next a ha =>
      split at h
      · next hs =>
        have hk := spent_ok (h1 a (List.mem_of_getElem? ha)) hm hs
        split at h
        · cases h; exact ⟨by rw [addB_len, List.length_set, hl], addB_ok (set_ok h1 _ hk) _ _, h2⟩
        · split at h
          · cases h
            refine ⟨by rw [List.length_set, hl], set_ok h1 _ hk, fun o ho => ?_⟩
            rcases List.mem_append.1 ho with ho | ho
            · exact h2 o ho
            · simp at ho; subst ho; exact ⟨hm.t0, hm.t1, hm.a0, hm.a1⟩
          · cases h
      · cases h
theorem dl_ok {ps : List Ac} {os : List Ou} {L : List Int} (hL : Bts L) (hl : ps.length = 32) (h1 : ∀ a ∈ ps, AcOK a) (h2 : ∀ o ∈ os, OuOK o) : (dlP ps os L).length = 32 ∧ (∀ a ∈ dlP ps os L, AcOK a) ∧ (∀ o ∈ dlO ps os L, OuOK o) := by
  unfold dlP dlO dlt
  split
  · cases h : act ps os (rdM L) with
    | none => exact ⟨hl, h1, h2⟩
    | some r => exact act_ok (rdM_ok hL) hl h1 h2 h
  · exact ⟨hl, h1, h2⟩
theorem addB_non (ps : List Ac) (i : Nat) (x : Int) (j : Nat) : ((addB ps i x)[j]?).map (·.non) = (ps[j]?).map (·.non) := by
  unfold addB
  split
  · rfl
  · next a ha =>
    rw [List.getElem?_set]
    split
    · next e =>
      subst e
      split
      · rw [ha]; rfl
      · next h => exact absurd (List.getElem?_eq_some_iff.1 ha).1 h
    · rfl
/-- What does something changes the accounts. -/
theorem act_ne {ps : List Ac} {os : List Ou} {m : Mg} {r : List Ac × List Ou} (hm : MgOK m) (hmy : m.may = true) (hl : ps.length = 32) (h1 : ∀ a ∈ ps, AcOK a) (h : act ps os m = some r) : r.1 ≠ ps := by
  have hk := may_kinds hm hmy
  have ht0 := hm.t0
  have hf0 := hm.f0
  unfold act at h
  split at h
  · next h1k =>
    split at h
    · cases h
      obtain ⟨-, hw, ha⟩ : m.kd = 1 ∧ m.tw < 32 ∧ 0 < m.am := by omega
      have hi : m.tw.toNat < ps.length := by omega
      intro e
      have e2 : (addB ps m.tw.toNat m.am)[m.tw.toNat]? = ps[m.tw.toNat]? := by simp only [] at e; rw [e]
      rw [addB_some (List.getElem?_eq_getElem hi), List.getElem?_set_self hi, List.getElem?_eq_getElem hi] at e2
      have e3 := congrArg Ac.bal (Option.some.inj e2)
      have ho := h1 _ (List.getElem_mem hi)
      have := ho.b0
      have := ho.b1
      have := hm.a1
      simp only [] at e3
      omega
    · cases h
  · split at h
    · cases h
    · next a ha =>
      have hi := (List.getElem?_eq_some_iff.1 ha).1
      have key : ∀ q : List Ac, (q[m.fr.toNat]?).map (·.non) = ((ps.set m.fr.toNat (spent a m))[m.fr.toNat]?).map (·.non) → q ≠ ps := fun q hq e => by
        rw [e, List.getElem?_set_self hi, ha] at hq
        simp [spent] at hq
        omega
      split at h
      · split at h
        · cases h; exact key _ (addB_non _ _ _ _)
        · split at h
          · cases h; exact key _ rfl
          · cases h
      · cases h

theorem acF_app (a b : List Ac) : acF (a ++ b) = acF a ++ acF b := by simp [acF]
theorem acF_cons (a : Ac) (r : List Ac) : acF (a :: r) = a.cells ++ acF r := by simp [acF]
theorem split_at {α : Type} {l : List α} {i : Nat} {a : α} (h : l[i]? = some a) : l = l.take i ++ a :: l.drop (i + 1) := by
  obtain ⟨hi, rfl⟩ := List.getElem?_eq_some_iff.1 h
  simp
theorem set_at {α : Type} {l : List α} {i : Nat} (hi : i < l.length) (b : α) : l.set i b = l.take i ++ b :: l.drop (i + 1) := by
  rw [List.set_eq_take_append_cons_drop, if_pos hi]
theorem stA_put {ps : List Ac} {i : Nat} {a a' : Ac} {sp : Option Addr} {n cap : Nat} {A B B' C : List Value} (ha : ps[i]? = some a) (h2 : ∀ a ∈ ps, a.lk.length = 32) (hc : a.cells = A ++ B ++ C) (hc' : a'.cells = A ++ B' ++ C) (hl : B.length = B'.length) :
    setA (stA ps sp n cap) (i * 34 + A.length) B' = stA (ps.set i a') sp n cap := by
  have hi := (List.getElem?_eq_some_iff.1 ha).1
  have ht : (acF (ps.take i)).length = i * 34 := by
    rw [acF_len (fun x hx => h2 x (List.mem_of_mem_take hx)), List.length_take, Nat.min_eq_left (by omega)]
  have e1 : stA ps sp n cap = ((acF (ps.take i) ++ A) ++ B ++ (C ++ (acF (ps.drop (i + 1)) ++ [Value.slice sp n cap]))).toArray := by
    unfold stA stC
    conv => lhs; rw [split_at ha]
    rw [acF_app, acF_cons, hc]; simp only [List.append_assoc]
  have e2 : stA (ps.set i a') sp n cap = ((acF (ps.take i) ++ A) ++ B' ++ (C ++ (acF (ps.drop (i + 1)) ++ [Value.slice sp n cap]))).toArray := by
    unfold stA stC
    rw [set_at hi, acF_app, acF_cons, hc']; simp only [List.append_assoc]
  rw [e1, e2, ← ht, ← List.length_append]
  exact setA_mid B B' _ _ hl
theorem setA1 (C : Array Value) (o : Nat) (v : Value) : setA C o [v] = C.setIfInBounds o v := rfl
theorem stA_bal {ps : List Ac} {i : Nat} {a : Ac} {sp : Option Addr} {n cap : Nat} (ha : ps[i]? = some a) (h2 : ∀ a ∈ ps, a.lk.length = 32) (x : Int) : (stA ps sp n cap).setIfInBounds (i * 34) (.int .u64 x) = stA (ps.set i ⟨x, a.non, a.lk⟩) sp n cap := by
  have h := stA_put (sp := sp) (n := n) (cap := cap) (a' := ⟨x, a.non, a.lk⟩) (A := []) (B := [.int .u64 a.bal]) (B' := [.int .u64 x]) (C := .int .u64 a.non :: by8 a.lk) ha h2 rfl rfl rfl
  rw [List.length_nil, Nat.add_zero, setA1] at h
  exact h
theorem stA_non {ps : List Ac} {i : Nat} {a : Ac} {sp : Option Addr} {n cap : Nat} (ha : ps[i]? = some a) (h2 : ∀ a ∈ ps, a.lk.length = 32) (x : Int) : (stA ps sp n cap).setIfInBounds (i * 34 + 1) (.int .u64 x) = stA (ps.set i ⟨a.bal, x, a.lk⟩) sp n cap := by
  have h := stA_put (sp := sp) (n := n) (cap := cap) (a' := ⟨a.bal, x, a.lk⟩) (A := [.int .u64 a.bal]) (B := [.int .u64 a.non]) (B' := [.int .u64 x]) (C := by8 a.lk) ha h2 rfl rfl rfl
  rw [List.length_singleton, setA1] at h
  exact h
theorem stA_lk {ps : List Ac} {i : Nat} {a : Ac} {sp : Option Addr} {n cap : Nat} (ha : ps[i]? = some a) (h2 : ∀ a ∈ ps, a.lk.length = 32) {X : List Int} (hX : X.length = 32) : setA (stA ps sp n cap) (i * 34 + 2) (by8 X) = stA (ps.set i ⟨a.bal, a.non, X⟩) sp n cap := by
  have h := stA_put (sp := sp) (n := n) (cap := cap) (a' := ⟨a.bal, a.non, X⟩) (A := [.int .u64 a.bal, .int .u64 a.non]) (B := by8 a.lk) (B' := by8 X) (C := []) ha h2 (by simp [Ac.cells]) (by simp [Ac.cells]) (by rw [by8_len, by8_len, hX, h2 a (List.mem_of_getElem? ha)])
  exact h
theorem stA_acc {ps : List Ac} {i : Nat} {a a' : Ac} {sp : Option Addr} {n cap : Nat} (ha : ps[i]? = some a) (h2 : ∀ a ∈ ps, a.lk.length = 32) (h' : a'.lk.length = 32) : setA (stA ps sp n cap) (i * 34) a'.cells = stA (ps.set i a') sp n cap := by
  have h := stA_put (sp := sp) (n := n) (cap := cap) (a' := a') (A := []) (B := a.cells) (B' := a'.cells) (C := []) ha h2 (by simp) (by simp) (by rw [Ac.len h', Ac.len (h2 a (List.mem_of_getElem? ha))])
  rw [List.length_nil, Nat.add_zero] at h
  exact h
theorem slL_at {w : World} {g o : Nat} {X : List Int} (h : w.rangeAt g o (by8 X)) : SlL w (some ⟨g, o, none⟩) X := fun _ => ⟨g, o, rfl, fun t ht => h t _ (by8_get ht)⟩
end Go.Proofs.Ytjbaobfmdkpboaa
/- Layer exec: what the layers below give. -/
namespace Go.Proofs.Ytjbaobfmdkpboaa
set_option linter.unusedSectionVars false
set_option maxHeartbeats 1000000
open Go.RowKit
set_option maxRecDepth 100000
set_option linter.unusedVariables false
set_option linter.unusedSimpArgs false

variable [DecidableEq Ac] [DecidableEq Ou] [DecidableEq Mg]
/-- How many noughts are put behind n bytes and the byte 128. -/
def nulls (n : Nat) : Nat := (119 - n % 64) % 64
def zerosL (k : Nat) : List Int := List.replicate k 0
/-- The first j of the length's eight bytes, the highest first. -/
def lenL (n j : Nat) : List Int := (List.range j).map fun t => (n : Int) * 8 / 2 ^ (8 * (7 - t)) % 256
def padL (L : List Int) : List Int := L ++ [128] ++ zerosL (nulls L.length) ++ lenL L.length 8
theorem zerosL_len (k : Nat) : (zerosL k).length = k := by simp [zerosL]
theorem zerosL_succ (k : Nat) : zerosL k ++ [0] = zerosL (k + 1) := by simp [zerosL, List.replicate_succ']
theorem lenL_succ (n j : Nat) : lenL n j ++ [(n : Int) * 8 / 2 ^ (8 * (7 - j)) % 256] = lenL n (j + 1) := by simp [lenL, List.range_succ]
theorem nulls_mod (n : Nat) : (n + 1 + nulls n) % 64 = 56 := by unfold nulls; omega
theorem nulls_lt (n k : Nat) (h : k < nulls n) : (n + 1 + k) % 64 ≠ 56 := by unfold nulls at h; omega
theorem nulls_le (n : Nat) : nulls n ≤ 63 := by unfold nulls; omega
def vlen : Value → Nat | .slice _ l _ => l | _ => 0
set_option maxRecDepth 100000 in
set_option maxHeartbeats 1000000 in
theorem padded_any (sp : Option Addr) (n cap : Nat) (L : List Int) (w : World) (hn : Hid (n = L.length)) (hnil : sp = none → n = 0 ∧ cap = 0) (hS : SlL w sp L) (hb : n ≤ 140737488355000) :
    Calls Try.prog 38 #[.slice sp n cap] w fun e w' => ∃ v, e = .returned v ∧ w'.ownsRow w.heap.size 5 1 v (n + 1 + nulls n + 8) (by8 (padL L)) ∧ Below w.heap.size w w' := by
  have hnI : (n : Int) ≤ 140737488355000 := by omega
  have hn0 : (0 : Int) ≤ n := by omega
  have hlit : (w.alloc (.cells #[] 5)).ownsRow w.heap.size 5 1 (.slice (some ⟨w.heap.size, 0, none⟩) 0 0) 0 (by8 []) := World.ownsRow_lit _ _ _ (Nat.le_refl _) (by unfold maxLen; omega) rfl
  go_enter Try.func38, Try.ntmps38
  go_wp2_with (first
    | (at_builtin; refine append_bytes (by rfl) (.tmp 6) (.tmp 7) (by rfl) w.heap.size _ 0 [] (by rfl) hlit sp n cap L (by rfl) hn.out hnil (Sl.alloc hS _) (by omega) (by simp) ?_; intro v1 w1 hown1 hg1; have hs1 : w.heap.size ≤ w1.heap.size := (by have := hg1.size; simp at this; omega))
    | (at_builtin; refine append_bytes (by rfl) (.tmp 8) (.tmp 9) (by rfl) w.heap.size _ n ([] ++ L) (by rfl) ((show w1.ownsRow w.heap.size 5 1 v1 n (by8 ([] ++ L)) from (by simpa using hown1)).alloc _) (some ⟨w1.heap.size, 0, none⟩) 1 1 [128] (by rfl) (by rfl) (fun h => by cases h) (Arr.sl (Arr.new w1 5 _)) (by omega) (by simp; omega) ?_; intro v2 w2 hown2 hg2))
  have hs2 : w.heap.size ≤ w2.heap.size := by have := hg2.size; simp at this; omega
  have hB2 : Below w.heap.size w w2 := ((((Below.refl _ _).alloc (Nat.le_refl _) _).grown hg1 (by simp) (fun k e => by simp [Value.ownBlock] at e; omega)).alloc hs1 _).grown hg2 (by simp; omega) (fun k e => own_ge hown1 k e)
  have hown2 : w2.ownsRow w.heap.size 5 1 v2 (n + 1) (by8 (L ++ [128])) := by simpa using hown2
  clear hown1 hg1 hg2 hs1 hlit hS
  obtain ⟨g2, cap2, rfl, -, hc2, -⟩ := own_slice hown2 (by omega)
  go_loopw [3] (fun v wr => ∃ (k g c : Nat), k ≤ nulls n ∧ v = .slice (some ⟨g, 0, none⟩) (n + 1 + k) c ∧ wr.ownsRow w.heap.size 5 1 v (n + 1 + k) (by8 (L ++ [128] ++ zerosL k)) ∧ Below w.heap.size w wr)
    (fun v _ => n + 1 + nulls n - vlen v)
  case atStart => exact ⟨0, g2, cap2, by omega, rfl, by simpa [zerosL] using hown2, hB2⟩
  case round =>
    clear hown2 hB2 hs2
    obtain ⟨k, g, c, hk, rfl, hown, hbl⟩ := hrel
    have hkI : (k : Int) ≤ 63 := by have := nulls_le n; omega
    have hN := nulls_le n
    by_cases hlt : k < nulls n
    · have hm : ¬ ((n : Int) + 1 + k) % 64 = 56 := by have := nulls_lt n k hlt; omega
      have hm' : (((n : Int) + 1 + k) % 64 == 56) = false := by simpa using hm
      go_wp2_with (at_builtin; go_must (refine append_bytes (by rfl) (.tmp 15) (.tmp 16) (by rfl) w.heap.size _ (n + 1 + k) (L ++ [128] ++ zerosL k) (by rfl) (hown.alloc _) (some ⟨wr.heap.size, 0, none⟩) 1 1 [0] (by rfl) (by rfl) (fun h => by cases h) (Arr.sl (Arr.new wr 5 _)) (by omega) (by have := hbl.size; simp; omega) ?_; intro v3 w3 hown3 hg3))
      have hs3 : w.heap.size ≤ wr.heap.size := hbl.size
      have hB3 : Below w.heap.size w w3 := (hbl.alloc hs3 _).grown hg3 (by simp; omega) (fun k e => own_ge hown k e)
      obtain ⟨g3, c3, rfl, -, hc3, -⟩ := own_slice hown3 (by omega)
      go_roundw
      case rel => exact ⟨k + 1, g3, c3, by omega, by rw [Nat.add_assoc (n + 1) k 1], by rw [← zerosL_succ, ← List.append_assoc, ← Nat.add_assoc]; exact hown3, hB3⟩
      case measure => simp only [vlen]; omega
    · obtain rfl : k = nulls n := by omega
      have hm : ((n : Int) + 1 + nulls n) % 64 = 56 := by have := nulls_mod n; omega
      go_wp2
      obtain ⟨wo, rfl⟩ : ∃ wo : World, wo = wr := ⟨_, rfl⟩
      go_loopw [3, 5] (fun v i wr => ∃ (j g c : Nat), j ≤ 8 ∧ i = .int .i64 (7 - (j : Int)) ∧ v = .slice (some ⟨g, 0, none⟩) (n + 1 + nulls n + j) c ∧ wr.ownsRow w.heap.size 5 1 v (n + 1 + nulls n + j) (by8 (L ++ [128] ++ zerosL (nulls n) ++ lenL n j)) ∧ Below w.heap.size w wr)
        (fun v _ _ => n + 1 + nulls n + 8 - vlen v)
      case atStart => exact ⟨0, g, c, by omega, rfl, rfl, by simpa [lenL] using hown, hbl⟩
      case round =>
        clear hown hbl hm
        obtain ⟨j, g, c, hj, rfl, rfl, hown, hbl⟩ := hrel
        have hjI : (j : Int) ≤ 8 := by omega
        have hj0 : (0 : Int) ≤ j := by omega
        by_cases hlt : j < 8
        · have h7 : (0 : Int) ≤ 7 - (j : Int) := by omega
          have e8 : (8 * (7 - (j : Int))).toNat = 8 * (7 - j) := by omega
          go_wp2_with (at_builtin; go_must (refine append_bytes (by rfl) (.tmp 26) (.tmp 33) (by rfl) w.heap.size _ (n + 1 + nulls n + j) (L ++ [128] ++ zerosL (nulls n) ++ lenL n j) (by rfl) (hown.alloc _) (some ⟨wr.heap.size, 0, none⟩) 1 1 [(n : Int) * 8 / 2 ^ (8 * (7 - j)) % 256] (by rfl) (by rfl) (fun h => by cases h) (Arr.sl (Arr.new wr 5 _)) (by omega) (by have := hbl.size; simp; omega) ?_; intro v3 w3 hown3 hg3))
          have hs3 : w.heap.size ≤ wr.heap.size := hbl.size
          have hB3 : Below w.heap.size w w3 := (hbl.alloc hs3 _).grown hg3 (by simp; omega) (fun k e => own_ge hown k e)
          obtain ⟨g3, c3, rfl, -, hc3, -⟩ := own_slice hown3 (by omega)
          go_wp2
          go_roundw
          case rel => exact ⟨j + 1, g3, c3, by omega, by go_num, by rw [Nat.add_assoc (n + 1 + nulls n) j 1], by rw [← lenL_succ, ← List.append_assoc, ← Nat.add_assoc]; exact hown3, hB3⟩
          case measure => simp only [vlen]; omega
        · obtain rfl : j = 8 := by omega
          go_wp2
          go_ret
          refine ⟨_, rfl, ?_, hbl⟩
          have := hn.out
          unfold padL
          rw [← this]
          exact hown
end Go.Proofs.Ytjbaobfmdkpboaa
/- Layer exec: what the layers below give. -/
namespace Go.Proofs.Ytjbaobfmdkpboaa
set_option linter.unusedSectionVars false
set_option maxHeartbeats 1000000
open Go.RowKit
set_option maxRecDepth 100000
set_option linter.unusedVariables false
set_option linter.unusedSimpArgs false

variable [DecidableEq Ac] [DecidableEq Ou] [DecidableEq Mg]
set_option maxRecDepth 100000 in
set_option maxHeartbeats 1000000 in
theorem kays_any (w : World) :
    Calls Try.prog 49 #[] w fun e w' => e = .returned (.agg kCells) ∧ Below w.heap.size w w' := by
  have s46 : (Try.prog.info? 84).map (·.size) = some kCells.size := by rw [kCells_size]; exact size46
  have o46 := one_ints kCells_size kCells_get
  go_enter Try.func49, Try.ntmps49
  go_wp2_with ((refine wpList_store_new w _ 84 (by rfl) 84 (.tmp 0) (.tmp 1) (by rfl) kCells (by rfl) (by rfl) s46 (Eq.trans (by rfl) kCells_size.symm) o46 ?_))
  exact bodyPost_ret (v := .agg kCells) (results_cell_row Try.results49 _ _ w.heap.size 84 _ (0, 0) _ rfl (Arr.new w 84 kCells) Try.underlying84 rfl s46) rfl ⟨rfl, (Below.refl _ _).alloc (Nat.le_refl _) _⟩
set_option maxRecDepth 100000 in
set_option maxHeartbeats 400000 in
theorem turn_any (x n : Int) (w : World) (h0 : 0 ≤ n) (h1 : n ≤ 31) :
    Calls Try.prog 50 #[.int .u32 x, .int .u64 n] w fun e w' => e = .returned (.int .u32 (rotr x n.toNat)) ∧ w' = w := by
  have e : (32 - n).toNat = 32 - n.toNat := by omega
  have E : Hid ((32 - n).toNat = 32 - n.toNat) := e
  clear e
  go_enter Try.func50, Try.ntmps50
  go_wp2
  go_ret
  refine ⟨?_, rfl⟩
  unfold rotr
  rw [← E.out]; rfl
theorem wrap32_nat (v : BitVec 32) : IntKind.u32.wrap (v.toNat : Int) = v.toNat := by
  have := v.isLt
  simp only [IntKind.wrap, IntKind.bits, IntKind.signed]; simp; omega
theorem of_nat32 (v : BitVec 32) : BitVec.ofInt 32 (v.toNat : Int) = v := by
  rw [BitVec.ofInt_natCast, BitVec.ofNat_toNat]; simp
theorem bits_and (x y : Int) : bits .and .u32 x y = ((BitVec.ofInt 32 x &&& BitVec.ofInt 32 y).toNat : Int) := wrap32_nat _
theorem bits_or (x y : Int) : bits .or .u32 x y = ((BitVec.ofInt 32 x ||| BitVec.ofInt 32 y).toNat : Int) := wrap32_nat _
theorem bits_xor (x y : Int) : bits .xor .u32 x y = ((BitVec.ofInt 32 x ^^^ BitVec.ofInt 32 y).toNat : Int) := wrap32_nat _
theorem cho_xor (x y z : Int) : bits .xor .u32 (bits .and .u32 x y) (bits .and .u32 (bits .xor .u32 IntKind.u32.max x) z) = cho x y z := by
  unfold cho
  simp only [bits_and, bits_or, bits_xor, of_nat32]
  have hm : BitVec.ofInt 32 IntKind.u32.max = BitVec.allOnes 32 := by decide
  rw [hm]
  congr 2
  ext i hi
  simp only [BitVec.getElem_xor, BitVec.getElem_and, BitVec.getElem_or, BitVec.getElem_allOnes]
  generalize (BitVec.ofInt 32 x)[i] = a
  generalize (BitVec.ofInt 32 y)[i] = b
  generalize (BitVec.ofInt 32 z)[i] = c
  cases a <;> cases b <;> cases c <;> rfl
theorem maj_xor (x y z : Int) : bits .xor .u32 (bits .xor .u32 (bits .and .u32 x y) (bits .and .u32 x z)) (bits .and .u32 y z) = maj x y z := by
  unfold maj
  simp only [bits_and, bits_or, bits_xor, of_nat32]
  congr 2
  ext i hi
  simp only [BitVec.getElem_xor, BitVec.getElem_and, BitVec.getElem_or]
  generalize (BitVec.ofInt 32 x)[i] = a
  generalize (BitVec.ofInt 32 y)[i] = b
  generalize (BitVec.ofInt 32 z)[i] = c
  cases a <;> cases b <;> cases c <;> rfl
end Go.Proofs.Ytjbaobfmdkpboaa
