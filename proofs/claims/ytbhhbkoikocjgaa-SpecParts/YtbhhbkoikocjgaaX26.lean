/- Na, Ng, NhC, Mc. -/
import Derived.Test.YtbhhbkoikocjgaaX25
import Derived.Test.YtbhhbkoikocjgaaX17
import Derived.Test.YtbhhbkoikocjgaaX23
import Derived.Test.YtbhhbkoikocjgaaX01
import Derived.Test.YtbhhbkoikocjgaaX02
import Derived.Test.YtbhhbkoikocjgaaX03
import Derived.Test.YtbhhbkoikocjgaaX04
import Derived.Test.YtbhhbkoikocjgaaX05
import Derived.Test.YtbhhbkoikocjgaaX06
import Derived.Test.YtbhhbkoikocjgaaX07
import Derived.BigQuiet
import Derived.BigRegion
import Derived.ChangeKeysEq
import Derived.ChangeOld
import Derived.Deep.DeepCutAuto
import Derived.Deep.DrawnRows
import Derived.Deep.MidRow
import Derived.Deep.QuietTactic
import Derived.Deep.RegionHeld3
import Derived.Deep.RegionLaw
import Derived.Deep.RegionWith
import Derived.Deep.WholeRow
import Derived.JoinedTies
import Derived.KernelRfl
import Derived.Laws.AppendOwnNone
import Derived.Laws.BitsLemmas
import Derived.Laws.BytesArg
import Derived.Laws.CopyOwn
import Derived.Lib.SlBytesConst
import Derived.OpenShut
import Derived.ProofKit
import Derived.ShutString
import Derived.SizedLaws
import Derived.WalkKit
import Derived.WalkLawsBesides
import Derived.WalkSpells
import GoSem.Claim
import GoSem.ClaimJoined
import GoSem.ClaimMapViews
/- Layer spec: what a list of messages makes of a state (pure). -/
namespace Go.Proofs.Ytbhhbkoikocjgaa
set_option linter.unusedSectionVars false
set_option maxHeartbeats 1000000
open Go.RowKit
set_option maxRecDepth 100000
set_option linter.unusedVariables false
set_option linter.unusedSimpArgs false


variable [DecidableEq Ac] [DecidableEq Ou] [DecidableEq Mg]
/-- Where a run stands: the state, what did something so far, what came in and what went out. -/
structure Rn where
  P : List Ac
  O : List Ou
  D : List Bool
  I : Int
  U : Int
def rn0 (ps : List Ac) (os : List Ou) : Rn := ⟨ps, os, [], 0, 0⟩
def Rn.step (r : Rn) (L : List Int) : Rn :=
  ⟨xP r.P r.O L, xO r.P r.O L, r.D ++ [xD r.P r.O L], if xD r.P r.O L = true then (r.I + gI L) % 18446744073709551616 else r.I, if xD r.P r.O L = true then (r.U + gO L) % 18446744073709551616 else r.U⟩
def rnA (ps : List Ac) (os : List Ou) (Ls : List (List Int)) (j : Nat) : Rn := (Ls.take j).foldl Rn.step (rn0 ps os)
theorem rnA_zero (ps : List Ac) (os : List Ou) (Ls : List (List Int)) : rnA ps os Ls 0 = rn0 ps os := rfl
theorem rnA_succ {ps : List Ac} {os : List Ou} {Ls : List (List Int)} {j : Nat} {L : List Int} (h : Ls[j]? = some L) : rnA ps os Ls (j + 1) = (rnA ps os Ls j).step L := by
  unfold rnA
  rw [List.take_add_one, h, List.foldl_append]
  rfl
theorem rnA_take (ps : List Ac) (os : List Ou) (Ls : List (List Int)) {k j : Nat} (h : j ≤ k) : rnA ps os (Ls.take k) j = rnA ps os Ls j := by
  unfold rnA
  rw [List.take_take, Nat.min_eq_left h]
structure RnOK (r : Rn) : Prop where
  a32 : r.P.length = 32
  ok : ∀ a ∈ r.P, AcOK a
  ou : ∀ o ∈ r.O, OuOK o
  i0 : 0 ≤ r.I
  i1 : r.I < 18446744073709551616
  u0 : 0 ≤ r.U
  u1 : r.U < 18446744073709551616
theorem RnOK.step {r : Rn} (h : RnOK r) {L : List Int} (hL : Bts L) : RnOK (r.step L) := by
  obtain ⟨a, b, c⟩ := xP_ok (os := r.O) hL h.a32 h.ok h.ou
  have := h.i0; have := h.i1; have := h.u0; have := h.u1
  refine ⟨a, b, c, ?_, ?_, ?_, ?_⟩ <;> simp only [Rn.step] <;> split <;> omega
theorem rnA_ok {ps : List Ac} {os : List Ou} {Ls : List (List Int)} (h1 : ps.length = 32) (h2 : ∀ a ∈ ps, AcOK a) (h3 : ∀ o ∈ os, OuOK o) (hL : ∀ L ∈ Ls, Bts L) : ∀ j, RnOK (rnA ps os Ls j)
  | 0 => ⟨h1, h2, h3, by simp [rnA, rn0], by simp [rnA, rn0], by simp [rnA, rn0], by simp [rnA, rn0]⟩
  | j + 1 => by
    have ih := rnA_ok h1 h2 h3 hL j
    cases hj : Ls[j]? with
    | none =>
      have : rnA ps os Ls (j + 1) = rnA ps os Ls j := by
        unfold rnA
        have := List.getElem?_eq_none_iff.1 hj
        rw [List.take_of_length_le (by omega), List.take_of_length_le (by omega)]
      rw [this]; exact ih
    | some L => rw [rnA_succ hj]; exact ih.step (hL L (List.mem_of_getElem? hj))
theorem rnA_D {ps : List Ac} {os : List Ou} {Ls : List (List Int)} : ∀ j, j ≤ Ls.length → (rnA ps os Ls j).D.length = j
  | 0, _ => rfl
  | j + 1, h => by
    rw [rnA_succ (List.getElem?_eq_getElem (show j < Ls.length by omega))]
    have ih := rnA_D (ps := ps) (os := os) (Ls := Ls) j (by omega)
    simp only [Rn.step, List.length_append, List.length_cons, List.length_nil, ih]
theorem rnA_O {ps : List Ac} {os : List Ou} {Ls : List (List Int)} : ∀ j, 0 < j → j ≤ Ls.length → (rnA ps os Ls j).O.length ≤ 33
  | j + 1, _, h => by
    rw [rnA_succ (List.getElem?_eq_getElem (show j < Ls.length by omega))]
    exact xO_len _ _ _
theorem rnA_Dat {ps : List Ac} {os : List Ou} {Ls : List (List Int)} {j : Nat} {L : List Int} (h : Ls[j]? = some L) : ∀ n, j < n → n ≤ Ls.length → (rnA ps os Ls n).D[j]? = some (xD (rnA ps os Ls j).P (rnA ps os Ls j).O L)
  | n + 1, hj, hn => by
    have hl := rnA_D (ps := ps) (os := os) (Ls := Ls) n (by omega)
    rw [rnA_succ (List.getElem?_eq_getElem (show n < Ls.length by omega))]
    simp only [Rn.step]
    by_cases h1 : j < n
    · rw [List.getElem?_append_left (by omega)]
      exact rnA_Dat h n h1 (by omega)
    · obtain rfl : j = n := by omega
      rw [List.getElem?_append_right (by omega), hl, Nat.sub_self]
      rw [List.getElem?_eq_getElem (show j < Ls.length by omega)] at h
      cases h
      rfl
/-- A list in two parts. -/
theorem rnA_drop (ps : List Ac) (os : List Ou) (Ls : List (List Int)) (k : Nat) : ∀ j, (rnA (rnA ps os Ls k).P (rnA ps os Ls k).O (Ls.drop k) j).P = (rnA ps os Ls (k + j)).P ∧ (rnA (rnA ps os Ls k).P (rnA ps os Ls k).O (Ls.drop k) j).O = (rnA ps os Ls (k + j)).O
  | 0 => ⟨rfl, rfl⟩
  | j + 1 => by
    obtain ⟨h1, h2⟩ := rnA_drop ps os Ls k j
    cases hj : Ls[k + j]? with
    | none =>
      have hn := List.getElem?_eq_none_iff.1 hj
      have e1 : rnA ps os Ls (k + (j + 1)) = rnA ps os Ls (k + j) := by unfold rnA; rw [List.take_of_length_le (by omega), List.take_of_length_le (by omega)]
      have e2 : rnA (rnA ps os Ls k).P (rnA ps os Ls k).O (Ls.drop k) (j + 1) = rnA (rnA ps os Ls k).P (rnA ps os Ls k).O (Ls.drop k) j := by
        generalize (rnA ps os Ls k).P = p; generalize (rnA ps os Ls k).O = o
        unfold rnA; rw [List.take_of_length_le (by rw [List.length_drop]; omega), List.take_of_length_le (by rw [List.length_drop]; omega)]
      rw [e1, e2]; exact ⟨h1, h2⟩
    | some L =>
      have hd : (Ls.drop k)[j]? = some L := by rw [List.getElem?_drop]; exact hj
      rw [rnA_succ hd, show k + (j + 1) = (k + j) + 1 by omega, rnA_succ hj]
      simp only [Rn.step, h1, h2, and_self]
/-- A state that may be stays one, and its balances are what flowed. -/
theorem rnA_may {ps : List Ac} {os : List Ou} {Ls : List (List Int)} (h1 : ps.length = 32) (h2 : ∀ a ∈ ps, AcOK a) (h3 : ∀ o ∈ os, OuOK o) (hL : ∀ L ∈ Ls, Bts L) (hm : may ps os.length = true) : ∀ j, may (rnA ps os Ls j).P (rnA ps os Ls j).O.length = true ∧ (sm (rnA ps os Ls j).P + (rnA ps os Ls j).U) % 18446744073709551616 = (sm ps + (rnA ps os Ls j).I) % 18446744073709551616
  | 0 => ⟨hm, rfl⟩
  | j + 1 => by
    obtain ⟨a1, a2⟩ := rnA_may h1 h2 h3 hL hm j
    have ok := rnA_ok (Ls := Ls) h1 h2 h3 hL j
    cases hj : Ls[j]? with
    | none =>
      have : rnA ps os Ls (j + 1) = rnA ps os Ls j := by
        unfold rnA
        have := List.getElem?_eq_none_iff.1 hj
        rw [List.take_of_length_le (by omega), List.take_of_length_le (by omega)]
      rw [this]; exact ⟨a1, a2⟩
    | some L =>
      rw [rnA_succ hj]
      generalize rnA ps os Ls j = r at *
      cases hd : xD r.P r.O L with
      | false =>
        obtain ⟨e1, e2, -⟩ := did_false a1 hd
        simp only [Rn.step, hd, e1, e2]
        exact ⟨a1, a2⟩
      | true =>
        obtain ⟨-, -, hE, hact⟩ := did_some hd
        have hbL := hL L (List.mem_of_getElem? hj)
        have hk := act_keeps (rdM_ok hbL) (rdE_may hE) ok.a32 ok.ok a1 hact
        obtain ⟨m1, m2, -⟩ := hk
        have eI : gI L = (if (rdM L).kd = 1 then (rdM L).am else 0) := by simp [gI, hE]
        have eO : gO L = (if (rdM L).kd = 3 then (rdM L).am else 0) := by simp [gO, hE]
        rw [← eI, ← eO] at m2
        simp only [Rn.step, hd, if_true]
        refine ⟨m1, ?_⟩
        rw [m2]
        generalize gI L = g
        generalize gO L = h
        generalize sm r.P = s at *
        omega
end Go.Proofs.Ytbhhbkoikocjgaa
/- Layer spec: the state along a run, in memory; own. -/
namespace Go.Proofs.Ytbhhbkoikocjgaa
set_option linter.unusedSectionVars false
set_option maxHeartbeats 1000000
open Go.RowKit Go.Shelf
set_option maxRecDepth 100000
set_option linter.unusedVariables false
set_option linter.unusedSimpArgs false


variable [DecidableEq Ac] [DecidableEq Ou] [DecidableEq Mg]
theorem own_other {W : World} {B e s n g ty : Nat} {v : Value} {xs : List Value} {C : Array Value} (h : W.ownsRow B e s v n xs) (hA : Arr W g ty C) (hne : ty ≠ e) : ∀ k, v.ownBlock = some k → k ≠ g := by
  rintro k hk rfl
  obtain ⟨-, ⟨rfl, -⟩ | ⟨g', cap, cur, rfl, -, hh, -⟩⟩ := h
  · cases hk
  · simp [Value.ownBlock] at hk
    subst hk
    unfold Arr at hA
    rw [hA] at hh
    simp at hh
    exact hne hh.2
/-- The withdrawals of the state after j: those that were handed in, or a row of the run's own. -/
def SR (B : Nat) (s0 : Option Addr) (n0 c0 j : Nat) (O : List Ou) (s : Option Addr) (n c : Nat) (W : World) : Prop :=
  (j = 0 ∧ s = s0 ∧ n = n0 ∧ c = c0) ∨ (Hid (n = O.length) ∧ n ≤ 33 ∧ W.ownsRow B 66 2 (.slice s n c) n (ouF O))
theorem SR.stays {B : Nat} {s0 : Option Addr} {n0 c0 j : Nat} {O : List Ou} {s : Option Addr} {n c : Nat} {W W' : World} {g ty : Nat} {C : Array Value} (h : SR B s0 n0 c0 j O s n c W) (hA : Arr W g ty C) (hne : ty ≠ 66) (hk : ∀ b, B ≤ b → b < W.heap.size → b ≠ g → W'.heap[b]? = W.heap[b]?) : SR B s0 n0 c0 j O s n c W' := by
  rcases h with h | ⟨h1, h2, h3⟩
  · exact .inl h
  · exact .inr ⟨h1, h2, own_same h3 fun k e => hk k (own_ge h3 k e) (own_lt h3 e) (own_other h3 hA hne k e)⟩
theorem SR.ss {B : Nat} {s0 : Option Addr} {n0 c0 j : Nat} {s : Option Addr} {n c : Nat} {W : World} {ps : List Ac} {os : List Ou} {Ls : List (List Int)} (h : SR B s0 n0 c0 j (rnA ps os Ls j).O s n c W) (hS : SS B W ps s0 n0 c0 os) (hok : RnOK (rnA ps os Ls j)) : SS W.heap.size W (rnA ps os Ls j).P s n c (rnA ps os Ls j).O := by
  rcases h with ⟨rfl, rfl, rfl, rfl⟩ | ⟨h1, h2, h3⟩
  · exact hS.here
  · exact ⟨Hid.mk' hok.a32, Hid.mk' hok.ok, os_own h3 h1.out (by omega) hok.ou⟩
theorem SR.up {B B' : Nat} {s0 : Option Addr} {n0 c0 j : Nat} {O : List Ou} {s : Option Addr} {n c : Nat} {W : World} (h : SR B s0 n0 c0 j O s n c W) (hB : B' ≤ B) : SR B' s0 n0 c0 j O s n c W := by
  rcases h with h | ⟨h1, h2, h3⟩
  · exact .inl h
  · exact .inr ⟨h1, h2, own_mono h3 hB⟩
set_option maxHeartbeats 1000000 in
/-- own: the state with withdrawals of its own. -/
theorem own_any (ps : List Ac) (N : Nat) (sp : Option Addr) (n cap : Nat) (os : List Ou) (w : World) (hS : SS N w ps sp n cap os) (hb : n * 16 ≤ 140737488351232) : Calls Try.prog 27 #[.agg (stA ps sp n cap)] w fun r w' => ∃ sp cap, r = .returned (.agg (stA ps sp n cap)) ∧ w'.ownsRow w.heap.size 66 2 (.slice sp n cap) n (ouF os) ∧ Below w.heap.size w w' := by
  have hS := hS.here
  have h1 := hS.a32.out
  have h2 := hS.l32
  have A0 := (Arr.new w 30 (stA ps sp n cap)).alloc (.cells (stA zs none 0 0) 30)
  have R0 : Arr ((w.alloc (.cells (stA ps sp n cap) 30)).alloc (.cells (stA zs none 0 0) 30)) (w.heap.size + 1) 30 (stA zs none 0 0) := by simpa using Arr.new (w.alloc (.cells (stA ps sp n cap) 30)) 30 (stA zs none 0 0)
  have B0 := (alloc_bel' w (.cells (stA ps sp n cap) 30)).alloc (by simp) (.cells (stA zs none 0 0) 30)
  have hz30 := zeroValue30
  have hzsz : (stA zs none 0 0).size = 1089 := stA_size zs_len zs_l32
  generalize stA zs none 0 0 = Z at A0 R0 B0 hz30 hzsz
  go_enter Try.func27, Try.ntmps27
  go_upto_region 1 with fail
  generalize (w.alloc (.cells (stA ps sp n cap) 30)).alloc (.cells Z 30) = V at A0 R0 B0 ⊢
  have cO := A0.stOut h1 h2
  have fO := A0.frozen 1088
  have S1 := hS.outs.below B0
  have hVz := R0.lt
  go_upto_region 2 with (first
    | (go_at_call 45; go_must (refine (cloneO_any _ sp n cap os _ S1 hb).mono ?_; rintro r w2 ⟨v2, rfl, own2, b2⟩; have A2 := A0.below b2 A0.lt; have R2 := R0.below b2 R0.lt; have B2 := B0.trans (b2.mono B0.size); obtain ⟨s2, c2, rfl, O2, hs2⟩ := own_os own2 S1.len.out S1.small S1.ok; have cO2 := A2.stOut h1 h2; have fO2 := A2.frozen 1088)))
  have A3 := A2.set 1088 (.slice s2 n c2)
  rw [stA_set h1 h2] at A3
  have R3 := R2.setOther (a := ⟨w.heap.size, 1088, none⟩) (.slice s2 n c2) (by simp)
  have B3 := B2.setCell (p := ⟨w.heap.size, 1088, none⟩) (by simp) (.slice s2 n c2)
  have own3 := own_cellO (o := 1088) (u := .slice s2 n c2) own2 (show w.heap.size < V.heap.size by omega)
  generalize w2.setCell ⟨w.heap.size, 1088, none⟩ (.slice s2 n c2) = W3 at A3 R3 B3 own3 ⊢
  have hsz : (Try.prog.info? 30).map (·.size) = some (stA ps s2 n c2).size := by rw [stA_size h1 h2]; exact size30
  go_wp2_with (first
    | (refine atL 30 (.tmp 1) ?_; refine ld30 (by rfl) _ (by rfl) w.heap.size 30 (by rfl) ps s2 n c2 h1 h2 A3 ?_)
    | (refine atS 30 (.tmp 2) (.tmp 7) ?_; refine wpList_store_arr (by rfl) 30 (.tmp 2) (.tmp 7) (by rfl) (w.heap.size + 1) (stA ps s2 n c2) (by rfl) (by rfl) 30 _ R3 hsz (by rw [hzsz, stA_size h1 h2]) (stA_one ps s2 n c2) ?_))
  have own4 := own_row own3 (stA ps s2 n c2) (show w.heap.size + 1 < V.heap.size by omega)
  exact bodyPost_ret (v := .agg (stA ps s2 n c2)) (results_cell_row Try.results27 _ _ (w.heap.size + 1) 30 _ (0, 0) _ rfl (R3.setRow _) Try.underlying30 rfl hsz) rfl ⟨s2, c2, rfl, own_mono own4 (by have := B0.size; omega), below_setRow B3 (by omega) _⟩
set_option maxHeartbeats 1000000 in
/-- behind: the state behind one more message. -/
theorem behind_any (ps : List Ac) (N : Nat) (sp : Option Addr) (n cap : Nat) (os : List Ou) (sb : Option Addr) (nb cb : Nat) (L : List Int) (Nb : Nat) (w : World) (hS : SS N w ps sp n cap os) (hL : BS Nb w sb nb cb L) :
    Calls Try.prog 32 #[.agg (stA ps sp n cap), .slice sb nb cb] w fun r w' => ∃ s n c, r = .returned (.agg (stA (xP ps os L) s n c)) ∧ Hid (n = (xO ps os L).length) ∧ w'.ownsRow w.heap.size 66 2 (.slice s n c) n (ouF (xO ps os L)) ∧ Below w.heap.size w w' := by
  have hS := hS.here
  have hL := hL.here
  have h1 := hS.a32.out
  have h2 := hS.l32
  have A0 := (Arr.new w 30 (stA ps sp n cap)).alloc (.cells (stA zs none 0 0) 30)
  have R0 : Arr ((w.alloc (.cells (stA ps sp n cap) 30)).alloc (.cells (stA zs none 0 0) 30)) (w.heap.size + 1) 30 (stA zs none 0 0) := by simpa using Arr.new (w.alloc (.cells (stA ps sp n cap) 30)) 30 (stA zs none 0 0)
  have B0 := (alloc_bel' w (.cells (stA ps sp n cap) 30)).alloc (by simp) (.cells (stA zs none 0 0) 30)
  have hz30 := zeroValue30
  have hzsz : (stA zs none 0 0).size = 1089 := stA_size zs_len zs_l32
  generalize stA zs none 0 0 = Z at A0 R0 B0 hz30 hzsz
  have hD := Hid.mk' (fun u h h' => delta_x ps w.heap.size sp n cap os sb nb cb L w.heap.size u h h')
  obtain ⟨hq1, hq3, -⟩ := xP_ok (os := os) hL.bts h1 hS.ok.out hS.outs.ok
  have hq2 : ∀ a ∈ xP ps os L, a.lk.length = 32 := fun a ha => (hq3 a ha).l32
  unfold DX at hD
  generalize xP ps os L = Q at *
  generalize xO ps os L = O at *
  generalize xD ps os L = d at *
  generalize xE ps os = e at *
  go_enter Try.func32, Try.ntmps32
  go_upto_region 1 with fail
  generalize (w.alloc (.cells (stA ps sp n cap) 30)).alloc (.cells Z 30) = V at A0 R0 B0 ⊢
  have hVz := R0.lt
  go_upto_region 2 with (first
    | (refine atL 30 (.tmp 2) ?_; refine ld30 (by rfl) _ (by rfl) w.heap.size 30 (by rfl) ps sp n cap h1 h2 A0 ?_)
    | (go_at_call 46; go_must (refine (hD.out _ (hS.below B0) (hL.below B0)).mono ?_; rintro r w1 ⟨s1, n1, c1, rfl, S1, own1, hb1⟩))
    | (refine atS 30 (.tmp 5) (.tmp 12) ?_; refine st30n (by rfl) _ _ (by rfl) w1 w1.heap.size rfl hzsz Q s1 n1 c1 (by rfl) (by rfl) hq1 hq2 ?_))
  have R1 := (R0.below hb1 R0.lt).alloc (.cells (stA Q s1 n1 c1) 30)
  have T1 := Arr.new w1 30 (stA Q s1 n1 c1)
  have B1 := (B0.trans (hb1.mono B0.size)).alloc (Nat.le_trans B0.size hb1.size) (.cells (stA Q s1 n1 c1) 30)
  have own2 := own1.alloc (.cells (stA Q s1 n1 c1) 30)
  have hn1 := S1.outs.len
  have hz1 := hb1.size
  generalize w1.alloc (.cells (stA Q s1 n1 c1) 30) = W1 at *
  generalize w1.heap.size = G1 at *
  clear S1 own1 hb1
  have hsz : (Try.prog.info? 30).map (·.size) = some (stA Q s1 n1 c1).size := by rw [stA_size hq1 hq2]; exact size30
  go_wp2_with (first
    | (refine atL 30 (.tmp 5) ?_; refine ld30 (by rfl) _ (by rfl) G1 30 (by rfl) Q s1 n1 c1 hq1 hq2 T1 ?_)
    | (refine atS 30 (.tmp 4) (.tmp 15) ?_; refine wpList_store_arr (by rfl) 30 (.tmp 4) (.tmp 15) (by rfl) (w.heap.size + 1) (stA Q s1 n1 c1) (by rfl) (by rfl) 30 _ R1 hsz (by rw [hzsz, stA_size hq1 hq2]) (stA_one Q s1 n1 c1) ?_))
  have own4 := own_row own2 (stA Q s1 n1 c1) (show w.heap.size + 1 < V.heap.size by omega)
  exact bodyPost_ret (v := .agg (stA Q s1 n1 c1)) (results_cell_row Try.results32 _ _ (w.heap.size + 1) 30 _ (0, 0) _ rfl (R1.setRow _) Try.underlying30 rfl hsz) rfl ⟨s1, n1, c1, rfl, hn1, own_mono own4 (by have := B0.size; omega), below_setRow B1 (by omega) _⟩
end Go.Proofs.Ytbhhbkoikocjgaa
/- Layer spec: a run with what did something, one message on. -/
namespace Go.Proofs.Ytbhhbkoikocjgaa
set_option linter.unusedSectionVars false
set_option maxHeartbeats 1000000
open Go.RowKit Go.Shelf
set_option maxRecDepth 100000
set_option linter.unusedVariables false
set_option linter.unusedSimpArgs false


variable [DecidableEq Ac] [DecidableEq Ou] [DecidableEq Mg]
/-- A load of the state in a course, in a flow. -/
theorem ldC {ops : Array Oper} {rest : List Oper} {o : Oper} {a : Act} {w : World} {Q : Exit → Act → World → Prop} (hgd : o.guard = none) (x : Operand) (ho : o.op = .load 30 x)
    (g : Nat) (hx : a.eval x = .pointer (some ⟨g, 0, none⟩)) (ps : List Ac) (sp : Option Addr) (n cap : Nat) (h1 : ps.length = 32) (h2 : ∀ a ∈ ps, a.lk.length = 32) (hA : w.rangeAt g 0 (stC ps sp n cap))
    (h : wpList Try.prog ops Q rest (a.put o.dst (.agg (stA ps sp n cap))) w) : wpList Try.prog ops Q (o :: rest) a w :=
  wpList_load_mid hgd 30 x ho g 0 hx (stC ps sp n cap) _ hA Try.underlying30 rfl (by rw [stC_len h1 h2]; exact size30) h
set_option maxHeartbeats 2000000 in
theorem with28_any (ps : List Ac) (N : Nat) (sp : Option Addr) (n cap : Nat) (os : List Ou) (sb : Option Addr) (nb cb : Nat) (L : List Int) (Nb : Nat) (sd : Option Addr) (k cd base : Nat) (D : List Bool) (w : World) (hS : SS N w ps sp n cap os) (hL : BS Nb w sb nb cb L) (hR : w.ownsRow base 4 1 (.slice sd k cd) k (bls D)) (hk : k + 1 ≤ 140737488355328) (hbase : base ≤ w.heap.size) :
    Calls Try.prog 28 #[.agg (crA ps sp n cap (.slice sd k cd)), .slice sb nb cb] w fun r w' => ∃ s n c sd' cd', r = .returned (.agg (crA (xP ps os L) s n c (.slice sd' (k + 1) cd'))) ∧ Hid (n = (xO ps os L).length) ∧ w'.ownsRow w.heap.size 66 2 (.slice s n c) n (ouF (xO ps os L)) ∧ w'.ownsRow base 4 1 (.slice sd' (k + 1) cd') (k + 1) (bls (D ++ [xD ps os L])) ∧ Chg (fun b => (Value.slice sd k cd).ownBlock = some b) w w' := by
  have hS := hS.here
  have hL := hL.here
  have h1 := hS.a32.out
  have h2 := hS.l32
  have A0 := (Arr.new w 69 (crA ps sp n cap (.slice sd k cd))).alloc (.cells zero69N 69)
  have R0 : Arr ((w.alloc (.cells (crA ps sp n cap (.slice sd k cd)) 69)).alloc (.cells zero69N 69)) (w.heap.size + 1) 69 zero69N := by simpa using Arr.new (w.alloc (.cells (crA ps sp n cap (.slice sd k cd)) 69)) 69 zero69N
  have B0 := (alloc_bel' w (.cells (crA ps sp n cap (.slice sd k cd)) 69)).alloc (by simp) (.cells zero69N 69)
  have hz30 := zeroValue30N
  have hz69 := zeroValue69N
  have hzsz := zsize30
  have hzs69 := zsize69
  generalize zero30N = Z0 at hz30 hzsz
  generalize zero69N = Z at A0 R0 B0 hz69 hzs69
  have hD := Hid.mk' (fun u h h' => delta_x ps w.heap.size sp n cap os sb nb cb L w.heap.size u h h')
  obtain ⟨hq1, hq3, -⟩ := xP_ok (os := os) hL.bts h1 hS.ok.out hS.outs.ok
  have hq2 : ∀ a ∈ xP ps os L, a.lk.length = 32 := fun a ha => (hq3 a ha).l32
  unfold DX at hD
  generalize xP ps os L = Q at *
  generalize xO ps os L = O at *
  generalize xD ps os L = d at *
  generalize xE ps os = e at *
  go_enter Try.func28, Try.ntmps28
  go_upto_region 1 with fail
  generalize (w.alloc (.cells (crA ps sp n cap (.slice sd k cd)) 69)).alloc (.cells Z 69) = V at A0 R0 B0 ⊢
  have hVz := R0.lt
  have hVs := B0.size
  have hRV := own_same hR (fun b hb => B0.block b (own_lt hR hb))
  have G0 := A0.crS
  go_upto_region 2 with (first
    | (refine atL 30 (.tmp 9) ?_; refine ldC (by rfl) _ (by rfl) w.heap.size (by rfl) ps sp n cap h1 h2 G0 ?_)
    | (go_at_call 46; go_must (refine (hD.out _ (hS.below B0) (hL.below B0)).mono ?_; rintro r w1 ⟨s1, n1, c1, rfl, S1, own1, hb1⟩))
    | (refine atS 30 (.tmp 5) (.tmp 13) ?_; refine st30n (by rfl) _ _ (by rfl) w1 w1.heap.size rfl hzsz Q s1 n1 c1 (by rfl) (by rfl) hq1 hq2 ?_))
  have hz1 := hb1.size
  have bb1 := alloc_bel' w1 (.cells (stA Q s1 n1 c1) 30)
  have R1 := ((R0.below hb1 R0.lt).alloc (.cells (stA Q s1 n1 c1) 30)).drew
  have T1 := (Arr.new w1 30 (stA Q s1 n1 c1)).drew
  have A1 := ((A0.below hb1 A0.lt).alloc (.cells (stA Q s1 n1 c1) 30)).drew
  have B1 := ((B0.trans (hb1.mono B0.size)).alloc (Nat.le_trans B0.size hb1.size) (.cells (stA Q s1 n1 c1) 30)).drew
  have own2 := (own1.alloc (.cells (stA Q s1 n1 c1) 30)).drew
  have hR1 := (own_same hRV (w' := (w1.alloc (.cells (stA Q s1 n1 c1) 30)).drew) (fun b hb => ((bb1.mono hz1).drew.block b (own_lt hRV hb)).trans (hb1.block b (own_lt hRV hb))))
  have hn1 := S1.outs.len
  have hW1 : w1.heap.size + 1 ≤ (w1.alloc (.cells (stA Q s1 n1 c1) 30)).drew.heap.size := by simp
  have hW2 : (w1.alloc (.cells (stA Q s1 n1 c1) 30)).drew.heap.size ≤ w1.heap.size + 1 := by simp
  have cD := A1.crD h1 h2
  have hown0 := own_ge own2
  have hrow := fun (b : Nat) => own_lt (b := b) hR
  clear G0 S1 own1 hb1 bb1 hRV A0 R0
  refine wp_region_held_drew (S := fun u => Arr u w1.heap.size 30 (stA Q s1 n1 c1) ∧ u.cell? ⟨w.heap.size, 1089, none⟩ = some (.slice sd k cd)) (by kernel_rfl) (⟨T1, cD⟩) (fun hHeld => ?_)
  generalize (w1.alloc (.cells (stA Q s1 n1 c1) 30)).drew = W1 at *
  generalize w1.heap.size = G1 at *
  refine wpAnyH_take (i := 0) (oi := ⟨_, _, _, _, _, _⟩) rfl (by kernel_rfl) (by kernel_rfl) (by kernel_rfl) (fun _ _ _ h => h) (y30 (by rfl) (.tmp 5) rfl G1 30 rfl Q s1 n1 c1 hq1 hq2 (fun u hu => hu.1)) (by assumption) ?_
  try simp only [Act.put, List.setIfInBounds_toArray, List.set_cons_zero, List.set_cons_succ]
  refine wpAnyH_take (i := 1) (oi := ⟨_, _, _, _, _, _⟩) (v := ?_) rfl (by kernel_rfl) (by kernel_rfl) (by kernel_rfl) (fun _ _ _ h => h) (Or.inl ⟨by rfl, ?_⟩) (by assumption) ?_
  rotate_left
  · intro u hSw
    go_simp
    try (with_reducible rfl)
  try simp only [Act.put, List.setIfInBounds_toArray, List.set_cons_zero, List.set_cons_succ]
  refine wpAnyH_take (i := 2) (oi := ⟨_, _, _, _, _, _⟩) (v := ?_) rfl (by kernel_rfl) (by kernel_rfl) (by kernel_rfl) (fun _ _ _ h => h) (Or.inl ⟨by rfl, ?_⟩) (by assumption) ?_
  rotate_left
  · intro u hSw
    have cc := hSw.2
    go_simp
    try (with_reducible rfl)
  try simp only [Act.put, List.setIfInBounds_toArray, List.set_cons_zero, List.set_cons_succ]
  refine wpAnyH_take (i := 3) (oi := ⟨_, _, _, _, _, _⟩) (v := ?_) rfl (by kernel_rfl) (by kernel_rfl) (by kernel_rfl) (fun _ _ _ h => h) (Or.inl ⟨by rfl, ?_⟩) (by assumption) ?_
  rotate_left
  · intro u hSw
    go_simp
    try (with_reducible rfl)
  try simp only [Act.put, List.setIfInBounds_toArray, List.set_cons_zero, List.set_cons_succ]
  refine wpAnyH_ready (rs := [4]) (by kernel_rfl) (by simp) ?_
  refine AllReadyH.cons (o := ⟨_, _, _, _, _, _⟩) rfl (fun K hK => ?_) AllReadyH.nil
  have b2 := alloc_bel' W1 (.cells #[.bool d] 4)
  have T2 := T1.alloc (.cells #[.bool d] 4)
  have E2 := Arr.new W1 4 #[.bool d]
  have A2 := A1.alloc (.cells #[.bool d] 4)
  have R2 := R1.alloc (.cells #[.bool d] 4)
  have own3 := own2.alloc (.cells #[.bool d] 4)
  have hR2 := hR1.alloc (.cells #[.bool d] 4)
  have cD2 := A2.crD h1 h2
  have B2 := B1.trans (b2.mono (by omega))
  go_simp
  go_wp2_with fail
  refine hK.out _ _ ⟨T2, cD2⟩ (fun hHeld => ?_)
  clear hK K
  try simp only [Act.put, List.setIfInBounds_toArray, List.set_cons_zero, List.set_cons_succ]
  have hs2 : W1.heap.size ≤ (W1.alloc (.cells #[.bool d] 4)).heap.size := by simp
  refine wpAnyH_ready (rs := [5]) (by kernel_rfl) (by simp) ?_
  refine AllReadyH.cons (o := ⟨_, _, _, _, _, _⟩) rfl (fun K hK => ?_) AllReadyH.nil
  refine step_want rfl (wp_ap4 (.tmp 18) (.tmp 20) rfl base _ k D rfl hR2 W1.heap.size d rfl E2 hk (by omega) ?_)
  intro v3 W3 hR3 hg3
  obtain ⟨gd, cd3, rfl⟩ := own_some hR3
  have hne : ∀ g ty C, Arr (W1.alloc (.cells #[.bool d] 4)) g ty C → ty ≠ 4 → some g ≠ (Value.slice sd k cd).ownBlock := fun g ty C hA hty he => own_other hR2 hA hty g he.symm rfl
  have T3 := T2.grown hg3 (hne _ _ _ T2 (by decide))
  have A3 := A2.grown hg3 (hne _ _ _ A2 (by decide))
  have R3 := R2.grown hg3 (hne _ _ _ R2 (by decide))
  have own4 : W3.ownsRow V.heap.size 66 2 (.slice s1 n1 c1) n1 (ouF O) := own_same own3 (fun b hb => hg3.block b (own_lt own3 hb) (fun e => by
    have hlt := hrow b e.symm
    have hge := hown0 b hb
    omega))
  have C3 : Chg (fun b => (Value.slice sd k cd).ownBlock = some b) w W3 := (Chg.of_below B2).grown hg3 (fun b _ h => h)
  refine hK.out _ _ ⟨T3, A3.crD h1 h2⟩ (fun hHeld => ?_)
  clear hK K
  try simp only [Act.put, List.setIfInBounds_toArray, List.set_cons_zero, List.set_cons_succ]
  refine wpAnyH_take (i := 6) (oi := ⟨_, _, _, _, _, _⟩) rfl (by kernel_rfl) (by kernel_rfl) (by kernel_rfl) (fun _ _ _ h => h) (y_bd (by rfl) 69 _ rfl (by rfl) (built69 hq1 hq2)) (by assumption) ?_
  try simp only [Act.put, List.setIfInBounds_toArray, List.set_cons_zero, List.set_cons_succ]
  have hC := crA_size (sp := s1) (n := n1) (cap := c1) (v := .slice (some ⟨gd, 0, none⟩) (k + 1) cd3) hq1 hq2
  have hC1 := crA_one Q s1 n1 c1 (some ⟨gd, 0, none⟩) (k + 1) cd3
  have hgd := own_other hR3 R3 (by decide) gd rfl
  have C4 : Chg (fun b => (Value.slice sd k cd).ownBlock = some b) w (W3.setRow (w.heap.size + 1) (crA Q s1 n1 c1 (.slice (some ⟨gd, 0, none⟩) (k + 1) cd3))) := ⟨C3.os, C3.tape, C3.output, by simpa using C3.size, fun b hb hn => (setRow_other _ _ _ _ (by omega)).trans (C3.block b hb hn)⟩
  have T4 := T3.setRowOther (k := w.heap.size + 1) (crA Q s1 n1 c1 (.slice (some ⟨gd, 0, none⟩) (k + 1) cd3)) (by omega)
  have A4 := A3.setRowOther (k := w.heap.size + 1) (crA Q s1 n1 c1 (.slice (some ⟨gd, 0, none⟩) (k + 1) cd3)) (by omega)
  have own5 := own_row own4 (crA Q s1 n1 c1 (.slice (some ⟨gd, 0, none⟩) (k + 1) cd3)) (show w.heap.size + 1 < V.heap.size by omega)
  have hR4 := own_same hR3 (w' := W3.setRow (w.heap.size + 1) (crA Q s1 n1 c1 (.slice (some ⟨gd, 0, none⟩) (k + 1) cd3))) (fun b hb => setRow_other _ _ _ _ (fun e => by
    simp [Value.ownBlock] at hb
    exact hgd (by omega)))
  have R4 := R3.setRow (crA Q s1 n1 c1 (.slice (some ⟨gd, 0, none⟩) (k + 1) cd3))
  refine wpAnyH_ready (rs := [7]) (by kernel_rfl) (by simp) ?_
  refine AllReadyH.cons (o := ⟨_, _, _, _, _, _⟩) rfl (fun K hK => ?_) AllReadyH.nil
  refine step_want rfl (wp_store_row 69 (.tmp 4) (.tmp 22) rfl (w.heap.size + 1) (crA Q s1 n1 c1 (.slice (some ⟨gd, 0, none⟩) (k + 1) cd3)) rfl rfl 69 _ R3 (by rw [hC]; exact size69N) (by rw [hC, hzs69]) hC1 ?_)
  refine hK.out _ _ ⟨T4, A4.crD h1 h2⟩ (fun hHeld => ?_)
  clear hK K
  try simp only [Act.put, List.setIfInBounds_toArray, List.set_cons_zero, List.set_cons_succ]
  refine wpAnyH_done (by kernel_rfl) ?_ _
  go_wp2_with fail
  exact bodyPost_ret (v := .agg (crA Q s1 n1 c1 (.slice (some ⟨gd, 0, none⟩) (k + 1) cd3))) (results_cell_row Try.results28 _ _ (w.heap.size + 1) 69 _ (0, 0) _ rfl R4 Try.underlying69 rfl (by rw [hC]; exact size69N)) rfl ⟨s1, n1, c1, _, _, rfl, hn1, own_mono own5 (by omega), hR4, C4⟩
end Go.Proofs.Ytbhhbkoikocjgaa
/- Layer spec: what the layers below give. -/
namespace Go.Proofs.Ytbhhbkoikocjgaa
set_option linter.unusedSectionVars false
set_option maxHeartbeats 1000000
open Go.RowKit
set_option maxRecDepth 100000
set_option linter.unusedVariables false
set_option linter.unusedSimpArgs false

variable [DecidableEq Ac] [DecidableEq Ou] [DecidableEq Mg]
theorem i64_and1 (n : Int) : bits .and .i64 n 1 = n % 2 := by
  have h1 : (BitVec.ofInt 64 1).toNat = 2 ^ 1 - 1 := by decide
  have key : (BitVec.ofInt 64 n &&& BitVec.ofInt 64 1).toNat = (n % ((2 ^ 64 : Nat) : Int)).toNat % 2 ^ 1 := by
    rw [BitVec.toNat_and, BitVec.toNat_ofInt, h1, Nat.and_two_pow_sub_one_eq_mod]
  show IntKind.i64.wrap ((BitVec.ofInt 64 n &&& BitVec.ofInt 64 1).toNat : Nat) = n % 2
  rw [key, IntKind.wrap_i64]
  omega
theorem pow16 {d : Nat} (h : d ≤ 16) : 2 ^ d ≤ 65536 := Nat.pow_le_pow_right (n := 2) (by omega) h
theorem powc (d : Nat) : ((2 : Int) ^ d) = ((2 ^ d : Nat) : Int) := (Int.natCast_pow 2 d).symm
theorem wrap_pow {d : Nat} (h : d ≤ 16) : wrap64 ((2 : Int) ^ d) = ((2 ^ d : Nat) : Int) := by
  have := pow16 h
  rw [powc]
  generalize 2 ^ d = p at *
  unfold wrap64; omega
/-- A sum out of memory. -/
theorem ld24 {ops : Array Oper} {rest : List Oper} {o : Oper} {a : Act} {w : World} {Q : Exit → Act → World → Prop} (hgd : o.guard = none) (x : Operand) (ho : o.op = .load 24 x)
    (b off : Nat) (hx : a.eval x = .pointer (some ⟨b, off, none⟩)) (X : List Int) (hX : X.length = 32) (hc : w.rangeAt b off (by8 X))
    (h : wpList Try.prog ops Q rest (a.put o.dst (.agg (h8 X))) w) : wpList Try.prog ops Q (o :: rest) a w :=
  wpList_load_mid hgd 24 x ho b off hx (by8 X) _ hc Try.underlying24 rfl (by rw [by8_len, hX]; exact size24) h
/-- A sum into a block of its own. -/
theorem st24 {ops : Array Oper} {rest : List Oper} {o : Oper} {a : Act} {w : World} {Q : Exit → Act → World → Prop} (hgd : o.guard = none) (x y : Operand) (ho : o.op = .store 24 x y)
    (g : Nat) (X Y : List Int) (hx : a.eval x = .pointer (some ⟨g, 0, none⟩)) (hy : a.eval y = .agg (h8 X)) (hX : X.length = 32) (hY : Y.length = 32) (hg : Arr w g 24 (h8 Y))
    (h : wpList Try.prog ops Q rest (a.put o.dst undef) (w.setRow g (h8 X))) : wpList Try.prog ops Q (o :: rest) a w :=
  wpList_store_arr hgd 24 x y ho g (h8 X) hx hy 24 _ hg (s24h8 hX) (by rw [h8_size, h8_size, hX, hY]) (h8_one X) h
/-- .. into the newest block. -/
theorem st24n {ops : Array Oper} {rest : List Oper} {o : Oper} {a : Act} {Q : Exit → Act → World → Prop} (hgd : o.guard = none) (x y : Operand) (ho : o.op = .store 24 x y) (W : World) (g : Nat) (hgW : W.heap.size = g) {z : Array Value} (hz : z.size = 32)
    (X : List Int) (hx : a.eval x = .pointer (some ⟨g, 0, none⟩)) (hy : a.eval y = .agg (h8 X)) (hX : X.length = 32)
    (h : wpList Try.prog ops Q rest (a.put o.dst undef) (W.alloc (.cells (h8 X) 24))) : wpList Try.prog ops Q (o :: rest) a (W.alloc (.cells z 24)) := by
  subst hgW
  exact wpList_store_new W z 24 hgd 24 x y ho (h8 X) hx hy (s24h8 hX) (by rw [hz, h8_size, hX]) (h8_one X) h
/-- What is returned out of a block. -/
theorem res24 {f : Func} {w : World} {tmps : Array Value} {g t : Nat} {X : List Int} (hf : f.results = #[.cell t 24]) (hp : tmps.getD t undef = .pointer (some ⟨g, 0, none⟩)) (hX : X.length = 32) (hA : Arr w g 24 (h8 X)) :
    (results f tmps).run Try.prog w = .ok (.agg (h8 X)) w := results_cell_row hf _ _ g 24 _ (0, 0) _ hp hA Try.underlying24 rfl (s24h8 hX)
theorem resP {f : Func} {w : World} {tmps : Array Value} {g t k : Nat} {X : List Int} {v : Value} (hf : f.results = #[.cell t 24, .tmp k]) (hp : tmps.getD t undef = .pointer (some ⟨g, 0, none⟩)) (hk : tmps.getD k undef = v) (hX : X.length = 32) (hA : Arr w g 24 (h8 X)) :
    (results f tmps).run Try.prog w = .ok (.tuple #[.agg (h8 X), v]) w := by
  have hl := run_loadVar_mid (P := Try.prog) w g 0 24 (by8 X) _ hA.range Try.underlying24 rfl (by rw [by8_len, hX]; exact size24)
  have hp' : tmps[t]?.getD undef = .pointer (some ⟨g, 0, none⟩) := by simpa using hp
  have hk' : tmps[k]?.getD undef = v := by simpa using hk
  simp [results, hf, hp', hk', asAddr, hl, h8]
end Go.Proofs.Ytbhhbkoikocjgaa
