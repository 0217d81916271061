/- Na, Ng, Nu3, Nh0. -/
import Derived.Test.YtbhhbkoikocjgaaX26
import Derived.Test.YtbhhbkoikocjgaaX18
import Derived.Test.YtbhhbkoikocjgaaX24
import Derived.Test.YtbhhbkoikocjgaaX17
import Derived.Test.YtbhhbkoikocjgaaX12
import Derived.Test.YtbhhbkoikocjgaaX15
import Derived.Test.YtbhhbkoikocjgaaX04
import Derived.Test.YtbhhbkoikocjgaaX16
/- Layer spec: what a list of messages makes of a state (pure). -/
namespace Go.Proofs.Ytbhhbkoikocjgaa
set_option linter.unusedSectionVars false
set_option maxHeartbeats 1000000
open Go.RowKit
set_option maxRecDepth 100000
set_option linter.unusedVariables false
set_option linter.unusedSimpArgs false


variable [DecidableEq Ac] [DecidableEq Ou] [DecidableEq Mg]
/-- Where a run stands: the state, what did something so far, what came in and what went out. -/
structure Rn where
  P : List Ac
  O : List Ou
  D : List Bool
  I : Int
  U : Int
def rn0 (ps : List Ac) (os : List Ou) : Rn := ⟨ps, os, [], 0, 0⟩
def Rn.step (r : Rn) (L : List Int) : Rn :=
  ⟨xP r.P r.O L, xO r.P r.O L, r.D ++ [xD r.P r.O L], if xD r.P r.O L = true then (r.I + gI L) % 18446744073709551616 else r.I, if xD r.P r.O L = true then (r.U + gO L) % 18446744073709551616 else r.U⟩
def rnA (ps : List Ac) (os : List Ou) (Ls : List (List Int)) (j : Nat) : Rn := (Ls.take j).foldl Rn.step (rn0 ps os)
theorem rnA_zero (ps : List Ac) (os : List Ou) (Ls : List (List Int)) : rnA ps os Ls 0 = rn0 ps os := rfl
theorem rnA_succ {ps : List Ac} {os : List Ou} {Ls : List (List Int)} {j : Nat} {L : List Int} (h : Ls[j]? = some L) : rnA ps os Ls (j + 1) = (rnA ps os Ls j).step L := by
  unfold rnA
  rw [List.take_add_one, h, List.foldl_append]
  rfl
theorem rnA_take (ps : List Ac) (os : List Ou) (Ls : List (List Int)) {k j : Nat} (h : j ≤ k) : rnA ps os (Ls.take k) j = rnA ps os Ls j := by
  unfold rnA
  rw [List.take_take, Nat.min_eq_left h]
structure RnOK (r : Rn) : Prop where
  a32 : r.P.length = 32
  ok : ∀ a ∈ r.P, AcOK a
  ou : ∀ o ∈ r.O, OuOK o
  i0 : 0 ≤ r.I
  i1 : r.I < 18446744073709551616
  u0 : 0 ≤ r.U
  u1 : r.U < 18446744073709551616
theorem RnOK.step {r : Rn} (h : RnOK r) {L : List Int} (hL : Bts L) : RnOK (r.step L) := by
  obtain ⟨a, b, c⟩ := xP_ok (os := r.O) hL h.a32 h.ok h.ou
  have := h.i0; have := h.i1; have := h.u0; have := h.u1
  refine ⟨a, b, c, ?_, ?_, ?_, ?_⟩ <;> simp only [Rn.step] <;> split <;> omega
theorem rnA_ok {ps : List Ac} {os : List Ou} {Ls : List (List Int)} (h1 : ps.length = 32) (h2 : ∀ a ∈ ps, AcOK a) (h3 : ∀ o ∈ os, OuOK o) (hL : ∀ L ∈ Ls, Bts L) : ∀ j, RnOK (rnA ps os Ls j)
  | 0 => ⟨h1, h2, h3, by simp [rnA, rn0], by simp [rnA, rn0], by simp [rnA, rn0], by simp [rnA, rn0]⟩
  | j + 1 => by
    have ih := rnA_ok h1 h2 h3 hL j
    cases hj : Ls[j]? with
    | none =>
      have : rnA ps os Ls (j + 1) = rnA ps os Ls j := by
        unfold rnA
        have := List.getElem?_eq_none_iff.1 hj
        rw [List.take_of_length_le (by omega), List.take_of_length_le (by omega)]
      rw [this]; exact ih
    | some L => rw [rnA_succ hj]; exact ih.step (hL L (List.mem_of_getElem? hj))
theorem rnA_D {ps : List Ac} {os : List Ou} {Ls : List (List Int)} : ∀ j, j ≤ Ls.length → (rnA ps os Ls j).D.length = j
  | 0, _ => rfl
  | j + 1, h => by
    rw [rnA_succ (List.getElem?_eq_getElem (show j < Ls.length by omega))]
    have ih := rnA_D (ps := ps) (os := os) (Ls := Ls) j (by omega)
    simp only [Rn.step, List.length_append, List.length_cons, List.length_nil, ih]
theorem rnA_O {ps : List Ac} {os : List Ou} {Ls : List (List Int)} : ∀ j, 0 < j → j ≤ Ls.length → (rnA ps os Ls j).O.length ≤ 33
  | j + 1, _, h => by
    rw [rnA_succ (List.getElem?_eq_getElem (show j < Ls.length by omega))]
    exact xO_len _ _ _
theorem rnA_Dat {ps : List Ac} {os : List Ou} {Ls : List (List Int)} {j : Nat} {L : List Int} (h : Ls[j]? = some L) : ∀ n, j < n → n ≤ Ls.length → (rnA ps os Ls n).D[j]? = some (xD (rnA ps os Ls j).P (rnA ps os Ls j).O L)
  | n + 1, hj, hn => by
    have hl := rnA_D (ps := ps) (os := os) (Ls := Ls) n (by omega)
    rw [rnA_succ (List.getElem?_eq_getElem (show n < Ls.length by omega))]
    simp only [Rn.step]
    by_cases h1 : j < n
    · rw [List.getElem?_append_left (by omega)]
      exact rnA_Dat h n h1 (by omega)
    · obtain rfl : j = n := by omega
      rw [List.getElem?_append_right (by omega), hl, Nat.sub_self]
      rw [List.getElem?_eq_getElem (show j < Ls.length by omega)] at h
      cases h
      rfl
/-- A list in two parts. -/
theorem rnA_drop (ps : List Ac) (os : List Ou) (Ls : List (List Int)) (k : Nat) : ∀ j, (rnA (rnA ps os Ls k).P (rnA ps os Ls k).O (Ls.drop k) j).P = (rnA ps os Ls (k + j)).P ∧ (rnA (rnA ps os Ls k).P (rnA ps os Ls k).O (Ls.drop k) j).O = (rnA ps os Ls (k + j)).O
  | 0 => ⟨rfl, rfl⟩
  | j + 1 => by
    obtain ⟨h1, h2⟩ := rnA_drop ps os Ls k j
    cases hj : Ls[k + j]? with
    | none =>
      have hn := List.getElem?_eq_none_iff.1 hj
      have e1 : rnA ps os Ls (k + (j + 1)) = rnA ps os Ls (k + j) := by unfold rnA; rw [List.take_of_length_le (by omega), List.take_of_length_le (by omega)]
      have e2 : rnA (rnA ps os Ls k).P (rnA ps os Ls k).O (Ls.drop k) (j + 1) = rnA (rnA ps os Ls k).P (rnA ps os Ls k).O (Ls.drop k) j := by
        generalize (rnA ps os Ls k).P = p; generalize (rnA ps os Ls k).O = o
        unfold rnA; rw [List.take_of_length_le (by rw [List.length_drop]; omega), List.take_of_length_le (by rw [List.length_drop]; omega)]
      rw [e1, e2]; exact ⟨h1, h2⟩
    | some L =>
      have hd : (Ls.drop k)[j]? = some L := by rw [List.getElem?_drop]; exact hj
      rw [rnA_succ hd, show k + (j + 1) = (k + j) + 1 by omega, rnA_succ hj]
      simp only [Rn.step, h1, h2, and_self]
/-- A state that may be stays one, and its balances are what flowed. -/
theorem rnA_may {ps : List Ac} {os : List Ou} {Ls : List (List Int)} (h1 : ps.length = 32) (h2 : ∀ a ∈ ps, AcOK a) (h3 : ∀ o ∈ os, OuOK o) (hL : ∀ L ∈ Ls, Bts L) (hm : may ps os.length = true) : ∀ j, may (rnA ps os Ls j).P (rnA ps os Ls j).O.length = true ∧ (sm (rnA ps os Ls j).P + (rnA ps os Ls j).U) % 18446744073709551616 = (sm ps + (rnA ps os Ls j).I) % 18446744073709551616
  | 0 => ⟨hm, rfl⟩
  | j + 1 => by
    obtain ⟨a1, a2⟩ := rnA_may h1 h2 h3 hL hm j
    have ok := rnA_ok (Ls := Ls) h1 h2 h3 hL j
    cases hj : Ls[j]? with
    | none =>
      have : rnA ps os Ls (j + 1) = rnA ps os Ls j := by
        unfold rnA
        have := List.getElem?_eq_none_iff.1 hj
        rw [List.take_of_length_le (by omega), List.take_of_length_le (by omega)]
      rw [this]; exact ⟨a1, a2⟩
    | some L =>
      rw [rnA_succ hj]
      generalize rnA ps os Ls j = r at *
      cases hd : xD r.P r.O L with
      | false =>
        obtain ⟨e1, e2, -⟩ := did_false a1 hd
        simp only [Rn.step, hd, e1, e2]
        exact ⟨a1, a2⟩
      | true =>
        obtain ⟨-, -, hE, hact⟩ := did_some hd
        have hbL := hL L (List.mem_of_getElem? hj)
        have hk := act_keeps (rdM_ok hbL) (rdE_may hE) ok.a32 ok.ok a1 hact
        obtain ⟨m1, m2, -⟩ := hk
        have eI : gI L = (if (rdM L).kd = 1 then (rdM L).am else 0) := by simp [gI, hE]
        have eO : gO L = (if (rdM L).kd = 3 then (rdM L).am else 0) := by simp [gO, hE]
        rw [← eI, ← eO] at m2
        simp only [Rn.step, hd, if_true]
        refine ⟨m1, ?_⟩
        rw [m2]
        generalize gI L = g
        generalize gO L = h
        generalize sm r.P = s at *
        omega
end Go.Proofs.Ytbhhbkoikocjgaa
/- Layer spec: the state along a run, in memory; own. -/
namespace Go.Proofs.Ytbhhbkoikocjgaa
set_option linter.unusedSectionVars false
set_option maxHeartbeats 1000000
open Go.RowKit Go.Shelf
set_option maxRecDepth 100000
set_option linter.unusedVariables false
set_option linter.unusedSimpArgs false


variable [DecidableEq Ac] [DecidableEq Ou] [DecidableEq Mg]
theorem own_other {W : World} {B e s n g ty : Nat} {v : Value} {xs : List Value} {C : Array Value} (h : W.ownsRow B e s v n xs) (hA : Arr W g ty C) (hne : ty ≠ e) : ∀ k, v.ownBlock = some k → k ≠ g := by
  rintro k hk rfl
  obtain ⟨-, ⟨rfl, -⟩ | ⟨g', cap, cur, rfl, -, hh, -⟩⟩ := h
  · cases hk
  · simp [Value.ownBlock] at hk
    subst hk
    unfold Arr at hA
    rw [hA] at hh
    simp at hh
    exact hne hh.2
/-- The withdrawals of the state after j: those that were handed in, or a row of the run's own. -/
def SR (B : Nat) (s0 : Option Addr) (n0 c0 j : Nat) (O : List Ou) (s : Option Addr) (n c : Nat) (W : World) : Prop :=
  (j = 0 ∧ s = s0 ∧ n = n0 ∧ c = c0) ∨ (Hid (n = O.length) ∧ n ≤ 33 ∧ W.ownsRow B 66 2 (.slice s n c) n (ouF O))
theorem SR.stays {B : Nat} {s0 : Option Addr} {n0 c0 j : Nat} {O : List Ou} {s : Option Addr} {n c : Nat} {W W' : World} {g ty : Nat} {C : Array Value} (h : SR B s0 n0 c0 j O s n c W) (hA : Arr W g ty C) (hne : ty ≠ 66) (hk : ∀ b, B ≤ b → b < W.heap.size → b ≠ g → W'.heap[b]? = W.heap[b]?) : SR B s0 n0 c0 j O s n c W' := by
  rcases h with h | ⟨h1, h2, h3⟩
  · exact .inl h
  · exact .inr ⟨h1, h2, own_same h3 fun k e => hk k (own_ge h3 k e) (own_lt h3 e) (own_other h3 hA hne k e)⟩
theorem SR.ss {B : Nat} {s0 : Option Addr} {n0 c0 j : Nat} {s : Option Addr} {n c : Nat} {W : World} {ps : List Ac} {os : List Ou} {Ls : List (List Int)} (h : SR B s0 n0 c0 j (rnA ps os Ls j).O s n c W) (hS : SS B W ps s0 n0 c0 os) (hok : RnOK (rnA ps os Ls j)) : SS W.heap.size W (rnA ps os Ls j).P s n c (rnA ps os Ls j).O := by
  rcases h with ⟨rfl, rfl, rfl, rfl⟩ | ⟨h1, h2, h3⟩
  · exact hS.here
  · exact ⟨Hid.mk' hok.a32, Hid.mk' hok.ok, os_own h3 h1.out (by omega) hok.ou⟩
theorem SR.up {B B' : Nat} {s0 : Option Addr} {n0 c0 j : Nat} {O : List Ou} {s : Option Addr} {n c : Nat} {W : World} (h : SR B s0 n0 c0 j O s n c W) (hB : B' ≤ B) : SR B' s0 n0 c0 j O s n c W := by
  rcases h with h | ⟨h1, h2, h3⟩
  · exact .inl h
  · exact .inr ⟨h1, h2, own_mono h3 hB⟩
set_option maxHeartbeats 1000000 in
/-- own: the state with withdrawals of its own. -/
theorem own_any (ps : List Ac) (N : Nat) (sp : Option Addr) (n cap : Nat) (os : List Ou) (w : World) (hS : SS N w ps sp n cap os) (hb : n * 16 ≤ 140737488351232) : Calls Try.prog 27 #[.agg (stA ps sp n cap)] w fun r w' => ∃ sp cap, r = .returned (.agg (stA ps sp n cap)) ∧ w'.ownsRow w.heap.size 66 2 (.slice sp n cap) n (ouF os) ∧ Below w.heap.size w w' := by
  have hS := hS.here
  have h1 := hS.a32.out
  have h2 := hS.l32
  have A0 := (Arr.new w 30 (stA ps sp n cap)).alloc (.cells (stA zs none 0 0) 30)
  have R0 : Arr ((w.alloc (.cells (stA ps sp n cap) 30)).alloc (.cells (stA zs none 0 0) 30)) (w.heap.size + 1) 30 (stA zs none 0 0) := by simpa using Arr.new (w.alloc (.cells (stA ps sp n cap) 30)) 30 (stA zs none 0 0)
  have B0 := (alloc_bel' w (.cells (stA ps sp n cap) 30)).alloc (by simp) (.cells (stA zs none 0 0) 30)
  have hz30 := zeroValue30
  have hzsz : (stA zs none 0 0).size = 1089 := stA_size zs_len zs_l32
  generalize stA zs none 0 0 = Z at A0 R0 B0 hz30 hzsz
  go_enter Try.func27, Try.ntmps27
  go_upto_region 1 with fail
  generalize (w.alloc (.cells (stA ps sp n cap) 30)).alloc (.cells Z 30) = V at A0 R0 B0 ⊢
  have cO := A0.stOut h1 h2
  have fO := A0.frozen 1088
  have S1 := hS.outs.below B0
  have hVz := R0.lt
  go_upto_region 2 with (first
    | (go_at_call 45; go_must (refine (cloneO_any _ sp n cap os _ S1 hb).mono ?_; rintro r w2 ⟨v2, rfl, own2, b2⟩; have A2 := A0.below b2 A0.lt; have R2 := R0.below b2 R0.lt; have B2 := B0.trans (b2.mono B0.size); obtain ⟨s2, c2, rfl, O2, hs2⟩ := own_os own2 S1.len.out S1.small S1.ok; have cO2 := A2.stOut h1 h2; have fO2 := A2.frozen 1088)))
  have A3 := A2.set 1088 (.slice s2 n c2)
  rw [stA_set h1 h2] at A3
  have R3 := R2.setOther (a := ⟨w.heap.size, 1088, none⟩) (.slice s2 n c2) (by simp)
  have B3 := B2.setCell (p := ⟨w.heap.size, 1088, none⟩) (by simp) (.slice s2 n c2)
  have own3 := own_cellO (o := 1088) (u := .slice s2 n c2) own2 (show w.heap.size < V.heap.size by omega)
  generalize w2.setCell ⟨w.heap.size, 1088, none⟩ (.slice s2 n c2) = W3 at A3 R3 B3 own3 ⊢
  have hsz : (Try.prog.info? 30).map (·.size) = some (stA ps s2 n c2).size := by rw [stA_size h1 h2]; exact size30
  go_wp2_with (first
    | (refine atL 30 (.tmp 1) ?_; refine ld30 (by rfl) _ (by rfl) w.heap.size 30 (by rfl) ps s2 n c2 h1 h2 A3 ?_)
    | (refine atS 30 (.tmp 2) (.tmp 7) ?_; refine wpList_store_arr (by rfl) 30 (.tmp 2) (.tmp 7) (by rfl) (w.heap.size + 1) (stA ps s2 n c2) (by rfl) (by rfl) 30 _ R3 hsz (by rw [hzsz, stA_size h1 h2]) (stA_one ps s2 n c2) ?_))
  have own4 := own_row own3 (stA ps s2 n c2) (show w.heap.size + 1 < V.heap.size by omega)
  exact bodyPost_ret (v := .agg (stA ps s2 n c2)) (results_cell_row Try.results27 _ _ (w.heap.size + 1) 30 _ (0, 0) _ rfl (R3.setRow _) Try.underlying30 rfl hsz) rfl ⟨s2, c2, rfl, own_mono own4 (by have := B0.size; omega), below_setRow B3 (by omega) _⟩
set_option maxHeartbeats 1000000 in
/-- behind: the state behind one more message. -/
theorem behind_any (ps : List Ac) (N : Nat) (sp : Option Addr) (n cap : Nat) (os : List Ou) (sb : Option Addr) (nb cb : Nat) (L : List Int) (Nb : Nat) (w : World) (hS : SS N w ps sp n cap os) (hL : BS Nb w sb nb cb L) :
    Calls Try.prog 32 #[.agg (stA ps sp n cap), .slice sb nb cb] w fun r w' => ∃ s n c, r = .returned (.agg (stA (xP ps os L) s n c)) ∧ Hid (n = (xO ps os L).length) ∧ w'.ownsRow w.heap.size 66 2 (.slice s n c) n (ouF (xO ps os L)) ∧ Below w.heap.size w w' := by
  have hS := hS.here
  have hL := hL.here
  have h1 := hS.a32.out
  have h2 := hS.l32
  have A0 := (Arr.new w 30 (stA ps sp n cap)).alloc (.cells (stA zs none 0 0) 30)
  have R0 : Arr ((w.alloc (.cells (stA ps sp n cap) 30)).alloc (.cells (stA zs none 0 0) 30)) (w.heap.size + 1) 30 (stA zs none 0 0) := by simpa using Arr.new (w.alloc (.cells (stA ps sp n cap) 30)) 30 (stA zs none 0 0)
  have B0 := (alloc_bel' w (.cells (stA ps sp n cap) 30)).alloc (by simp) (.cells (stA zs none 0 0) 30)
  have hz30 := zeroValue30
  have hzsz : (stA zs none 0 0).size = 1089 := stA_size zs_len zs_l32
  generalize stA zs none 0 0 = Z at A0 R0 B0 hz30 hzsz
  have hD := Hid.mk' (fun u h h' => delta_x ps w.heap.size sp n cap os sb nb cb L w.heap.size u h h')
  obtain ⟨hq1, hq3, -⟩ := xP_ok (os := os) hL.bts h1 hS.ok.out hS.outs.ok
  have hq2 : ∀ a ∈ xP ps os L, a.lk.length = 32 := fun a ha => (hq3 a ha).l32
  unfold DX at hD
  generalize xP ps os L = Q at *
  generalize xO ps os L = O at *
  generalize xD ps os L = d at *
  generalize xE ps os = e at *
  go_enter Try.func32, Try.ntmps32
  go_upto_region 1 with fail
  generalize (w.alloc (.cells (stA ps sp n cap) 30)).alloc (.cells Z 30) = V at A0 R0 B0 ⊢
  have hVz := R0.lt
  go_upto_region 2 with (first
    | (refine atL 30 (.tmp 2) ?_; refine ld30 (by rfl) _ (by rfl) w.heap.size 30 (by rfl) ps sp n cap h1 h2 A0 ?_)
    | (go_at_call 46; go_must (refine (hD.out _ (hS.below B0) (hL.below B0)).mono ?_; rintro r w1 ⟨s1, n1, c1, rfl, S1, own1, hb1⟩))
    | (refine atS 30 (.tmp 5) (.tmp 12) ?_; refine st30n (by rfl) _ _ (by rfl) w1 w1.heap.size rfl hzsz Q s1 n1 c1 (by rfl) (by rfl) hq1 hq2 ?_))
  have R1 := (R0.below hb1 R0.lt).alloc (.cells (stA Q s1 n1 c1) 30)
  have T1 := Arr.new w1 30 (stA Q s1 n1 c1)
  have B1 := (B0.trans (hb1.mono B0.size)).alloc (Nat.le_trans B0.size hb1.size) (.cells (stA Q s1 n1 c1) 30)
  have own2 := own1.alloc (.cells (stA Q s1 n1 c1) 30)
  have hn1 := S1.outs.len
  have hz1 := hb1.size
  generalize w1.alloc (.cells (stA Q s1 n1 c1) 30) = W1 at *
  generalize w1.heap.size = G1 at *
  clear S1 own1 hb1
  have hsz : (Try.prog.info? 30).map (·.size) = some (stA Q s1 n1 c1).size := by rw [stA_size hq1 hq2]; exact size30
  go_wp2_with (first
    | (refine atL 30 (.tmp 5) ?_; refine ld30 (by rfl) _ (by rfl) G1 30 (by rfl) Q s1 n1 c1 hq1 hq2 T1 ?_)
    | (refine atS 30 (.tmp 4) (.tmp 15) ?_; refine wpList_store_arr (by rfl) 30 (.tmp 4) (.tmp 15) (by rfl) (w.heap.size + 1) (stA Q s1 n1 c1) (by rfl) (by rfl) 30 _ R1 hsz (by rw [hzsz, stA_size hq1 hq2]) (stA_one Q s1 n1 c1) ?_))
  have own4 := own_row own2 (stA Q s1 n1 c1) (show w.heap.size + 1 < V.heap.size by omega)
  exact bodyPost_ret (v := .agg (stA Q s1 n1 c1)) (results_cell_row Try.results32 _ _ (w.heap.size + 1) 30 _ (0, 0) _ rfl (R1.setRow _) Try.underlying30 rfl hsz) rfl ⟨s1, n1, c1, rfl, hn1, own_mono own4 (by have := B0.size; omega), below_setRow B1 (by omega) _⟩
end Go.Proofs.Ytbhhbkoikocjgaa
/- Layer spec: All. -/
namespace Go.Proofs.Ytbhhbkoikocjgaa
set_option linter.unusedSectionVars false
set_option maxHeartbeats 1000000
open Go.RowKit Go.Shelf
set_option maxRecDepth 100000
set_option linter.unusedVariables false
set_option linter.unusedSimpArgs false


variable [DecidableEq Ac] [DecidableEq Ou] [DecidableEq Mg]
/-- What All answers where the state may be: an iterator over its own memory. -/
def AllPost (ps : List Ac) (n : Nat) (os : List Ou) (nl : Nat) (es : List Bz) (w : World) (r : Ending) (w' : World) : Prop :=
  ∃ bm bf s0 c0 sm cm fs, r = .returned (.func (Fn.func 42) #[] #[.pointer (some ⟨bm, 0, none⟩), .pointer (some ⟨bf, 0, none⟩)]) ∧ Arr w' bf 30 (stA ps s0 n c0) ∧ Arr w' bm 31 #[.slice sm nl cm] ∧ SS w'.heap.size w' ps s0 n c0 os ∧ bzs fs = bzs es ∧ BL w'.heap.size w' sm nl cm fs ∧ Below w.heap.size w w'
theorem two_new (w : World) (Z C : Array Value) : Arr (((w.alloc (.cells Z 30)).alloc (.cells #[.slice none 0 0] 31)).setRow w.heap.size C) (w.heap.size + 1) 31 #[.slice none 0 0] := by
  have h := Arr.new (w.alloc (.cells Z 30)) 31 #[.slice none 0 0]
  simp only [World.size_alloc] at h
  exact h.setRowOther _ (by omega)
set_option maxHeartbeats 2000000 in
theorem all_yes (ps : List Ac) (N : Nat) (sp : Option Addr) (n cap : Nat) (os : List Ou) (sl : Option Addr) (nl cl Nl : Nat) (es : List Bz) (w : World) (hS : SS N w ps sp n cap os) (hL : BL Nl w sl nl cl es) (hNl : Nl ≤ w.heap.size) (hm : may ps n = true) :
    Calls Try.prog 18 #[.agg (stA ps sp n cap), .slice sl nl cl] w (AllPost ps n os nl es w) := by
  have hmf : ∀ (fn : Fn) (first cap : Array Value) (w : World), (Instr.makeFunc fn first cap).run Try.prog w = .ok (.func fn first cap) w := fun _ _ _ _ => rfl
  have hL := hL.mono hNl
  have hS := hS.here
  have h1 := hS.a32.out
  have h2 := hS.l32
  have hok := hS.ok
  have hnn := hS.outs.len
  have hns := hS.outs.small
  have hn32 : n ≤ 32 := (may_sum hok.out).1 hm |>.2
  have hmay := fun u => may_any ps sp n cap u h1 hok.out hns
  rw [hm] at hmay
  have A0 := Arr.new w 30 (stA ps sp n cap)
  have B0 := alloc_bel' w (.cells (stA ps sp n cap) 30)
  have hz30 := zeroValue30N
  have hzs := zsize30
  generalize zero30N = Z at hz30 hzs
  go_enter Try.func18, Try.ntmps18
  go_upto_region 3 with (first
    | (refine atL 30 (.tmp 2) ?_; refine ld30 (by rfl) _ (by rfl) w.heap.size 30 (by rfl) ps sp n cap h1 h2 A0 ?_)
    | (go_at_call 24; go_must (refine (hmay _).mono ?_; rintro r w1 ⟨rfl, hb1⟩)))
  have A1 := A0.below hb1 A0.lt
  have B1 := B0.trans (hb1.mono B0.size)
  have hown := own_any ps w.heap.size sp n cap os w1 (hS.below B1) (by omega)
  have hcp := Hid.mk' (fun u (hb : Below w.heap.size w u) => copies_any sl nl cl w.heap.size es u (hL.below hb) hb.size)
  unfold CopPost at hcp
  clear A0 B0 hb1
  go_upto_region 4 with (first
    | (refine atL 30 (.tmp 2) ?_; refine ld30 (by rfl) _ (by rfl) w.heap.size 30 (by rfl) ps sp n cap h1 h2 A1 ?_)
    | (go_at_call 27; go_must (refine hown.mono ?_; rintro r w2 ⟨s2, c2, rfl, own2, hb2⟩; have B2 := B1.trans (hb2.mono B1.size)))
    | (go_at_call 41; go_must (refine (hcp.out _ B2).mono ?_; rintro r w3 ⟨sm, cm, fs, rfl, hbz, hBL, hb3⟩; have AF := (Arr.new w3 30 Z).alloc (.cells #[.slice none 0 0] 31); have hsq := stA_size (sp := s2) (n := n) (cap := c2) h1 h2))
    | (refine atS 30 (.tmp 5) (.tmp 11) ?_; go_must (refine wpList_store_arr (by rfl) 30 (.tmp 5) (.tmp 11) (by rfl) w3.heap.size (stA ps s2 n c2) (by rfl) (by rfl) 30 _ AF (by rw [hsq]; exact size30) (by rw [hzs, hsq]) (stA_one _ _ _ _) ?_; have AM := two_new w3 Z (stA ps s2 n c2); have cM := AM.cell 0; have fM := AM.frozen 0; simp at cM)))
  have AF2 := (AF.setRow (stA ps s2 n c2)).setOther (a := ⟨w3.heap.size + 1, 0, none⟩) (.slice sm nl cm) (by simp)
  have AM2 := AM.set 0 (.slice sm nl cm)
  have e0 : (#[Value.slice none 0 0] : Array Value).setIfInBounds 0 (.slice sm nl cm) = #[.slice sm nl cm] := rfl
  rw [e0] at AM2
  have bF : Below w3.heap.size w3 ((((w3.alloc (.cells Z 30)).alloc (.cells #[.slice none 0 0] 31)).setRow w3.heap.size (stA ps s2 n c2)).setCell ⟨w3.heap.size + 1, 0, none⟩ (.slice sm nl cm)) := (below_setRow (((alloc_bel' w3 _).alloc (by simp) _)) (Nat.le_refl _) _).setCell (p := ⟨w3.heap.size + 1, 0, none⟩) (by show w3.heap.size ≤ w3.heap.size + 1; omega) _
  have B3 := B2.trans (hb3.mono B2.size)
  have S2 : SS w2.heap.size w2 ps s2 n c2 os := ⟨hS.a32, hS.ok, os_own own2 hnn.out hns hS.outs.ok⟩
  have S3 := ((S2.below hb3).mono hb3.size |>.below bF).here
  have L3 := (hBL.below bF).mono bF.size
  generalize (((w3.alloc (.cells Z 30)).alloc (.cells #[.slice none 0 0] 31)).setRow w3.heap.size (stA ps s2 n c2)).setCell ⟨w3.heap.size + 1, 0, none⟩ (.slice sm nl cm) = W4 at *
  go_wp2_with fail
  go_ret
  exact ⟨w3.heap.size + 1, w3.heap.size, s2, c2, sm, cm, fs, rfl, AF2, AM2, S3, hbz, L3, B3.trans (bF.mono B3.size)⟩
set_option maxHeartbeats 1000000 in
theorem all_no (ps : List Ac) (N : Nat) (sp : Option Addr) (n cap : Nat) (os : List Ou) (sl : Option Addr) (nl cl : Nat) (w : World) (hS : SS N w ps sp n cap os) (hm : may ps n = false) :
    Calls Try.prog 18 #[.agg (stA ps sp n cap), .slice sl nl cl] w fun r w' => r = .returned (.func (Fn.func 40) #[] #[]) ∧ Below w.heap.size w w' := by
  have h1 := hS.a32.out
  have h2 := hS.l32
  have hok := hS.ok
  have hns := hS.outs.small
  have hmay := fun u => may_any ps sp n cap u h1 hok.out hns
  rw [hm] at hmay
  have A0 := Arr.new w 30 (stA ps sp n cap)
  have B0 := alloc_bel' w (.cells (stA ps sp n cap) 30)
  go_enter Try.func18, Try.ntmps18
  go_wp2_with (first
    | (refine atL 30 (.tmp 2) ?_; refine ld30 (by rfl) _ (by rfl) w.heap.size 30 (by rfl) ps sp n cap h1 h2 A0 ?_)
    | (go_at_call 24; go_must (refine (hmay _).mono ?_; rintro r w1 ⟨rfl, hb1⟩)))
  go_ret
  exact ⟨rfl, B0.trans (hb1.mono B0.size)⟩
end Go.Proofs.Ytbhhbkoikocjgaa
/- Layer spec: a run with what did something, a run with what flowed: their cells. -/
namespace Go.Proofs.Ytbhhbkoikocjgaa
set_option linter.unusedSectionVars false
set_option maxHeartbeats 1000000
open Go.RowKit Go.Shelf
set_option maxRecDepth 100000
set_option linter.unusedVariables false
set_option linter.unusedSimpArgs false


variable [DecidableEq Ac] [DecidableEq Ou] [DecidableEq Mg]
theorem crA_push (ps : List Ac) (sp : Option Addr) (n cap : Nat) (v : Value) : crA ps sp n cap v = (stA ps sp n cap).push v := by simp [crA, stA]
theorem flA_push (ps : List Ac) (sp : Option Addr) (n cap : Nat) (i u : Int) : flA ps sp n cap i u = ((stA ps sp n cap).push (.int .u64 i)).push (.int .u64 u) := by simp [flA, stA]
/-- A part goes in. -/
theorem foldl_mid (A B C : List Value) (v : Array Value) (h : B.length = v.size) : v.zipIdx.foldl (fun cs (x : Value × Nat) => cs.setIfInBounds (A.length + x.2) x.1) (A ++ B ++ C).toArray = (A ++ v.toList ++ C).toArray := by
  have e : v.zipIdx.foldl (fun cs (x : Value × Nat) => cs.setIfInBounds (A.length + x.2) x.1) (A ++ B ++ C).toArray = (v.toList.zipIdx 0).foldl (fun cs (x : Value × Nat) => cs.setIfInBounds (A.length + x.2) x.1) (A ++ B ++ C).toArray := by
    rw [← Array.foldl_toList, Array.toList_zipIdx]
  rw [e]
  obtain ⟨g1, g2⟩ := Great.foldl_set A.length v.toList 0 (A ++ B ++ C).toArray
  apply Array.ext_getElem?
  intro k
  rw [g2 k]
  simp only [List.size_toArray, List.length_append, Array.length_toList, List.getElem?_toArray, Nat.add_zero]
  by_cases h1 : A.length ≤ k ∧ k < A.length + v.size
  · rw [if_pos (by omega), List.append_assoc, List.getElem?_append_right (by omega), List.getElem?_append_left (by simp; omega)]
  · rw [if_neg (by omega)]
    by_cases h2 : k < A.length
    · rw [List.append_assoc, List.append_assoc, List.getElem?_append_left h2, List.getElem?_append_left h2]
    · rw [List.append_assoc, List.append_assoc, List.getElem?_append_right (by omega), List.getElem?_append_right (by omega), List.getElem?_append_right (by omega), List.getElem?_append_right (by simp; omega)]
      simp [h]
theorem places69 : (match Try.prog.underlying 69 with | some (.struct fs) => fs.toList.mapM (fun f => (Try.prog.info? f.type).map fun i => (f.offset, i.size)) | _ => none) = some [(0, 1089), (1089, 1)] := by kernel_rfl
theorem places82 : (match Try.prog.underlying 82 with | some (.struct fs) => fs.toList.mapM (fun f => (Try.prog.info? f.type).map fun i => (f.offset, i.size)) | _ => none) = some [(0, 1089), (1089, 1), (1090, 1)] := by kernel_rfl
theorem built_of {t : Nat} {Z : Array Value} {pl : List (Nat × Nat)} {parts : List (Nat × Value)} (hz : (Try.prog.info? t).map (·.zero) = some (some (.agg Z))) (hp : (match Try.prog.underlying t with | some (.struct fs) => fs.toList.mapM (fun f => (Try.prog.info? f.type).map fun i => (f.offset, i.size)) | _ => none) = some pl) : Try.prog.built t parts = Instr.fill (pl.toArray[·]?) Z parts := by
  unfold Program.built
  cases hi : Try.prog.info? t with
  | none => rw [hi] at hz; cases hz
  | some it =>
    rw [hi] at hz
    have hz : it.zero = some (.agg Z) := by simpa using hz
    cases hu : Try.prog.underlying t with
    | none => rw [hu] at hp; cases hp
    | some d =>
      rw [hu] at hp
      cases d <;> try (cases hp; done)
      next fs =>
        simp only [] at hp
        simp only [hz, hp, Value.cells]
theorem fill_one {pl : Nat → Option (Nat × Nat)} {A B C : List Value} {v : Value} {i off : Nat} {rest : List (Nat × Value)} (hp : pl i = some (off, v.cells.size)) (ho : off = A.length) (hB : B.length = v.cells.size) : Instr.fill pl (A ++ B ++ C).toArray ((i, v) :: rest) = Instr.fill pl (A ++ v.cells.toList ++ C).toArray rest := by
  subst ho
  rw [Instr.fill, hp]
  simp only []
  rw [if_neg (by simp; omega)]
  rw [foldl_mid A B C v.cells hB]
theorem zero69_eq : zero69N = ([] ++ (stC zs none 0 0) ++ [Value.slice none 0 0]).toArray := rfl
theorem zero82_eq : zero82N = ([] ++ (stC zs none 0 0) ++ [Value.int .u64 0, Value.int .u64 0]).toArray := rfl
theorem built69 {ps : List Ac} {sp : Option Addr} {n cap : Nat} {s : Option Addr} {k c : Nat} (h1 : ps.length = 32) (h2 : ∀ a ∈ ps, a.lk.length = 32) : Try.prog.built 69 [(0, .agg (stA ps sp n cap)), (1, .slice s k c)] = some (crA ps sp n cap (.slice s k c)) := by
  rw [built_of zeroI69 places69, zero69_eq, fill_one (off := 0) (by simp [Value.cells, stA, stC_len h1 h2]) rfl (by simp [Value.cells, stA, stC_len h1 h2, stC_len zs_len zs_l32])]
  have e : ([] ++ (Value.agg (stA ps sp n cap)).cells.toList ++ [Value.slice none 0 0]) = stC ps sp n cap ++ [.slice none 0 0] ++ [] := by simp [Value.cells, stA]
  rw [e, fill_one (A := stC ps sp n cap) (B := [Value.slice none 0 0]) (C := []) (off := 1089) (by simp [Value.cells]) (by rw [stC_len h1 h2]) rfl]
  simp [Instr.fill, Value.cells, crA]
theorem built69a {ps : List Ac} {sp : Option Addr} {n cap : Nat} (h1 : ps.length = 32) (h2 : ∀ a ∈ ps, a.lk.length = 32) : Try.prog.built 69 [(0, .agg (stA ps sp n cap))] = some (crA ps sp n cap (.slice none 0 0)) := by
  rw [built_of zeroI69 places69, zero69_eq, fill_one (off := 0) (by simp [Value.cells, stA, stC_len h1 h2]) rfl (by simp [Value.cells, stA, stC_len h1 h2, stC_len zs_len zs_l32])]
  simp [Instr.fill, Value.cells, crA, stA]
theorem built82a {ps : List Ac} {sp : Option Addr} {n cap : Nat} (h1 : ps.length = 32) (h2 : ∀ a ∈ ps, a.lk.length = 32) : Try.prog.built 82 [(0, .agg (stA ps sp n cap))] = some (flA ps sp n cap 0 0) := by
  rw [built_of zeroI82 places82, zero82_eq, fill_one (off := 0) (by simp [Value.cells, stA, stC_len h1 h2]) rfl (by simp [Value.cells, stA, stC_len h1 h2, stC_len zs_len zs_l32])]
  simp [Instr.fill, Value.cells, flA, stA]
/-- What lies in the block of a course, of a flow. -/
theorem Arr.crS {w : World} {g ty : Nat} {ps : List Ac} {sp : Option Addr} {n cap : Nat} {v : Value} (h : Arr w g ty (crA ps sp n cap v)) : w.rangeAt g 0 (stC ps sp n cap) := fun j u hu => by
  have hj := (List.getElem?_eq_some_iff.1 hu).1
  rw [Nat.zero_add, h.cell]
  simp only [crA, List.getElem?_toArray]
  rw [List.getElem?_append_left hj]; exact hu
theorem Arr.crD {w : World} {g ty : Nat} {ps : List Ac} {sp : Option Addr} {n cap : Nat} {v : Value} (h : Arr w g ty (crA ps sp n cap v)) (h1 : ps.length = 32) (h2 : ∀ a ∈ ps, a.lk.length = 32) : w.cell? ⟨g, 1089, none⟩ = some v := by
  rw [h.cell]
  simp only [crA, List.getElem?_toArray]
  rw [List.getElem?_append_right (by rw [stC_len h1 h2]; omega), stC_len h1 h2]; rfl
theorem Arr.flS {w : World} {g ty : Nat} {ps : List Ac} {sp : Option Addr} {n cap : Nat} {i u : Int} (h : Arr w g ty (flA ps sp n cap i u)) : w.rangeAt g 0 (stC ps sp n cap) := fun j v hv => by
  have hj := (List.getElem?_eq_some_iff.1 hv).1
  rw [Nat.zero_add, h.cell]
  simp only [flA, List.getElem?_toArray]
  rw [List.getElem?_append_left hj]; exact hv
theorem Arr.flI {w : World} {g ty : Nat} {ps : List Ac} {sp : Option Addr} {n cap : Nat} {i u : Int} (h : Arr w g ty (flA ps sp n cap i u)) (h1 : ps.length = 32) (h2 : ∀ a ∈ ps, a.lk.length = 32) : w.cell? ⟨g, 1089, none⟩ = some (.int .u64 i) := by
  rw [h.cell]
  simp only [flA, List.getElem?_toArray]
  rw [List.getElem?_append_right (by rw [stC_len h1 h2]; omega), stC_len h1 h2]; rfl
theorem Arr.flU {w : World} {g ty : Nat} {ps : List Ac} {sp : Option Addr} {n cap : Nat} {i u : Int} (h : Arr w g ty (flA ps sp n cap i u)) (h1 : ps.length = 32) (h2 : ∀ a ∈ ps, a.lk.length = 32) : w.cell? ⟨g, 1090, none⟩ = some (.int .u64 u) := by
  rw [h.cell]
  simp only [flA, List.getElem?_toArray]
  rw [List.getElem?_append_right (by rw [stC_len h1 h2]; omega), stC_len h1 h2]; rfl
theorem fl_there {w : World} {g ty : Nat} {ps : List Ac} {sp : Option Addr} {n cap : Nat} {i u : Int} (h : Arr w g ty (flA ps sp n cap i u)) (h1 : ps.length = 32) (h2 : ∀ a ∈ ps, a.lk.length = 32) : w.there g 0 1089 := fun j hj => by
  refine ⟨?_, ?_⟩
  · rw [Nat.zero_add, h.cell, Array.getElem?_eq_getElem (by rw [flA_size h1 h2]; omega)]; simp
  · rw [Nat.zero_add]; exact h.frozen j
/-- The state of a flow is set. -/
theorem Arr.flSet {w : World} {g ty : Nat} {ps qs : List Ac} {sp sq : Option Addr} {n cap m cq : Nat} {i u : Int} (h : Arr w g ty (flA ps sp n cap i u)) (h1 : ps.length = 32) (h2 : ∀ a ∈ ps, a.lk.length = 32) (k1 : qs.length = 32) (k2 : ∀ a ∈ qs, a.lk.length = 32) : Arr (w.setCells g 0 (stC qs sq m cq)) g ty (flA qs sq m cq i u) := by
  have e := (arr_setCells (stC qs sq m cq) 0 w _ h).1
  have e2 := setA_mid (stC ps sp n cap) (stC qs sq m cq) [] [Value.int .u64 i, Value.int .u64 u] (by rw [stC_len h1 h2, stC_len k1 k2])
  rw [List.nil_append, List.length_nil] at e2
  have e3 : setA (flA ps sp n cap i u) 0 (stC qs sq m cq) = flA qs sq m cq i u := e2
  rw [e3] at e; exact e
theorem fl_setI {ps : List Ac} {sp : Option Addr} {n cap : Nat} {i u x : Int} (h1 : ps.length = 32) (h2 : ∀ a ∈ ps, a.lk.length = 32) : (flA ps sp n cap i u).setIfInBounds 1089 (.int .u64 x) = flA ps sp n cap x u := by
  have := stC_len (sp := sp) (n := n) (cap := cap) h1 h2
  unfold flA
  generalize stC ps sp n cap = l at *
  simp [List.set_append, this]
theorem fl_setU {ps : List Ac} {sp : Option Addr} {n cap : Nat} {i u x : Int} (h1 : ps.length = 32) (h2 : ∀ a ∈ ps, a.lk.length = 32) : (flA ps sp n cap i u).setIfInBounds 1090 (.int .u64 x) = flA ps sp n cap i x := by
  have := stC_len (sp := sp) (n := n) (cap := cap) h1 h2
  unfold flA
  generalize stC ps sp n cap = l at *
  simp [List.set_append, this]
/-- Bools in a row. -/
def bls (D : List Bool) : List Value := D.map Value.bool
theorem bls_len (D : List Bool) : (bls D).length = D.length := by simp [bls]
theorem info4 : (Try.prog.info? 4).map (fun i => (i.zero, i.size, i.bytes)) = some (some (.bool false), 1, 1) := by kernel_rfl
theorem wp_ap4 {o : Oper} {a : Act} {w : World} {K : Act → World → Prop} {Q : Exit → Act → World → Prop} (s x : Operand) (ho : o.op = .call { callee := .builtin .append, args := #[s, x], argTypes := #[32, 32] })
    (base : Nat) (v : Value) (k : Nat) (D : List Bool) (hs : a.eval s = v) (hown : w.ownsRow base 4 1 v k (bls D)) (g : Nat) (d : Bool) (hx : a.eval x = .slice (some ⟨g, 0, none⟩) 1 1) (hg : Arr w g 4 #[.bool d]) (hk : k + 1 ≤ 140737488355328) (hb : base ≤ w.heap.size)
    (h : ∀ v' w', w'.ownsRow base 4 1 v' (k + 1) (bls (D ++ [d])) → w.grownBy w' v.ownBlock → K (a.put o.dst v') w') : o.wp Try.prog a w K Q := by
  obtain ⟨i0, hi0, hz0, hz1, hz2⟩ := info_parts info4
  refine wp_append_own w s x 32 ho base 4 i0 (.bool false) 1 1 Try.underlying32 hi0 hz0 hz1 hz2 rfl (by omega) v k _ hs hown ⟨g, 0, none⟩ 1 1 [.bool d] hx rfl (fun j u hj => ?_) (fun u hu => by simp at hu; subst hu; rfl) (by unfold maxLen; omega) (by omega) hb (fun v' w' h1 h2 _ => h v' w' (by simpa [bls] using h1) h2)
  have hj0 : j = 0 := by have := (List.getElem?_eq_some_iff.1 hj).1; simp at this; exact this
  subst hj0
  rw [Addr.add_mid, Nat.zero_add, hg.cell]
  simpa using hj
end Go.Proofs.Ytbhhbkoikocjgaa
