/- Ai, Aj, Ak, Me, YMg, Al. -/
import Derived.Test.YtndonaebdbbofaaX19
import Derived.Test.YtndonaebdbbofaaX01
import Derived.Test.YtndonaebdbbofaaX03
import Derived.Test.YtndonaebdbbofaaX06
import Derived.Test.YtndonaebdbbofaaX14
import Derived.Test.YtndonaebdbbofaaX07
import Derived.BigQuiet
import Derived.BigRegion
import Derived.ChangeKeysEq
import Derived.Deep.DeepCutAuto
import Derived.Deep.DrawnRows
import Derived.Deep.MidRow
import Derived.Deep.QuietTactic
import Derived.Deep.RegionHeld3
import Derived.Deep.RegionLaw
import Derived.Deep.RegionWith
import Derived.Deep.WholeRow
import Derived.Laws.AppendOwnNone
import Derived.Laws.BitsLemmas
import Derived.Laws.BytesArg
import Derived.Laws.CopyOwn
import Derived.Lib.SlBytesConst
import Derived.WalkKit
import Derived.WalkLawsBesides
import Derived.WalkSpells
import Derived.Test.YtndonaebdbbofaaX15
import Derived.Test.YtndonaebdbbofaaX11
import Derived.Test.YtndonaebdbbofaaX13
import Derived.Test.YtndonaebdbbofaaX16
import Derived.Test.YtndonaebdbbofaaX17
/- Layer mem: New, and what a memory answers. -/
namespace Go.Proofs.Ytndonaebdbbofaa
open Go.RowKit
set_option maxRecDepth 100000
set_option linter.unusedVariables false
set_option linter.unusedSimpArgs false


theorem tA_eq (v u : Value) : tA v u = #[.func (Fn.func 31) #[] #[], v, u] := rfl
/-- What New answers where it makes a memory. -/
def NwPost (d n m : Nat) (L : List Int) (w : World) (e : Ending) (w' : World) : Prop := ∃ g gt ct gl cl, e = .returned (.tuple #[.pointer (some ⟨g, 0, none⟩), .int .i64 0]) ∧ ME w' g d n m L gt ct gl cl ∧ w.heap.size ≤ g ∧ w.heap.size ≤ gt ∧ w.heap.size ≤ gl ∧ Below w.heap.size w w'
set_option maxHeartbeats 1000000 in
theorem new_ok (sp : Option Addr) (n cap d m : Nat) (L : List Int) (N : Nat) (w : World) (hM : MS N w sp n cap L) (hU : ∀ k, U64 (L.getD k 0)) (hd : d ≤ 12) (hn : Hid (n = 2 ^ d)) (hm : Hid (m + 1 = 2 * n)) :
    Calls Try.prog 9 #[.slice sp n cap] w (NwPost d n m L w) := by
  have hsz : szB L.length = true := by rw [← hM.len.out, hn.out]; exact pow_szB hd
  have hmb := fun w hM => mayBe_any sp n cap L w.heap.size w hM hU
  rw [hsz] at hmb
  clear hsz
  have hn4 : n ≤ 4096 := by rw [hn.out]; exact pow12 hd
  have hn0 : 0 < n := by rw [hn.out]; exact Nat.pow_pos (by omega)
  have hMh := hM.here
  have hlen : Hid (L.length = n) := Hid.mk' hM.len.out.symm
  obtain ⟨p, hp⟩ : ∃ p, n = p + 1 := ⟨n - 1, by omega⟩
  replace hp := Hid.mk' hp
  have hmp : Hid (m = n + p) := Hid.mk' (by have := hp.out; have := hm.out; omega)
  clear hM
  have hcl := fun w hM => clone64_any sp n cap L w.heap.size w hM hn0
  have hgr := fun gt ct w hW hct => grow_any gt ct n m p L w hW hlen hp hmp hn4 hct
  unfold fL at hgr
  go_enter Try.func9, Try.ntmps9
  go_wp2_with (first
    | (go_at_call 28; go_must (refine (hmb _ hMh).mono ?_; rintro e w1 ⟨rfl, hb1⟩; have hM1 := (hMh.below hb1).mono hb1.size))
    | (go_at_call 30; go_must (refine (hcl _ hM1).mono ?_; rintro e w2 ⟨gt, ct, rfl, hgt, hct1, hct2, hW2, hb2⟩; have hB2 := hb1.trans (hb2.mono hb1.size)))
    | (go_at_call 29; go_must (refine (hgr gt ct w2 hW2 hct1).mono ?_; rintro e w3 ⟨gl, cl, T, rfl, hgl, hcl1, hcl2, hHB, hTl, hTI, hb3⟩; have hB3 := hB2.trans (hb3.mono hB2.size); have hW3 := hW2.below hb3 hW2.lt; rw [tA_eq])))
  have hs1 := hb1.size
  have hs2 := hb2.size
  have hs3 := hb3.size
  have A := Arr.new w3 76 #[.func (Fn.func 31) #[] #[], .slice (some ⟨gt, 0, none⟩) n ct, .slice (some ⟨gl, 0, none⟩) m cl]
  have hgt2 := hW2.lt
  have hgl3 := hHB.lt
  have hME : ME (w3.alloc (.cells #[.func (Fn.func 31) #[] #[], .slice (some ⟨gt, 0, none⟩) n ct, .slice (some ⟨gl, 0, none⟩) m cl] 76)) w3.heap.size d n m L gt ct gl cl :=
    ⟨⟨T, ⟨A.cell 0, A.cell 1, A.cell 2, hW3.below (alloc_bel' w3 _) hW3.lt, hHB.below (alloc_bel' w3 _) hgl3, hlen, Hid.mk' hTl, hm, hn0, hn4, hct1, hct2, hcl1, hcl2, by omega, by omega, by omega⟩, hTI⟩, hd, hn⟩
  go_ret2
  exact ⟨w3.heap.size, gt, ct, gl, cl, rfl, hME, by omega, by omega, by omega, hB3.alloc (by omega) _⟩
set_option maxHeartbeats 1000000 in
theorem new_no (sp : Option Addr) (n cap : Nat) (L : List Int) (N : Nat) (w : World) (hM : MS N w sp n cap L) (hU : ∀ k, U64 (L.getD k 0)) (h : szB L.length = false) :
    Calls Try.prog 9 #[.slice sp n cap] w fun e w' => e = .returned (.tuple #[.pointer none, .int .i64 2]) ∧ Below w.heap.size w w' := by
  have hmb := mayBe_any sp n cap L N w hM hU
  rw [h] at hmb
  clear h hM
  go_enter Try.func9, Try.ntmps9
  go_wp2_with (go_at_call 28; go_must (refine hmb.mono ?_; rintro e w1 ⟨rfl, hb1⟩))
  go_ret2
  exact ⟨rfl, hb1⟩
set_option maxHeartbeats 400000 in
theorem isThere_any (g n m : Nat) (L : List Int) (T : List (List Int)) (gt ct gl cl : Nat) (w : World) (hM : MF w g n m L T gt ct gl cl) :
    Calls Try.prog 41 #[.pointer (some ⟨g, 0, none⟩)] w fun e w' => e = .returned (.bool true) ∧ w' = w := by
  have c1 := hM.c1
  have hn0 := hM.n0
  have hn0I : (0 : Int) < n := by omega
  have hn4 := hM.n4
  have hq : ∀ w, (binOp .neq 24 (.pointer (some ⟨g, 0, none⟩)) (.pointer none)).run Try.prog w = .ok (.bool true) w := fun w => by first | rfl | (go_simp)
  clear hM
  go_enter Try.func41, Try.ntmps41
  go_wp2
  go_ret
  exact ⟨rfl, rfl⟩
set_option maxHeartbeats 400000 in
theorem isThere_nil (w : World) : Calls Try.prog 41 #[.pointer none] w fun e w' => e = .returned (.bool false) ∧ w' = w := by
  go_enter Try.func41, Try.ntmps41
  go_wp2
  go_ret
  exact ⟨rfl, rfl⟩
set_option maxHeartbeats 400000 in
theorem find_nil (x : Int) (w : World) : Calls Try.prog 34 #[.pointer none, .int .u64 x] w fun e w' => e = .returned (.int .i64 1) ∧ w' = w := by
  go_enter Try.func34, Try.ntmps34
  go_wp2_with (go_at_call 41; go_must (refine (isThere_nil _).mono ?_; rintro e w1 ⟨rfl, h⟩; replace h := h.symm; subst h))
  go_ret
  exact ⟨rfl, rfl⟩
/-- The code of asking for an address. -/
def aE (x : Int) (n : Nat) : Int := if x < n then 0 else 2
set_option maxHeartbeats 400000 in
theorem find_any (g n m : Nat) (L : List Int) (T : List (List Int)) (gt ct gl cl : Nat) (x : Int) (hx : U64 x) (w : World) (hM : MF w g n m L T gt ct gl cl) :
    Calls Try.prog 34 #[.pointer (some ⟨g, 0, none⟩), .int .u64 x] w fun e w' => e = .returned (.int .i64 (aE x n)) ∧ w' = w := by
  have c1 := hM.c1
  have hn4 := hM.n4
  have hth := isThere_any g n m L T gt ct gl cl w hM
  have hnn : (n : Int) % 18446744073709551616 = n := by omega
  unfold aE
  clear hM
  by_cases h : x < n
  · rw [if_pos h]
    have h' : ¬ (n : Int) ≤ x := by omega
    go_enter Try.func34, Try.ntmps34
    go_wp2_with (go_at_call 41; go_must (refine hth.mono ?_; rintro e w1 ⟨rfl, h⟩; replace h := h.symm; subst h))
    go_ret
    exact ⟨rfl, rfl⟩
  · rw [if_neg h]
    have h' : (n : Int) ≤ x := by omega
    go_enter Try.func34, Try.ntmps34
    go_wp2_with (go_at_call 41; go_must (refine hth.mono ?_; rintro e w1 ⟨rfl, h⟩; replace h := h.symm; subst h))
    go_ret
    exact ⟨rfl, rfl⟩
end Go.Proofs.Ytndonaebdbbofaa
/- Layer mem: Get, Set, Prove, Root, Words. -/
namespace Go.Proofs.Ytndonaebdbbofaa
open Go.RowKit
set_option maxRecDepth 100000
set_option linter.unusedVariables false
set_option linter.unusedSimpArgs false


theorem getD_none {L : List Int} {k : Nat} (h : L.length ≤ k) : L.getD k 0 = 0 := by rw [List.getD_eq_getElem?_getD, List.getElem?_eq_none h]; rfl
set_option maxHeartbeats 400000 in
theorem get_any (g d n m : Nat) (L : List Int) (gt ct gl cl : Nat) (x : Int) (hx : U64 x) (w : World) (hE : ME w g d n m L gt ct gl cl) :
    Calls Try.prog 12 #[.pointer (some ⟨g, 0, none⟩), .int .u64 x] w fun e w' => e = .returned (.tuple #[.int .u64 (L.getD x.toNat 0), .int .i64 (aE x n)]) ∧ w' = w := by
  obtain ⟨T, hM, -⟩ := hE.ex
  have hf := find_any g n m L T gt ct gl cl x hx w hM
  have c1 := hM.c1
  have hn4 := hM.n4
  have hct := hM.ct1
  have hx0 := hx.1
  unfold aE at hf ⊢
  by_cases h : x < n
  · rw [if_pos h] at hf ⊢
    obtain ⟨k, rfl⟩ : ∃ k : Nat, x = k := ⟨x.toNat, by omega⟩
    have hk : k < n := by omega
    have hc := hM.words.cell (t := k) (by rw [hM.hL.out]; exact hk)
    rw [Int.toNat_natCast]
    generalize L.getD k 0 = y at *
    have hkc : k < ct := by omega
    clear hM hE
    go_enter Try.func12, Try.ntmps12
    go_wp2_with (go_at_call 34; go_must (refine hf.mono ?_; rintro e w1 ⟨rfl, h⟩; replace h := h.symm; subst h))
    go_ret2
    exact ⟨rfl, rfl⟩
  · rw [if_neg h] at hf ⊢
    rw [getD_none (by rw [hM.hL.out]; omega)]
    clear hM hE
    go_enter Try.func12, Try.ntmps12
    go_wp2_with (go_at_call 34; go_must (refine hf.mono ?_; rintro e w1 ⟨rfl, h⟩; replace h := h.symm; subst h))
    go_ret2
    exact ⟨rfl, rfl⟩
set_option maxHeartbeats 400000 in
theorem get_nil (x : Int) (w : World) : Calls Try.prog 12 #[.pointer none, .int .u64 x] w fun e w' => e = .returned (.tuple #[.int .u64 0, .int .i64 1]) ∧ w' = w := by
  go_enter Try.func12, Try.ntmps12
  go_wp2_with (go_at_call 34; go_must (refine (find_nil x _).mono ?_; rintro e w1 ⟨rfl, h⟩; replace h := h.symm; subst h))
  go_ret2
  exact ⟨rfl, rfl⟩
set_option maxHeartbeats 400000 in
theorem set_nil (x y : Int) (w : World) : Calls Try.prog 13 #[.pointer none, .int .u64 x, .int .u64 y] w fun e w' => e = .returned (.int .i64 1) ∧ w' = w := by
  go_enter Try.func13, Try.ntmps13
  go_wp2_with (go_at_call 34; go_must (refine (find_nil x _).mono ?_; rintro e w1 ⟨rfl, h⟩; replace h := h.symm; subst h))
  go_ret
  exact ⟨rfl, rfl⟩
set_option maxHeartbeats 400000 in
theorem prove_nil (x : Int) (w : World) : Calls Try.prog 14 #[.pointer none, .int .u64 x] w fun e w' => e = .returned (.tuple #[.slice none 0 0, .int .i64 1]) ∧ w' = w := by
  go_enter Try.func14, Try.ntmps14
  go_wp2_with (go_at_call 34; go_must (refine (find_nil x _).mono ?_; rintro e w1 ⟨rfl, h⟩; replace h := h.symm; subst h))
  go_ret2
  exact ⟨rfl, rfl⟩
set_option maxHeartbeats 400000 in
theorem words_nil (w : World) : Calls Try.prog 20 #[.pointer none] w fun e w' => e = .returned (.slice none 0 0) ∧ w' = w := by
  go_enter Try.func20, Try.ntmps20
  go_wp2_with (go_at_call 41; go_must (refine (isThere_nil _).mono ?_; rintro e w1 ⟨rfl, h⟩; replace h := h.symm; subst h))
  go_ret
  exact ⟨rfl, rfl⟩
set_option maxHeartbeats 400000 in
theorem root_nil (w : World) : Calls Try.prog 18 #[.pointer none] w fun e w' => e = .returned (.agg (h8 Z32)) ∧ Below w.heap.size w w' := by
  have A0 := Arr.new w 43 (h8 Z32)
  have hb0 := alloc_bel' w (.cells (h8 Z32) 43)
  rw [h8_Z] at A0 hb0
  go_enter Try.func18, Try.ntmps18
  go_wp2_with (first
    | (go_at_call 41; go_must (refine (isThere_nil _).mono ?_; rintro e w1 ⟨rfl, h⟩; replace h := h.symm; subst h))
    | (refine st24 (by rfl) _ _ (by rfl) w.heap.size Z32 Z32 (by rfl) (by rfl) Z32_len Z32_len A0 ?_))
  exact bodyPost_ret (v := .agg (h8 Z32)) (res24 Try.results18 rfl Z32_len (A0.setRow _)) rfl ⟨rfl, below_setRow hb0 (Nat.le_refl _) _⟩
set_option maxHeartbeats 1000000 in
theorem set_any (g d n m : Nat) (L : List Int) (gt ct gl cl : Nat) (x y : Int) (hx : U64 x) (w : World) (hE : ME w g d n m L gt ct gl cl) :
    Calls Try.prog 13 #[.pointer (some ⟨g, 0, none⟩), .int .u64 x, .int .u64 y] w fun e w' => e = .returned (.int .i64 (aE x n)) ∧ ME w' g d n m (L.set x.toNat y) gt ct gl cl ∧ Chg (GS gt gl) w w' := by
  obtain ⟨T, hM, hTI⟩ := hE.ex
  have hf := find_any g n m L T gt ct gl cl x hx w hM
  have hx0 := hx.1
  have hn4 := hM.n4
  unfold aE at hf ⊢
  by_cases h : x < n
  · rw [if_pos h] at hf ⊢
    obtain ⟨k, rfl⟩ : ∃ k : Nat, x = k := ⟨x.toNat, by omega⟩
    have hk : k < n := by omega
    rw [Int.toNat_natCast]
    have hput := put_anyM g n m k y L T gt ct gl cl w hM (Hid.mk' hTI) hk
    have hd := hE.hd
    have hn := hE.hn
    have hkI : IntKind.i64.wrap (k : Int) = k := by rw [IntKind.wrap_i64]; omega
    clear hM hE hTI
    go_enter Try.func13, Try.ntmps13
    go_wp2_with (first
      | (go_at_call 34; go_must (refine hf.mono ?_; rintro e w1 ⟨rfl, h⟩; replace h := h.symm; subst h))
      | (go_at_call 35; go_must (refine hput.mono ?_; rintro e w2 ⟨⟨v2, rfl⟩, hT', hC⟩)))
    go_ret
    exact ⟨rfl, ⟨hT', hd, hn⟩, hC⟩
  · rw [if_neg h] at hf ⊢
    rw [List.set_eq_of_length_le (by rw [hM.hL.out]; omega)]
    clear hM hTI
    go_enter Try.func13, Try.ntmps13
    go_wp2_with (go_at_call 34; go_must (refine hf.mono ?_; rintro e w1 ⟨rfl, h⟩; replace h := h.symm; subst h))
    go_ret
    exact ⟨rfl, hE, Chg.refl _ _⟩
/-- The path of a word: what is answered. -/
def pv (d : Nat) (L : List Int) (x : Int) : List (List Int) := if x < L.length then pf d (lvs L) x.toNat else []
theorem pv_l32 (d : Nat) (L : List Int) (x : Int) : ∀ z ∈ pv d L x, z.length = 32 := by
  intro z hz
  unfold pv at hz
  split at hz
  · unfold pf at hz
    obtain ⟨k, -, rfl⟩ := List.mem_map.1 hz
    exact tr_len _ _ (fun y hy => lvs_l32 L y (List.mem_of_mem_drop hy))
  · cases hz
theorem pv_len (d : Nat) (L : List Int) (x : Int) : (pv d L x).length ≤ d := by
  unfold pv; split
  · rw [pf_len]; exact Nat.le_refl _
  · exact Nat.zero_le _
/-- What Prove answers: the path and a code. -/
def PvPost (d : Nat) (L : List Int) (x : Int) (w : World) (e : Ending) (w' : World) : Prop :=
  ∃ sp k cap, e = .returned (.tuple #[.slice sp k cap, .int .i64 (aE x L.length)]) ∧ k = (pv d L x).length ∧ HS w'.heap.size w' sp k cap (pv d L x) ∧ w'.ownsRow w.heap.size 43 32 (.slice sp k cap) k (flat32 (pv d L x)) ∧ Below w.heap.size w w'
theorem pvPost_of {d : Nat} {L : List Int} {x : Int} {w w' : World} {v : Value} (hd : d ≤ 12) (hown : w'.ownsRow w.heap.size 43 32 v (pv d L x).length (flat32 (pv d L x))) (hb : Below w.heap.size w w') : PvPost d L x w (.returned (.tuple #[v, .int .i64 (aE x L.length)])) w' := by
  obtain ⟨sp, cap, rfl, hH, -⟩ := own_hs hown (pv_l32 d L x) rfl (by have := pv_len d L x; omega)
  exact ⟨sp, _, cap, rfl, rfl, hH, hown, hb⟩
set_option maxHeartbeats 1000000 in
theorem prove_any (g d n m : Nat) (L : List Int) (gt ct gl cl : Nat) (x : Int) (hx : U64 x) (w : World) (hE : ME w g d n m L gt ct gl cl) :
    Calls Try.prog 14 #[.pointer (some ⟨g, 0, none⟩), .int .u64 x] w (PvPost d L x w) := by
  obtain ⟨T, hM, hTI⟩ := hE.ex
  have hf := find_any g n m L T gt ct gl cl x hx w hM
  have hx0 := hx.1
  have hn4 := hM.n4
  have hL := hM.hL
  have hd := hE.hd
  by_cases h : x < n
  · have e1 : aE x n = 0 := if_pos h
    rw [e1] at hf
    obtain ⟨k, rfl⟩ : ∃ k : Nat, x = k := ⟨x.toNat, by omega⟩
    have hk : k < n := by omega
    have hp := path_any g d n m k L T gt ct gl cl w hM (Hid.mk' hTI) hd hE.hn hk
    have e2 : pv d L (k : Int) = pf d (lvs L) k := by unfold pv; rw [if_pos (by rw [hL.out]; exact h), Int.toNat_natCast]
    have hkI : IntKind.i64.wrap (k : Int) = k := by rw [IntKind.wrap_i64]; omega
    have e3 : Hid (aE (k : Int) L.length = 0) := Hid.mk' (by rw [hL.out]; exact e1)
    replace e2 := Hid.mk' e2
    clear hM hE hTI e1
    go_enter Try.func14, Try.ntmps14
    go_wp2_with (first
      | (go_at_call 34; go_must (refine hf.mono ?_; rintro e w1 ⟨rfl, h⟩; replace h := h.symm; subst h))
      | (go_at_call 36; go_must (refine hp.mono ?_; rintro e w2 ⟨v2, rfl, hown, hb⟩)))
    have hP := pvPost_of (v := v2) (d := d) (L := L) (x := (k : Int)) hd (by rw [e2.out, pf_len]; exact hown) hb
    rw [e3.out] at hP
    go_ret2
    exact hP
  · have e1 : aE x n = 2 := if_neg h
    rw [e1] at hf
    have e2 : pv d L x = [] := by unfold pv; rw [if_neg (by rw [hL.out]; exact h)]
    have e3 : Hid (aE x L.length = 2) := Hid.mk' (by rw [hL.out]; exact e1)
    have hP := pvPost_of (v := .slice none 0 0) (d := d) (L := L) (x := x) (w := w) (w' := w) hd (by rw [e2]; exact World.ownsRow_nil _ _ _ _) (Below.refl _ _)
    rw [e3.out] at hP
    clear hM hE hTI e1
    go_enter Try.func14, Try.ntmps14
    go_wp2_with (go_at_call 34; go_must (refine hf.mono ?_; rintro e w1 ⟨rfl, h⟩; replace h := h.symm; subst h))
    go_ret2
    exact hP
set_option maxHeartbeats 1000000 in
theorem words_anyM (g d n m : Nat) (L : List Int) (gt ct gl cl : Nat) (w : World) (hE : ME w g d n m L gt ct gl cl) :
    Calls Try.prog 20 #[.pointer (some ⟨g, 0, none⟩)] w fun e w' => ∃ gm cap', e = .returned (.slice (some ⟨gm, 0, none⟩) n cap') ∧ w.heap.size ≤ gm ∧ n ≤ cap' ∧ cap' ≤ 9223372036854775807 ∧ MW w' gm L ∧ Below w.heap.size w w' := by
  obtain ⟨T, hM, hTI⟩ := hE.ex
  have hth := isThere_any g n m L T gt ct gl cl w hM
  have c1 := hM.c1
  have hMS := hM.words.ms hM.hL.out.symm (by have := hM.n4; omega) ⟨hM.ct1, hM.ct2⟩
  have hcl := clone64_any (some ⟨gt, 0, none⟩) n ct L w.heap.size w hMS hM.n0
  clear hM hE hTI hMS
  go_enter Try.func20, Try.ntmps20
  go_wp2_with (first
    | (go_at_call 41; go_must (refine hth.mono ?_; rintro e w1 ⟨rfl, h⟩; replace h := h.symm; subst h))
    | (go_at_call 30; go_must (refine hcl.mono ?_; rintro e w2 ⟨gm, cap', rfl, hg, hc1, hc2, hW, hb⟩)))
  go_ret
  exact ⟨gm, cap', rfl, hg, hc1, hc2, hW, hb⟩
set_option maxHeartbeats 1000000 in
theorem mroot_any (g d n m : Nat) (L : List Int) (gt ct gl cl : Nat) (w : World) (hE : ME w g d n m L gt ct gl cl) :
    Calls Try.prog 18 #[.pointer (some ⟨g, 0, none⟩)] w fun e w' => e = .returned (.agg (h8 (rW L))) ∧ Below w.heap.size w w' := by
  obtain ⟨T, hM, hTI⟩ := hE.ex
  have hlt := hM.lt
  have hm10 : m ≤ 10000 := by have := hM.hm.out; have := hM.n4; omega
  obtain ⟨t, ht⟩ : ∃ t, m = t + 1 := ⟨m - 1, by have := hM.hm.out; have := hM.n0; omega⟩
  have htop : rW L = tat T t := by
    rw [(rW_pow (d := d) hE.hd (by rw [hM.hL.out]; exact hE.hn.out)).1, ← TI.top (d := d) (by rw [← hE.hn.out]; exact hTI) (by rw [hM.hT.out, ← hE.hn.out]; have := hM.hm.out; omega) (by rw [lvs_len, hM.hL.out]; exact hE.hn.out)]
    congr 1
    rw [← hE.hn.out]
    have := hM.hm.out
    omega
  have hX := hM.sums.at (i := t) (by rw [hM.hT.out]; omega)
  have hX32 := tat_l32 hM.sums.l32 (i := t) (by rw [hM.hT.out]; omega)
  rw [htop]
  generalize tat T t = X at *
  clear htop hTI
  have htI : (t : Int) < m := by omega
  have htc : t < cl := by have := hM.cl1; omega
  replace ht := Hid.mk' ht
  have A0 := Arr.new w 43 (h8 Z32)
  have hb0 := alloc_bel' w (.cells (h8 Z32) 43)
  have hMV := hM.keep hb0
  rw [h8_Z] at A0 hb0 hMV
  have hth := fun V hM => isThere_any g n m L T gt ct gl cl V hM
  have htp := fun V c2 => top_any g m cl gl t V c2 hm10 ht
  have c2 := hMV.c2
  have hXV := range_below hX hb0 hlt.2.2
  clear hX hE
  go_enter Try.func18, Try.ntmps18
  go_upto_region 3 with (go_at_call 41; go_must (refine (hth _ hMV).mono ?_; rintro e w1 ⟨rfl, h⟩; replace h := h.symm; subst h))
  generalize hV : w.alloc (.cells _ 43) = V at *
  clear hV hth
  refine wp_region_held_drew (S := fun u => Below w.heap.size V u) (by kernel_rfl) ((Below.refl _ _).drew) (fun hHeld => ?_)
  refine wpAnyH_take (i := 0) (oi := ⟨_, _, _, _, _, _⟩) (v := ?_) rfl (by kernel_rfl) (by kernel_rfl) (by kernel_rfl) (fun _ _ _ h => h) (Or.inl ⟨by rfl, ?_⟩) (by assumption) ?_
  rotate_left
  · intro u hSw
    go_simp
    try (with_reducible rfl)
  try simp only [Act.put, List.setIfInBounds_toArray, List.set_cons_zero, List.set_cons_succ]
  refine wpAnyH_take (i := 1) (oi := ⟨_, _, _, _, _, _⟩) (v := ?_) rfl (by kernel_rfl) (by kernel_rfl) (by kernel_rfl) (fun _ _ _ h => h) (Or.inl ⟨by rfl, ?_⟩) (by assumption) ?_
  rotate_left
  · intro u hSw
    go_simp
    try (with_reducible rfl)
  try simp only [Act.put, List.setIfInBounds_toArray, List.set_cons_zero, List.set_cons_succ]
  refine wpAnyH_take (i := 2) (oi := ⟨_, _, _, _, _, _⟩) (v := ?_) rfl (by kernel_rfl) (by kernel_rfl) (by kernel_rfl) (fun _ _ _ h => h) (Or.inl ⟨by rfl, ?_⟩) (by assumption) ?_
  rotate_left
  · intro u hSw
    go_simp
    try (with_reducible rfl)
  try simp only [Act.put, List.setIfInBounds_toArray, List.set_cons_zero, List.set_cons_succ]
  refine wpAnyH_take (i := 3) (oi := ⟨_, _, _, _, _, _⟩) (v := ?_) rfl (by kernel_rfl) (by kernel_rfl) (by kernel_rfl) (fun _ _ _ h => h) (Or.inl ⟨by rfl, ?_⟩) (by assumption) ?_
  rotate_left
  · intro u hSw
    go_simp
    try (with_reducible rfl)
  try simp only [Act.put, List.setIfInBounds_toArray, List.set_cons_zero, List.set_cons_succ]
  refine wpAnyH_take (i := 4) (oi := ⟨_, _, _, _, _, _⟩) (v := ?_) rfl (by kernel_rfl) (by kernel_rfl) (by kernel_rfl) (fun _ _ _ h => h) (Or.inl ⟨by rfl, ?_⟩) (by assumption) ?_
  rotate_left
  · intro u hSw
    have hc := (hSw.cell (p := ⟨g, 2, none⟩) hlt.1).trans c2
    go_simp
    try (with_reducible rfl)
  try simp only [Act.put, List.setIfInBounds_toArray, List.set_cons_zero, List.set_cons_succ]
  refine wpAnyH_take (i := 5) (oi := ⟨_, _, _, _, _, _⟩) (v := ?_) rfl (by kernel_rfl) (by kernel_rfl) (by kernel_rfl) (fun _ _ _ h => h) (Or.inl ⟨by rfl, ?_⟩) (by assumption) ?_
  rotate_left
  · intro u hSw
    go_simp
    try (with_reducible rfl)
  try simp only [Act.put, List.setIfInBounds_toArray, List.set_cons_zero, List.set_cons_succ]
  refine wpAnyH_take (i := 6) (oi := ⟨_, _, _, _, _, _⟩) (v := ?_) rfl (by kernel_rfl) (by kernel_rfl) (by kernel_rfl) (fun _ _ _ h => h) (Or.inl ⟨by rfl, ?_⟩) (by assumption) ?_
  rotate_left
  · intro u hSw
    go_simp
    try (with_reducible rfl)
  try simp only [Act.put, List.setIfInBounds_toArray, List.set_cons_zero, List.set_cons_succ]
  refine wpAnyH_take (i := 7) (oi := ⟨_, _, _, _, _, _⟩) (v := ?_) rfl (by kernel_rfl) (by kernel_rfl) (by kernel_rfl) (fun _ _ _ h => h) (Or.inl ⟨by rfl, ?_⟩) (by assumption) ?_
  rotate_left
  · intro u hSw
    go_simp
    try (with_reducible rfl)
  try simp only [Act.put, List.setIfInBounds_toArray, List.set_cons_zero, List.set_cons_succ]
  refine wpAnyH_ready (rs := [8]) (by kernel_rfl) (by simp) ?_
  refine AllReadyH.cons (o := ⟨_, _, _, _, _, _⟩) rfl (fun K hK => ?_) AllReadyH.nil
  go_simp
  refine (htp V.drew c2).mono ?_; rintro e u1 ⟨rfl, h⟩; replace h := h.symm; subst h
  go_wp2_with fail
  refine hK.out _ _ ((Below.refl _ _).drew) (fun hHeld => ?_)
  clear hK K
  try simp only [Act.put, List.setIfInBounds_toArray, List.set_cons_zero, List.set_cons_succ]
  refine wpAnyH_take (i := 9) (oi := ⟨_, _, _, _, _, _⟩) (v := ?_) rfl (by kernel_rfl) (by kernel_rfl) (by kernel_rfl) (fun _ _ _ h => h) (Or.inl ⟨by rfl, ?_⟩) (by assumption) ?_
  rotate_left
  · intro u hSw
    go_simp
    try (with_reducible rfl)
  try simp only [Act.put, List.setIfInBounds_toArray, List.set_cons_zero, List.set_cons_succ]
  refine wpAnyH_take (i := 10) (oi := ⟨_, _, _, _, _, _⟩) rfl (by kernel_rfl) (by kernel_rfl) (by kernel_rfl) (fun _ _ _ h => h) (y24 (by rfl) (.tmp 16) rfl (gl) (t * 32) rfl X hX32 (fun u hu => range_below hXV hu hlt.2.2)) (by assumption) ?_
  try simp only [Act.put, List.setIfInBounds_toArray, List.set_cons_zero, List.set_cons_succ]
  refine wpAnyH_ready (rs := [11]) (by kernel_rfl) (by simp) ?_
  refine AllReadyH.cons (o := ⟨_, _, _, _, _, _⟩) rfl (fun K hK => ?_) AllReadyH.nil
  refine step_want rfl (wp_store_row 43 (.tmp 2) (.tmp 17) rfl w.heap.size (h8 X) rfl rfl 43 _ A0.drew (s24h8 hX32) (by rw [h8_size, hX32]; rfl) (h8_one X) ?_)
  refine hK.out _ _ (below_setRow ((Below.refl _ _).drew) (Nat.le_refl _) _) (fun hHeld => ?_)
  clear hK K
  try simp only [Act.put, List.setIfInBounds_toArray, List.set_cons_zero, List.set_cons_succ]
  refine wpAnyH_done (by kernel_rfl) ?_ _
  go_wp2_with fail
  exact bodyPost_ret (v := .agg (h8 X)) (res24 Try.results18 rfl hX32 (A0.drew.setRow _)) rfl ⟨rfl, hb0.trans (below_setRow ((Below.refl _ _).drew) (Nat.le_refl _) _)⟩
end Go.Proofs.Ytndonaebdbbofaa
/- Layer mem: Root; the document's depth, leaves, root, path. -/
namespace Go.Proofs.Ytndonaebdbbofaa
open Go.RowKit
set_option maxRecDepth 100000
set_option linter.unusedVariables false
set_option linter.unusedSimpArgs false


theorem rR_okM {m : Nat} (hm : m ≤ 12) {ls : List (List Int)} (h : ls.length = 2 ^ m) : rE m ls.length = 0 ∧ rR m ls = tr m ls := by
  have e : rE m ls.length = 0 := by unfold rE; rw [if_pos ⟨by omega, by omega⟩, if_pos (by rw [h]; simp)]
  refine ⟨e, ?_⟩
  unfold rR
  rw [if_pos e]; simp
theorem lvs_take {L : List Int} {j n : Nat} (hL : L.length = n) (hj : j < n) : (lvs L).take (j + 1) = (lvs L).take j ++ [lw (L.getD j 0)] := by
  rw [take_snoc (by rw [lvs_len, hL]; exact hj), tat_lvs (by rw [hL]; exact hj)]
set_option maxHeartbeats 2000000 in
theorem rootM_ok (sp : Option Addr) (n cap d : Nat) (L : List Int) (N : Nat) (w : World) (hM : MS N w sp n cap L) (hU : ∀ k, U64 (L.getD k 0)) (hd : d ≤ 12) (hn : Hid (n = 2 ^ d)) :
    Calls Try.prog 21 #[.slice sp n cap] w fun e w' => e = .returned (.tuple #[.agg (h8 (rW L)), .int .i64 0]) ∧ Below w.heap.size w w' := by
  obtain ⟨i0, hi0, hz0, hz1, hz2⟩ := info_parts info24
  have hsz : szB L.length = true := by rw [← hM.len.out, hn.out]; exact pow_szB hd
  have hmb := fun w hM => mayBe_any sp n cap L w.heap.size w hM hU
  rw [hsz] at hmb
  clear hsz
  have hn4 : n ≤ 4096 := by rw [hn.out]; exact pow12 hd
  have hn0 : 0 < n := by rw [hn.out]; exact Nat.pow_pos (by omega)
  have hMh := hM.here
  have hL : Hid (L.length = n) := Hid.mk' hM.len.out.symm
  have hle := hM.le
  obtain ⟨g, off, rfl, -⟩ := hM.at0 hn0
  clear hM
  have hdep := fun w => depthOf_any d n hd hn w
  have hR := rW_pow (L := L) hd (by rw [hL.out, hn.out])
  have hrt := fun (s : Option Addr) (c : Nat) (U : World) (h : HS U.heap.size U s n c (lvs L)) => root_any (d : Int) U.heap.size s n c (lvs L) U h
  have hrr := rR_okM hd (show (lvs L).length = 2 ^ d by rw [lvs_len, hL.out, hn.out])
  rw [hrr.1, hrr.2, ← hR.1] at hrt
  have hRl := rW_len L
  clear hrr hR
  generalize rW L = R at *
  have A0 := Arr.new w 43 (h8 Z32)
  have hb0 := alloc_bel' w (.cells (h8 Z32) 43)
  have hM0 := (hMh.below hb0).mono (show w.heap.size ≤ (w.alloc (.cells (h8 Z32) 43)).heap.size by simp)
  rw [h8_Z] at A0 hb0 hM0
  go_enter Try.func21, Try.ntmps21
  go_upto_region 4 with (first
    | (go_at_call 28; go_must (refine (hmb _ hM0).mono ?_; rintro e w1 ⟨rfl, hb1⟩; have hs1 := hb1.size; simp at hs1; have A1 := A0.below hb1 (by simp); have hB1 := hb0.trans (hb1.mono (by simp))))
    | (at_make; go_must (refine wpList_make_own _ (by rfl) (.const (.int .i64 0)) (.tmp 12) 36 (by rfl) w1.heap.size 43 i0 (.agg (h8 Z32)) 32 Try.underlying36 hi0 hz0 hz1 .i64 .i64 _ n (by rfl) (by rfl) (by omega) (by rw [hz2]; omega) (by unfold maxLen; omega) (Nat.le_refl _) ?_; intro w2 hown2 hg2)))
  have hB2 : Below w1.heap.size w1 w2 := (Below.refl _ _).grown hg2 (Nat.le_refl _) (by simp)
  have hown2' : w2.ownsRow w1.heap.size 43 32 (.slice (some ⟨w1.heap.size, 0, none⟩) 0 n) 0 (flat32 []) := by simpa [flat32] using hown2
  clear hown2 hg2 hmb hM0
  go_wp2_with fail
  go_loopw [4, 16] (fun v q wr => ∃ (j : Nat), q = .int .i64 (j : Int) ∧ j ≤ n ∧ Below w1.heap.size w1 wr ∧ wr.ownsRow w1.heap.size 43 32 v j (flat32 ((lvs L).take j))) (fun _ q _ => n - (intOf q).toNat)
  case atStart => exact ⟨0, rfl, by omega, hB2, by simpa using hown2'⟩
  case round =>
    clear hB2 hown2'
    obtain ⟨j, rfl, hj, hbl, hown⟩ := hrel
    have hbs := hbl.size
    have hbw := hB1.trans (hbl.mono (by omega))
    by_cases hlt : j < n
    · have hI : (j : Int) < n := by omega
      obtain ⟨g', off', e', -, hC⟩ := (hMh.below hbw).at0 hn0
      cases e'
      have hc := hC j hlt
      clear hC
      have hjc : j < cap := by omega
      have htk : Hid ((lvs L).take (j + 1) = (lvs L).take j ++ [lw (L.getD j 0)]) := Hid.mk' (lvs_take hL.out hlt)
      generalize L.getD j 0 = x at *
      have hx32 := lw_len x
      have hlf := fun w => leafOf_any x w
      generalize lw x = X at *
      generalize (lvs L).take j = T at *
      go_wp2_with (first
        | (go_at_call 31; go_must (refine (hlf _).mono ?_; rintro e w3 ⟨rfl, hb3⟩; have hs3 := hb3.size; have own3 := own_same hown (fun k hk => hb3.block k (hown.lt k hk).2)))
        | (refine b43 (by rfl) (.tmp 22) (by rfl) X (by rfl) hx32 ?_)
        | (refine atA (.tmp 20) (.tmp 23) ?_; go_must (refine ag43 (by rfl) (.tmp 20) (.tmp 23) (by rfl) w1.heap.size j _ T X (by rfl) (own3.alloc _) w3.heap.size 1 (by rfl) (Arr.new w3 43 (h8 X)) hx32 (by omega) (by simp; omega) ?_; intro v' w4 hown4 hg4)))
      go_roundw
      case rel => exact ⟨j + 1, by go_num, by omega, grown_below ((hbl.trans (hb3.mono hbs)).alloc (by omega) _) hg4 (fun k hk => (hown.lt k hk).1) (by simp; omega), by rw [htk.out]; exact hown4⟩
      case measure => simp [intOf]; omega
    · obtain rfl : j = n := by omega
      have hI : ¬ (j : Int) < j := by omega
      have htk : Hid ((lvs L).take j = lvs L) := Hid.mk' (List.take_of_length_le (by rw [lvs_len, hL.out]; exact Nat.le_refl _))
      rw [htk.out] at hown
      obtain ⟨s, c, rfl, hH, -⟩ := own_hs hown (lvs_l32 L) (by rw [lvs_len, hL.out]) (by omega)
      have A4 := A1.below hbl A1.lt
      clear htk
      go_wp2_with (first
        | (go_at_call 44; go_must (refine (hdep _).mono ?_; rintro e w5 ⟨rfl, h⟩; replace h := h.symm; subst h))
        | (go_at_call 43; go_must (refine (hrt _ _ _ hH).mono ?_; rintro e w6 ⟨rfl, hb6⟩; have A6 := A4.below hb6 A4.lt))
        | (refine st24 (by rfl) _ _ (by rfl) w.heap.size R Z32 (by rfl) (by rfl) hRl Z32_len A6 ?_))
      exact bodyPost_ret (v := .tuple #[.agg (h8 R), .int .i64 0]) (resP Try.results21 rfl rfl hRl (A6.setRow _)) rfl ⟨rfl, below_setRow (hbw.trans (hb6.mono (by omega))) (Nat.le_refl _) _⟩
set_option maxHeartbeats 1000000 in
theorem rootM_no (sp : Option Addr) (n cap : Nat) (L : List Int) (N : Nat) (w : World) (hM : MS N w sp n cap L) (hU : ∀ k, U64 (L.getD k 0)) (h : szB L.length = false) :
    Calls Try.prog 21 #[.slice sp n cap] w fun e w' => e = .returned (.tuple #[.agg (h8 Z32), .int .i64 2]) ∧ Below w.heap.size w w' := by
  have A0 := Arr.new w 43 (h8 Z32)
  have hb0 := alloc_bel' w (.cells (h8 Z32) 43)
  have hmb := mayBe_any sp n cap L w.heap.size _ (hM.here.below hb0) hU
  rw [h] at hmb
  rw [h8_Z] at A0 hb0 hmb
  clear h hM
  go_enter Try.func21, Try.ntmps21
  go_wp2_with (first
    | (go_at_call 28; go_must (refine hmb.mono ?_; rintro e w1 ⟨rfl, hb1⟩; have A1 := A0.below hb1 (by simp); have hB1 := hb0.trans (hb1.mono (by simp))))
    | (refine st24 (by rfl) _ _ (by rfl) w.heap.size Z32 Z32 (by rfl) (by rfl) Z32_len Z32_len A1 ?_))
  exact bodyPost_ret (v := .tuple #[.agg (h8 Z32), .int .i64 2]) (resP Try.results21 rfl rfl Z32_len (A1.setRow _)) rfl ⟨rfl, below_setRow hB1 (Nat.le_refl _) _⟩
/-- mem.Root, of whatever words. -/
theorem rootM_any (sp : Option Addr) (n cap : Nat) (L : List Int) (N : Nat) (w : World) (hM : MS N w sp n cap L) (hU : ∀ k, U64 (L.getD k 0)) :
    Calls Try.prog 21 #[.slice sp n cap] w fun e w' => e = .returned (.tuple #[.agg (h8 (rW L)), .int .i64 (eW L)]) ∧ Below w.heap.size w w' := by
  cases h : szB L.length with
  | true =>
    obtain ⟨d, hd, e⟩ := szB_pow h
    rw [(rW_pow hd e).2]
    exact rootM_ok sp n cap d L N w hM hU hd (Hid.mk' (by rw [hM.len.out, e]))
  | false =>
    rw [(rW_no h).1, (rW_no h).2]
    exact rootM_no sp n cap L N w hM hU h
set_option maxHeartbeats 1000000 in
/-- The document's depth. -/
theorem refDepth_any (d n : Nat) (hd : d ≤ 12) (hn : Hid (n = 2 ^ d)) (w : World) : Calls Try.prog 38 #[.int .i64 (n : Int)] w fun e w' => e = .returned (.int .i64 d) ∧ w' = w := by
  go_enter Try.func38, Try.ntmps38
  go_wp2_with fail
  go_loopw [3] (fun q wr => ∃ (k : Nat), q = .int .i64 (k : Int) ∧ k ≤ d ∧ wr = w) (fun q _ => d - (intOf q).toNat)
  case atStart => exact ⟨0, rfl, by omega, rfl⟩
  case round =>
    obtain ⟨k, rfl, hk, hw⟩ := hrel
    subst hw
    have hk16 : k ≤ 16 := by omega
    have hwp := wrap_pow hk16
    have hku : (k : Int) % 18446744073709551616 = k := by omega
    have hcmp : Hid (k < d → 2 ^ k < n) := Hid.mk' (fun h => by rw [hn.out]; exact Nat.pow_lt_pow_right (by omega) h)
    have hcmp2 : Hid (¬ k < d → ¬ 2 ^ k < n) := Hid.mk' (fun h => by rw [hn.out, show k = d by omega]; omega)
    obtain ⟨p, hp⟩ : ∃ p : Nat, p = 2 ^ k := ⟨_, rfl⟩
    rw [← hp] at hwp hcmp hcmp2
    replace hp := Hid.mk' hp
    by_cases hlt : k < d
    · have h1 : (p : Int) < n := by have := hcmp.out hlt; omega
      go_wp2_with fail
      go_roundw
      case rel => exact ⟨k + 1, by go_num, by omega, by first | trivial | rfl⟩
      case measure => simp [intOf]; omega
    · have h1 : ¬ (p : Int) < n := by have := hcmp2.out hlt; omega
      obtain rfl : k = d := by omega
      go_wp2_with fail
      go_ret
      exact ⟨rfl, rfl⟩
set_option maxHeartbeats 2000000 in
/-- The document's leaves. -/
theorem refLeaves_anyM (sp : Option Addr) (n cap : Nat) (L : List Int) (N : Nat) (w : World) (hM : MS N w sp n cap L) (hn4 : n ≤ 4096) :
    Calls Try.prog 39 #[.slice sp n cap] w fun e w' => ∃ s c, e = .returned (.slice s n c) ∧ HS w'.heap.size w' s n c (lvs L) ∧ Below w.heap.size w w' := by
  have hMh := hM.here
  have hL : Hid (L.length = n) := Hid.mk' hM.len.out.symm
  have hle := hM.le
  clear hM
  go_enter Try.func39, Try.ntmps39
  go_wp2_with fail
  go_loopw [3, 4] (fun v q wr => ∃ (j : Nat), q = .int .i64 (j : Int) ∧ j ≤ n ∧ Below w.heap.size w wr ∧ wr.ownsRow w.heap.size 43 32 v j (flat32 ((lvs L).take j))) (fun _ q _ => n - (intOf q).toNat)
  case atStart => exact ⟨0, rfl, by omega, Below.refl _ _, by simpa [flat32] using World.ownsRow_nil w w.heap.size 43 32⟩
  case round =>
    obtain ⟨j, rfl, hj, hbl, hown⟩ := hrel
    have hbs := hbl.size
    by_cases hlt : j < n
    · have hI : (j : Int) < n := by omega
      obtain ⟨g', off', rfl, -, hC⟩ := (hMh.below hbl).at0 (by omega)
      have hc := hC j hlt
      clear hC
      have hjc : j < cap := by omega
      have htk : Hid ((lvs L).take (j + 1) = (lvs L).take j ++ [lw (L.getD j 0)]) := Hid.mk' (lvs_take hL.out hlt)
      generalize L.getD j 0 = x at *
      have hx32 := lw_len x
      have hlf := fun w => refLeafW_any x w
      generalize lw x = X at *
      generalize (lvs L).take j = T at *
      go_wp2_with (first
        | (go_at_call 48; go_must (refine (hlf _).mono ?_; rintro e w3 ⟨rfl, hb3⟩; have hs3 := hb3.size; have own3 := own_same hown (fun k hk => hb3.block k (hown.lt k hk).2)))
        | (refine b43 (by rfl) (.tmp 16) (by rfl) X (by rfl) hx32 ?_)
        | (refine atA (.tmp 11) (.tmp 17) ?_; go_must (refine ag43 (by rfl) (.tmp 11) (.tmp 17) (by rfl) w.heap.size j _ T X (by rfl) (own3.alloc _) w3.heap.size 1 (by rfl) (Arr.new w3 43 (h8 X)) hx32 (by omega) (by simp; omega) ?_; intro v' w4 hown4 hg4)))
      go_roundw
      case rel => exact ⟨j + 1, by go_num, by omega, grown_below ((hbl.trans (hb3.mono hbs)).alloc (by omega) _) hg4 (fun k hk => (hown.lt k hk).1) (by simp; omega), by rw [htk.out]; exact hown4⟩
      case measure => simp [intOf]; omega
    · obtain rfl : j = n := by omega
      have hI : ¬ (j : Int) < j := by omega
      rw [List.take_of_length_le (by rw [lvs_len, hL.out]; exact Nat.le_refl _)] at hown
      obtain ⟨s, c, rfl, hH, -⟩ := own_hs hown (lvs_l32 L) (by rw [lvs_len, hL.out]) (by omega)
      go_wp2_with fail
      go_ret
      exact ⟨s, c, rfl, hH, hbl⟩
end Go.Proofs.Ytndonaebdbbofaa
/- Layer mem: what the layers below give. -/
namespace Go.Proofs.Ytndonaebdbbofaa
open Go.RowKit
set_option maxRecDepth 100000
set_option linter.unusedVariables false
set_option linter.unusedSimpArgs false

/-- A sum out of memory, guarded or not. -/
theorem ld24g {ops : Array Oper} {rest : List Oper} {o : Oper} {a : Act} {w : World} {Q : Exit → Act → World → Prop} (hgd : Region.wanted o (yielded ops a.tmps) = true) (x : Operand) (ho : o.op = .load 43 x)
    (b off : Nat) (hx : a.eval x = .pointer (some ⟨b, off, none⟩)) (X : List Int) (hX : X.length = 32) (hc : w.rangeAt b off (by8 X))
    (h : wpList Try.prog ops Q rest (a.put o.dst (.agg (h8 X))) w) : wpList Try.prog ops Q (o :: rest) a w :=
  wpList_want hgd fun _ hK => wp_load_mid 43 x ho b off hx (by8 X) _ hc Try.underlying43 rfl (by rw [by8_len, hX]; exact size24) (hK _ _ h)
/-- Whether a leaf checks. -/
def ckB (R : List Int) (i : Int) (X : List Int) (ls : List (List Int)) : Bool := decide (FoOK i ls.length ∧ fo i.toNat X ls = R)
set_option maxRecDepth 100000 in
set_option maxHeartbeats 1000000 in
theorem check_any (R : List Int) (i : Int) (X : List Int) (N : Nat) (sp : Option Addr) (n cap : Nat) (ls : List (List Int)) (w : World) (hR : R.length = 32) (hX : X.length = 32) (hS : HS N w sp n cap ls) :
    Calls Try.prog 46 #[.agg (h8 R), .int .i64 i, .agg (h8 X), .slice sp n cap] w fun e w' => e = .returned (.bool (ckB R i X ls)) ∧ Below w.heap.size w w' := by
  have hb2 : Below w.heap.size w ((w.alloc (.cells (h8 R) 43)).alloc (.cells (h8 X) 43)) := (alloc_bel' w _).alloc (by simp) _
  have A0 := (Arr.new w 43 (h8 R)).alloc (.cells (h8 X) 43)
  have A1 := Arr.new (w.alloc (.cells (h8 R) 43)) 43 (h8 X)
  rw [World.size_alloc] at A1
  have hS2 := hS.here.below hb2
  have hF := fun w hS => fold_any i X w.heap.size sp n cap ls w hX hS
  unfold foR foE at hF
  unfold ckB
  by_cases h : FoOK i ls.length
  · rw [if_pos h, if_pos h] at hF
    have hfl := fo_len (i := i.toNat) (ps := ls) hX
    have E := run_eq24 hfl hR
    rw [show decide (FoOK i ls.length ∧ fo i.toNat X ls = R) = decide (fo i.toNat X ls = R) from decide_eq_decide.2 ⟨fun q => q.2, fun q => ⟨h, q⟩⟩]
    generalize fo i.toNat X ls = Y at *
    clear h
    generalize decide (Y = R) = b at *
    go_enter Try.func46, Try.ntmps46
    go_wp2_with (first
      | (refine ld24g (by rfl) _ (by rfl) (w.heap.size + 1) 0 (by rfl) X hX A1.range ?_)
      | (go_at_call 66; go_must (refine (hF _ (hS2.mono (by simp <;> omega))).mono ?_; rintro e w2 ⟨rfl, hb3⟩; have hs3 := hb3.size; simp at hs3; have B0 := (A0.below hb3 (by simp <;> omega)).alloc (.cells (h8 Y) 43); have B1 := Arr.new w2 43 (h8 Y)))
      | (refine st24n (by rfl) _ _ (by rfl) w2 w2.heap.size rfl (by rfl) Y (by rfl) (by rfl) hfl ?_)
      | (refine ld24g (by rfl) _ (by rfl) w2.heap.size 0 (by rfl) Y hfl B1.range ?_)
      | (refine ld24g (by rfl) _ (by rfl) w.heap.size 0 (by rfl) R hR B0.range ?_))
    go_ret
    exact ⟨rfl, (hb2.trans (hb3.mono (by simp <;> omega))).alloc (by omega) _⟩
  · rw [if_neg h, if_neg h] at hF
    rw [decide_eq_false (fun hh => h hh.1)]
    clear h
    go_enter Try.func46, Try.ntmps46
    go_wp2_with (first
      | (refine ld24g (by rfl) _ (by rfl) (w.heap.size + 1) 0 (by rfl) X hX A1.range ?_)
      | (go_at_call 66; go_must (refine (hF _ (hS2.mono (by simp <;> omega))).mono ?_; rintro e w2 ⟨rfl, hb3⟩; have hs3 := hb3.size; simp at hs3; have B1 := Arr.new w2 43 (h8 Z32)))
      | (refine st24n (by rfl) _ _ (by rfl) w2 w2.heap.size rfl (by rfl) Z32 (by rfl) (by rfl) Z32_len ?_))
    go_ret
    exact ⟨rfl, (hb2.trans (hb3.mono (by simp <;> omega))).alloc (by omega) _⟩
end Go.Proofs.Ytndonaebdbbofaa
/- Layer mem: what the layers below give. -/
namespace Go.Proofs.Ytndonaebdbbofaa
open Go.RowKit
set_option maxRecDepth 100000
set_option linter.unusedVariables false
set_option linter.unusedSimpArgs false

set_option maxRecDepth 100000 in
set_option maxHeartbeats 1000000 in
theorem refCheck_anyM (R : List Int) (i : Int) (X : List Int) (N : Nat) (sp : Option Addr) (n cap : Nat) (ls : List (List Int)) (w : World) (hR : R.length = 32) (hX : X.length = 32) (hS : HS N w sp n cap ls) :
    Calls Try.prog 47 #[.agg (h8 R), .int .i64 i, .agg (h8 X), .slice sp n cap] w fun e w' => e = .returned (.bool (ckB R i X ls)) ∧ Below w.heap.size w w' := by
  have hb2 : Below w.heap.size w ((w.alloc (.cells (h8 R) 43)).alloc (.cells (h8 X) 43)) := (alloc_bel' w _).alloc (by simp) _
  have A0 := (Arr.new w 43 (h8 R)).alloc (.cells (h8 X) 43)
  have A1 := Arr.new (w.alloc (.cells (h8 R) 43)) 43 (h8 X)
  rw [World.size_alloc] at A1
  have hS2 := hS.here.below hb2
  have hF := fun w hS => refFold_any i X w.heap.size sp n cap ls w hX hS
  unfold foR foE at hF
  unfold ckB
  by_cases h : FoOK i ls.length
  · rw [if_pos h, if_pos h] at hF
    have hfl := fo_len (i := i.toNat) (ps := ls) hX
    have E := run_eq24 hfl hR
    rw [show decide (FoOK i ls.length ∧ fo i.toNat X ls = R) = decide (fo i.toNat X ls = R) from decide_eq_decide.2 ⟨fun q => q.2, fun q => ⟨h, q⟩⟩]
    generalize fo i.toNat X ls = Y at *
    clear h
    generalize decide (Y = R) = b at *
    go_enter Try.func47, Try.ntmps47
    go_wp2_with (first
      | (refine ld24g (by rfl) _ (by rfl) (w.heap.size + 1) 0 (by rfl) X hX A1.range ?_)
      | (go_at_call 67; go_must (refine (hF _ (hS2.mono (by simp <;> omega))).mono ?_; rintro e w2 ⟨rfl, hb3⟩; have hs3 := hb3.size; simp at hs3; have B0 := (A0.below hb3 (by simp <;> omega)).alloc (.cells (h8 Y) 43); have B1 := Arr.new w2 43 (h8 Y)))
      | (refine st24n (by rfl) _ _ (by rfl) w2 w2.heap.size rfl (by rfl) Y (by rfl) (by rfl) hfl ?_)
      | (refine ld24g (by rfl) _ (by rfl) w2.heap.size 0 (by rfl) Y hfl B1.range ?_)
      | (refine ld24g (by rfl) _ (by rfl) w.heap.size 0 (by rfl) R hR B0.range ?_))
    go_ret
    exact ⟨rfl, (hb2.trans (hb3.mono (by simp <;> omega))).alloc (by omega) _⟩
  · rw [if_neg h, if_neg h] at hF
    rw [decide_eq_false (fun hh => h hh.1)]
    clear h
    go_enter Try.func47, Try.ntmps47
    go_wp2_with (first
      | (refine ld24g (by rfl) _ (by rfl) (w.heap.size + 1) 0 (by rfl) X hX A1.range ?_)
      | (go_at_call 67; go_must (refine (hF _ (hS2.mono (by simp <;> omega))).mono ?_; rintro e w2 ⟨rfl, hb3⟩; have hs3 := hb3.size; simp at hs3; have B1 := Arr.new w2 43 (h8 Z32)))
      | (refine st24n (by rfl) _ _ (by rfl) w2 w2.heap.size rfl (by rfl) Z32 (by rfl) (by rfl) Z32_len ?_))
    go_ret
    exact ⟨rfl, (hb2.trans (hb3.mono (by simp <;> omega))).alloc (by omega) _⟩
end Go.Proofs.Ytndonaebdbbofaa
/- Layer mem: the document's root and path; Check. -/
namespace Go.Proofs.Ytndonaebdbbofaa
open Go.RowKit
set_option maxRecDepth 100000
set_option linter.unusedVariables false
set_option linter.unusedSimpArgs false


set_option maxHeartbeats 1000000 in
theorem refRootM_any (sp : Option Addr) (n cap : Nat) (L : List Int) (N : Nat) (w : World) (hM : MS N w sp n cap L) :
    Calls Try.prog 17 #[.slice sp n cap] w fun e w' => e = .returned (.tuple #[.agg (h8 (rW L)), .int .i64 (eW L)]) ∧ Below w.heap.size w w' := by
  have hsm := hM.small
  have hsz := fun w => refSize_any (n : Int) w (by omega)
  rw [szI_nat, hM.len.out] at hsz
  have A0 := Arr.new w 43 (h8 Z32)
  have hb0 := alloc_bel' w (.cells (h8 Z32) 43)
  rw [← hM.len.out] at hsz
  have hM0 := hM.here.below hb0
  rw [h8_Z] at A0 hb0 hM0
  have hl := hM.len.out
  cases h : szB L.length with
  | true =>
    rw [← hl] at h
    rw [h] at hsz
    obtain ⟨d, hd, e⟩ := szB_pow h
    have hn4 : n ≤ 4096 := by rw [e]; exact pow12 hd
    have hR := rW_pow (L := L) hd (by rw [← hl, e])
    have hrr := rR_okM hd (show (lvs L).length = 2 ^ d by rw [lvs_len, ← hl, e])
    have hrt := fun (s : Option Addr) (c : Nat) (U : World) (h : HS U.heap.size U s n c (lvs L)) => refRoot_any (d : Int) U.heap.size s n c (lvs L) U h
    rw [hrr.1, hrr.2, ← hR.1] at hrt
    rw [hR.2]
    have hRl := rW_len L
    have hdep := fun w => refDepth_any d n hd (Hid.mk' e) w
    have hlv := refLeaves_anyM sp n cap L w.heap.size _ hM0 hn4
    clear hrr hR h e hl hM
    generalize rW L = R at *
    go_enter Try.func17, Try.ntmps17
    go_wp2_with (first
      | (go_at_call 10; go_must (refine (hsz _).mono ?_; rintro e w1 ⟨rfl, h⟩; replace h := h.symm; subst h))
      | (go_at_call 38; go_must (refine (hdep _).mono ?_; rintro e w1 ⟨rfl, h⟩; replace h := h.symm; subst h))
      | (go_at_call 39; go_must (refine hlv.mono ?_; rintro e w2 ⟨s2, c2, rfl, hH2, hb2⟩; have A2 := A0.below hb2 (by simp); have hB2 := hb0.trans (hb2.mono (by simp))))
      | (go_at_call 40; go_must (refine (hrt _ _ _ hH2).mono ?_; rintro e w3 ⟨rfl, hb3⟩; have A3 := A2.below hb3 A2.lt; have hB3 := hB2.trans (hb3.mono (by have := A2.lt; omega)); have A4 := A3.alloc (.cells (h8 R) 43); have A5 := Arr.new w3 43 (h8 R)))
      | (refine st24n (by rfl) _ _ (by rfl) w3 w3.heap.size rfl (by rfl) R (by rfl) (by rfl) hRl ?_)
      | (refine ld24 (by rfl) _ (by rfl) w3.heap.size 0 (by rfl) R hRl A5.range ?_)
      | (refine st24 (by rfl) _ _ (by rfl) w.heap.size R Z32 (by rfl) (by rfl) hRl Z32_len A4 ?_))
    exact bodyPost_ret (v := .tuple #[.agg (h8 R), .int .i64 0]) (resP Try.results17 rfl rfl hRl (A4.setRow _)) rfl ⟨rfl, below_setRow (hB3.alloc (by have := A3.lt; omega) _) (Nat.le_refl _) _⟩
  | false =>
    rw [(rW_no h).1, (rW_no h).2]
    rw [← hl] at h
    rw [h] at hsz
    clear h hl hM hM0
    go_enter Try.func17, Try.ntmps17
    go_wp2_with (first
      | (go_at_call 10; go_must (refine (hsz _).mono ?_; rintro e w1 ⟨rfl, h⟩; replace h := h.symm; subst h))
      | (refine st24 (by rfl) _ _ (by rfl) w.heap.size Z32 Z32 (by rfl) (by rfl) Z32_len Z32_len A0 ?_))
    exact bodyPost_ret (v := .tuple #[.agg (h8 Z32), .int .i64 2]) (resP Try.results17 rfl rfl Z32_len (A0.setRow _)) rfl ⟨rfl, below_setRow hb0 (Nat.le_refl _) _⟩
theorem pE_ok {d i : Nat} (hd : d ≤ 12) (hi : i < 2 ^ d) : pE d i (2 ^ d) = 0 := by
  unfold pE
  rw [if_pos ⟨⟨by omega, by omega⟩, by omega, by rw [Int.toNat_natCast]; exact_mod_cast hi⟩, if_pos (by simp)]
set_option maxHeartbeats 1000000 in
theorem refProve_any (sp : Option Addr) (n cap d : Nat) (L : List Int) (N : Nat) (x : Int) (hx : U64 x) (w : World) (hM : MS N w sp n cap L) (hd : d ≤ 12) (hn : Hid (n = 2 ^ d)) :
    Calls Try.prog 15 #[.slice sp n cap, .int .u64 x] w (PvPost d L x w) := by
  have hx0 := hx.1
  have hn4 : n ≤ 4096 := by rw [hn.out]; exact pow12 hd
  have hL : L.length = n := hM.len.out.symm
  have hnn : (n : Int) % 18446744073709551616 = n := by omega
  by_cases h : x < n
  · have h' : ¬ (n : Int) ≤ x := by omega
    have e3 : Hid (aE x L.length = 0) := Hid.mk' (by rw [hL]; exact if_pos h)
    obtain ⟨k, rfl⟩ : ∃ k : Nat, x = k := ⟨x.toNat, by omega⟩
    have hk : k < n := by omega
    have hpe := pE_ok (d := d) (i := k) hd (by rw [← hn.out]; exact hk)
    have e2 : Hid (pF d k (lvs L) = pv d L k) := Hid.mk' (by unfold pF pv; rw [lvs_len, hL, hn.out, hpe, if_pos rfl, if_pos (by rw [← hn.out]; exact h)]; simp)
    have e4 : Hid (pE d k (lvs L).length = 0) := Hid.mk' (by rw [lvs_len, hL, hn.out, hpe])
    have hprf := fun (s : Option Addr) (c : Nat) (U : World) (h : HS U.heap.size U s n c (lvs L)) => refProof_any (d : Int) (k : Int) U.heap.size s n c (lvs L) U h
    have hdep := fun w => refDepth_any d n hd hn w
    have hlv := refLeaves_anyM sp n cap L N w hM hn4
    have hkI : IntKind.i64.wrap (k : Int) = k := by rw [IntKind.wrap_i64]; omega
    clear hpe hM hL
    go_enter Try.func15, Try.ntmps15
    go_wp2_with (first
      | (go_at_call 38; go_must (refine (hdep _).mono ?_; rintro e w1 ⟨rfl, h⟩; replace h := h.symm; subst h))
      | (go_at_call 39; go_must (refine hlv.mono ?_; rintro e w2 ⟨s2, c2, rfl, hH2, hb2⟩))
      | (go_at_call 37; go_must (refine (hprf _ _ _ hH2).mono ?_; rintro e w3 ⟨s3, c3, rfl, hH3, hown3, hb3⟩)))
    rw [e2.out] at hH3 hown3 ⊢
    have hP : PvPost d L k w (.returned (.tuple #[.slice s3 (pv d L k).length c3, .int .i64 (aE k L.length)])) w3 := ⟨s3, _, c3, rfl, rfl, hH3, by
      refine ⟨hown3.1, ?_⟩
      rcases hown3.2 with h | ⟨g, cap, cur, e, hg, r⟩
      · exact .inl h
      · exact .inr ⟨g, cap, cur, e, by have := hb2.size; omega, r⟩, hb2.trans (hb3.mono hb2.size)⟩
    rw [e3.out] at hP
    go_ret2
    exact hP
  · have h' : (n : Int) ≤ x := by omega
    have e1 : aE x n = 2 := if_neg h
    have e2 : pv d L x = [] := by unfold pv; rw [if_neg (by rw [hL]; exact h)]
    have hP := pvPost_of (v := .slice none 0 0) (d := d) (L := L) (x := x) (w := w) (w' := w) hd (by rw [e2]; exact World.ownsRow_nil _ _ _ _) (Below.refl _ _)
    rw [hL, e1] at hP
    clear hM hL e1 e2
    go_enter Try.func15, Try.ntmps15
    go_wp2_with fail
    go_ret2
    exact hP
/-- Whether a word checks. -/
def ckW (R : List Int) (x y : Int) (ls : List (List Int)) : Bool := decide (ls.length ≤ 12 ∧ x < (2 ^ ls.length : Nat) ∧ fo x.toNat (lw y) ls = R)
theorem ckW_ck {R : List Int} {x y : Int} {ls : List (List Int)} {n : Nat} (hn : n = ls.length) (h0 : 0 ≤ x) (h1 : n ≤ 12) (h2 : x < (2 ^ n : Nat)) : ckB R x (lw y) ls = ckW R x y ls := by
  subst hn
  unfold ckB ckW FoOK
  rw [decide_eq_decide]
  exact ⟨fun ⟨_, h⟩ => ⟨h1, h2, h⟩, fun ⟨_, _, h⟩ => ⟨⟨by omega, h0, h2⟩, h⟩⟩
theorem ckW_no {R : List Int} {x y : Int} {ls : List (List Int)} {n : Nat} (hn : n = ls.length) (h : ¬ (n ≤ 12 ∧ x < (2 ^ n : Nat))) : ckW R x y ls = false := by
  subst hn
  unfold ckW
  exact decide_eq_false (fun hh => h ⟨hh.1, hh.2.1⟩)
theorem pow12I {n : Nat} (h : n ≤ 12) : ((2 : Int) ^ n) % 18446744073709551616 = ((2 ^ n : Nat) : Int) := by
  have := pow12 h
  rw [powc]
  generalize 2 ^ n = p at *
  omega
end Go.Proofs.Ytndonaebdbbofaa
