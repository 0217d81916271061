/- Layer interp: outcomes held against each other. -/
import Derived.Test.YtmljihggooaboaaIc
import Derived.Handy
import Derived.BigQuiet
import Derived.BigRegion
namespace Go.Proofs.Ytmljihggooaboaa
open Go.RowKit
set_option maxRecDepth 100000
set_option linter.unusedVariables false
set_option linter.unusedSimpArgs false

/-- Words somewhere. -/
structure DS (w : World) (sp : Option Addr) (n : Nat) (L : List Int) : Prop where
  len : Hid (n = L.length)
  few : n ≤ 1024
  at0 : 0 < n → ∃ g, sp = some ⟨g, 0, none⟩ ∧ g < w.heap.size ∧ ∀ (i : Nat) (x : Int), L[i]? = some x → w.cell? ⟨g, i, none⟩ = some (.int .u64 x)
theorem DS.bl {w w' : World} {sp : Option Addr} {n : Nat} {L : List Int} (h : DS w sp n L) (hb : Below w.heap.size w w') : DS w' sp n L :=
  ⟨h.len, h.few, fun h0 => let ⟨g, e, hg, hc⟩ := h.at0 h0; ⟨g, e, by have := hb.size; omega, fun i x hx => (hb.cell (p := ⟨g, i, none⟩) hg).trans (hc i x hx)⟩⟩
def ouA (s v : Int) (sp : Option Addr) (n cap : Nat) (k : Int) : Array Value := #[.int .u8 s, .int .u64 v, .slice sp n cap, .int .i64 k]
set_option maxHeartbeats 1000000 in
theorem same_any {s1 v1 k1 s2 v2 k2 : Int} {sp sq : Option Addr} {n m c1 c2 : Nat} {L M : List Int} (w : World) (h1 : DS w sp n L) (h2 : DS w sq m M) :
    Calls Try.prog 9 #[.agg (ouA s1 v1 sp n c1 k1), .agg (ouA s2 v2 sq m c2 k2)] w (BoP (decide (s1 = s2 ∧ v1 = v2 ∧ k1 = k2 ∧ L = M)) w) := by
  have b0 : Below w.heap.size w ((w.alloc (.cells (ouA s1 v1 sp n c1 k1) 32)).alloc (.cells (ouA s2 v2 sq m c2 k2) 32)) := (ab w _).alloc (by simp) _
  have hl1 := h1.len
  have hl2 := h2.len
  by_cases e1 : s1 = s2
  rotate_left
  · rw [decide_eq_false (fun h => e1 h.1)]
    have g1 : (s1 != s2) = true := by simpa using e1
    clear h1 h2 hl1 hl2 e1
    unfold ouA at *
    go_enter Try.func9, Try.ntmps9
    go_wp2_with fail
    go_ret
    exact ⟨rfl, b0⟩
  by_cases e2 : v1 = v2
  rotate_left
  · rw [decide_eq_false (fun h => e2 h.2.1)]
    have g2 : (v1 != v2) = true := by simpa using e2
    subst e1
    clear h1 h2 hl1 hl2 e2
    unfold ouA at *
    go_enter Try.func9, Try.ntmps9
    go_wp2_with fail
    go_ret
    exact ⟨rfl, b0⟩
  by_cases e3 : k1 = k2
  rotate_left
  · rw [decide_eq_false (fun h => e3 h.2.2.1)]
    have g3 : (k1 != k2) = true := by simpa using e3
    subst e1 e2
    clear h1 h2 hl1 hl2 e3
    unfold ouA at *
    go_enter Try.func9, Try.ntmps9
    go_wp2_with fail
    go_ret
    exact ⟨rfl, b0⟩
  by_cases e4 : n = m
  rotate_left
  · rw [decide_eq_false (fun h => e4 (by rw [hl1.out, hl2.out, h.2.2.2]))]
    have g4 : ((n : Int) != (m : Int)) = true := by simp; omega
    subst e1 e2 e3
    clear h1 h2 hl1 hl2 e4
    unfold ouA at *
    go_enter Try.func9, Try.ntmps9
    go_wp2_with fail
    go_ret
    exact ⟨rfl, b0⟩
  subst e1 e2 e3 e4
  obtain ⟨r, hr⟩ : ∃ r, r = decide (s1 = s1 ∧ v1 = v1 ∧ k1 = k1 ∧ L = M) := ⟨_, rfl⟩
  rw [← hr]
  replace hr : Hid (r = decide (L = M)) := hid (by rw [hr]; simp)
  have A1 := (Arr.new w 32 (ouA s1 v1 sp n c1 k1)).alloc (.cells (ouA s1 v1 sq n c2 k1) 32)
  have A2 := Arr.new (w.alloc (.cells (ouA s1 v1 sp n c1 k1) 32)) 32 (ouA s1 v1 sq n c2 k1)
  simp only [World.size_alloc] at A2
  have h1' := h1.bl b0
  have h2' := h2.bl b0
  have hn10 := h1.few
  have q1 := A1.cell 2
  have q2 := A2.cell 2
  unfold ouA at *
  go_enter Try.func9, Try.ntmps9
  go_upto_region 4 with fail
  generalize hU : (w.alloc (.cells #[.int .u8 s1, .int .u64 v1, .slice sp n c1, .int .i64 k1] 32)).alloc (.cells #[.int .u8 s1, .int .u64 v1, .slice sq n c2, .int .i64 k1] 32) = U at *
  go_loopw [5] (fun i wr => ∃ (j : Nat), i = .int .i64 (j : Int) ∧ j ≤ n ∧ Hid (∀ p, wr.cell? p = U.cell? p) ∧ Below w.heap.size w wr ∧ Hid (L.take j = M.take j))
    (fun i _ => n - (intOf i).toNat)
  case atStart => exact ⟨0, rfl, by omega, hid (fun _ => rfl), b0, hid (by simp)⟩
  case round =>
    obtain ⟨j, rfl, hj, hcl, b0', hf⟩ := hrel
    by_cases hlt : j < n
    · obtain ⟨g1, rfl, hg1, hc1⟩ := h1'.at0 (by omega)
      obtain ⟨g2, rfl, hg2, hc2⟩ := h2'.at0 (by omega)
      obtain ⟨x, hx⟩ : ∃ x, L[j]? = some x := ⟨L[j]'(by rw [← hl1.out]; exact hlt), List.getElem?_eq_getElem _⟩
      obtain ⟨y, hy⟩ : ∃ y, M[j]? = some y := ⟨M[j]'(by rw [← hl2.out]; exact hlt), List.getElem?_eq_getElem _⟩
      have d1 : wr.cell? ⟨g1, j, none⟩ = some (.int .u64 x) := (hcl.out _).trans (hc1 j x hx)
      have d2 : wr.cell? ⟨g2, j, none⟩ = some (.int .u64 y) := (hcl.out _).trans (hc2 j y hy)
      have d3 : wr.cell? ⟨w.heap.size, 2, none⟩ = some (.slice (some ⟨g1, 0, none⟩) n c1) := (hcl.out _).trans q1
      have d4 : wr.cell? ⟨w.heap.size + 1, 2, none⟩ = some (.slice (some ⟨g2, 0, none⟩) n c2) := (hcl.out _).trans q2
      have hlt' : (j : Int) < n := by omega
      have h0 : (0 : Int) ≤ j := by omega
      by_cases hxy : x = y
      · subst hxy
        have hf2 : Hid (L.take (j + 1) = M.take (j + 1)) := hid (by rw [List.take_add_one, List.take_add_one, hf.out, hx, hy])
        clear hx hy hc1 hc2 h1 h2 h1' h2' hl1 hl2 A1 A2 q1 q2
        go_upto_region 6 with fail
        go_quiet (fail)
        go_wp2_with fail
        go_roundw
        case rel => exact ⟨j + 1, by go_num, by omega, hid (fun p => hcl.out p), dwN b0' _, hf2⟩
        case measure => simp [intOf]; omega
      · have hrn : Hid (r = false) := hid (by
          rw [hr.out]
          refine decide_eq_false (fun e => hxy ?_)
          rw [e, hy] at hx
          exact (Option.some.inj hx).symm)
        have hxy' : (x != y) = true := by simpa using hxy
        clear hx hy hc1 hc2 h1 h2 h1' h2' hl1 hl2 A1 A2 q1 q2 hxy
        go_upto_region 6 with fail
        go_quiet (fail)
        go_wp2_with fail
        go_ret
        rw [hrn.out]
        exact ⟨rfl, dwN b0' _⟩
    · obtain rfl : j = n := by omega
      have hrn : Hid (r = true) := hid (by
        rw [hr.out]
        refine decide_eq_true ?_
        have h3 := hf.out
        rw [List.take_of_length_le (by rw [← hl1.out]; omega), List.take_of_length_le (by rw [← hl2.out]; omega)] at h3
        exact h3)
      have d3 : wr.cell? ⟨w.heap.size, 2, none⟩ = some (.slice sp j c1) := (hcl.out _).trans q1
      clear h1 h2 h1' h2' hl1 hl2 A1 A2
      go_wp2_with fail
      go_ret
      rw [hrn.out]
      exact ⟨rfl, b0'⟩
end Go.Proofs.Ytmljihggooaboaa
