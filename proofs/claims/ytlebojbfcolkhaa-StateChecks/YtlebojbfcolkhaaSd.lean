/- Layer state, the document's answer: Check, CheckOut: where they say no; whatever they are given. -/
import Derived.Test.YtlebojbfcolkhaaSc
namespace Go.Proofs.Ytlebojbfcolkhaa
open Go.RowKit
set_option maxRecDepth 100000
set_option linter.unusedVariables false
set_option linter.unusedSimpArgs false

set_option maxHeartbeats 2000000 in
theorem refCheck_no (R : List Int) (i : Int) (a : Ac) (N : Nat) (sp : Option Addr) (n cap : Nat) (ls : List (List Int)) (o : List Int) (c : Int) (w : World) (hW : WT N w sp n cap ls o c) (hi : i ≤ 9223372036854775807) (h : ¬ (n = 5 ∧ c ≤ 32)) :
    Calls Try.prog 24 #[.agg (h8 R), .int .i64 i, .agg a.arr, .agg (wtA sp n cap o c)] w fun e w' => e = .returned (.bool false) ∧ Below w.heap.size w w' := by
  have V0 := Arr.new3 w (.cells (h8 R) 24) (.cells a.arr 26) 44 (wtA sp n cap o c)
  have B0 := ((alloc_bel' w (.cells (h8 R) 24)).alloc (by simp) (.cells a.arr 26)).alloc (by simp; omega) (.cells (wtA sp n cap o c) 44)
  have k0 := wt_c0 V0.wt
  have k1 := wt_c' V0.wt hW.o32
  by_cases h5 : n = 5
  · by_cases h32 : c ≤ 32
    · exact absurd ⟨h5, h32⟩ h
    · have h5' : ((n : Int) != 5) = false := by simp; omega
      have h5'' : (n : Int) = 5 := by omega
      have h32' : c > 32 := by omega
      clear h
      replace h5 := Hid.mk' h5
      go_enter Try.func24, Try.ntmps24
      go_wp2_with fail
      go_ret
      exact ⟨rfl, B0⟩
  · have h5' : ((n : Int) != 5) = true := by simp; omega
    have h5'' : ¬ (n : Int) = 5 := by omega
    clear h
    replace h5 := Hid.mk' h5
    go_enter Try.func24, Try.ntmps24
    go_wp2_with fail
    go_ret
    exact ⟨rfl, B0⟩
theorem refCheck_any (R : List Int) (i : Int) (a : Ac) (N : Nat) (sp : Option Addr) (n cap : Nat) (ls : List (List Int)) (o : List Int) (c : Int) (w : World) (hR : R.length = 32) (ha : AcOK a) (hW : WT N w sp n cap ls o c) (hi : i ≤ 9223372036854775807) :
    Calls Try.prog 24 #[.agg (h8 R), .int .i64 i, .agg a.arr, .agg (wtA sp n cap o c)] w fun e w' => e = .returned (.bool (ckA R i a ls o c)) ∧ Below w.heap.size w w' := by
  by_cases h : n = 5 ∧ c ≤ 32 ∧ 0 ≤ i ∧ i < 32
  · exact refCheck_ok R i a N sp n cap ls o c w hR ha hW h.1 h.2.1 h.2.2.1 h.2.2.2
  · have e : ckA R i a ls o c = false := by
      unfold ckA
      rw [decide_eq_false]
      rintro ⟨⟨h1, h2, h3, h4⟩, -⟩
      exact h ⟨by rw [hW.path.len.out]; exact h1, h2, h3, h4⟩
    rw [e]
    by_cases h5 : n = 5 ∧ c ≤ 32
    · exact refCheck_far R i a N sp n cap ls o c w hR ha hW h5.1 h5.2 (fun hb => h ⟨h5.1, h5.2, hb.1, hb.2⟩)
    · exact refCheck_no R i a N sp n cap ls o c w hW hi h5
set_option maxHeartbeats 2000000 in
theorem refCheckOut_no (R : List Int) (i : Int) (a : Ou) (N : Nat) (sp : Option Addr) (n cap : Nat) (ls : List (List Int)) (o : List Int) (c : Int) (w : World) (hW : WT N w sp n cap ls o c) (hi : i ≤ 9223372036854775807) (h : ¬ (n = 5 ∧ c ≤ 32 ∧ 0 ≤ i ∧ i < c)) :
    Calls Try.prog 26 #[.agg (h8 R), .int .i64 i, .agg a.arr, .agg (wtA sp n cap o c)] w fun e w' => e = .returned (.bool false) ∧ Below w.heap.size w w' := by
  have V0 := Arr.new3 w (.cells (h8 R) 24) (.cells a.arr 53) 44 (wtA sp n cap o c)
  have B0 := ((alloc_bel' w (.cells (h8 R) 24)).alloc (by simp) (.cells a.arr 53)).alloc (by simp; omega) (.cells (wtA sp n cap o c) 44)
  have k0 := wt_c0 V0.wt
  have k1 := wt_c' V0.wt hW.o32
  by_cases h5 : n = 5
  · by_cases h32 : c ≤ 32
    · have h5' : ((n : Int) != 5) = false := by simp; omega
      have h5'' : (n : Int) = 5 := by omega
      have h32' : ¬ c > 32 := by omega
      by_cases hI : i < 0
      · clear h
        replace h5 := Hid.mk' h5
        go_enter Try.func26, Try.ntmps26
        go_wp2_with fail
        go_ret
        exact ⟨rfl, B0⟩
      · have hI1 : i ≥ c := by by_cases hb : i < c; exact absurd ⟨h5, h32, by omega, hb⟩ h; omega
        clear h
        have hwi : i % 18446744073709551616 = i := by omega
        replace h5 := Hid.mk' h5
        go_enter Try.func26, Try.ntmps26
        go_wp2_with fail
        go_ret
        exact ⟨rfl, B0⟩
    · have h5' : ((n : Int) != 5) = false := by simp; omega
      have h5'' : (n : Int) = 5 := by omega
      have h32' : c > 32 := by omega
      clear h
      replace h5 := Hid.mk' h5
      go_enter Try.func26, Try.ntmps26
      go_wp2_with fail
      go_ret
      exact ⟨rfl, B0⟩
  · have h5' : ((n : Int) != 5) = true := by simp; omega
    have h5'' : ¬ (n : Int) = 5 := by omega
    clear h
    replace h5 := Hid.mk' h5
    go_enter Try.func26, Try.ntmps26
    go_wp2_with fail
    go_ret
    exact ⟨rfl, B0⟩
theorem refCheckOut_any (R : List Int) (i : Int) (a : Ou) (N : Nat) (sp : Option Addr) (n cap : Nat) (ls : List (List Int)) (o : List Int) (c : Int) (w : World) (hR : R.length = 32) (hW : WT N w sp n cap ls o c) (hi : i ≤ 9223372036854775807) :
    Calls Try.prog 26 #[.agg (h8 R), .int .i64 i, .agg a.arr, .agg (wtA sp n cap o c)] w fun e w' => e = .returned (.bool (ckO R i a ls o c)) ∧ Below w.heap.size w w' := by
  by_cases h : n = 5 ∧ c ≤ 32 ∧ 0 ≤ i ∧ i < c
  · exact refCheckOut_ok R i a N sp n cap ls o c w hR hW h.1 h.2.1 h.2.2.1 h.2.2.2
  · have e : ckO R i a ls o c = false := by
      unfold ckO
      rw [decide_eq_false]
      rintro ⟨⟨h1, h2, h3, h4⟩, -⟩
      exact h ⟨by rw [hW.path.len.out]; exact h1, h2, h3, h4⟩
    rw [e]
    exact refCheckOut_no R i a N sp n cap ls o c w hW hi h
end Go.Proofs.Ytlebojbfcolkhaa
