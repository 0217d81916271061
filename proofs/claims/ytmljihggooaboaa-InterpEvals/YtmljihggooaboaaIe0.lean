/- Layer interp: is a function ahead handed so many? -/
import Derived.Test.YtmljihggooaboaaIc
import Derived.Handy
import Derived.BigQuiet
import Derived.BigRegion
namespace Go.Proofs.Ytmljihggooaboaa
open Go.RowKit
set_option maxRecDepth 100000
set_option linter.unusedVariables false
set_option linter.unusedSimpArgs false

set_option maxHeartbeats 1000000 in
theorem takes_any {N : Nat} {sp : Option Addr} {n cap : Nat} {fs : List FuT} {vs f a : Int} (w : World) (hS : RS N w 3 (FuM N w) sp n cap fs) (hN : N ≤ w.heap.size) :
    Calls Try.prog 72 #[.agg #[.slice sp n cap, .int .i64 vs], .int .i64 f, .int .i64 a] w (BoP (tkB (fs.map FuT.p) f a) w) := by
  unfold tkB
  have b0 := ab w (.cells #[.slice sp n cap, .int .i64 vs] 102)
  have hl := hS.len
  have hbig := hS.small
  by_cases h1 : 0 ≤ f
  · by_cases h2 : f < n
    · obtain ⟨j, rfl⟩ : ∃ j : Nat, f = j := ⟨f.toNat, by omega⟩
      obtain ⟨t, ht⟩ : ∃ t, fs[j]? = some t := ⟨fs[j]'(by rw [← hl.out]; omega), List.getElem?_eq_getElem _⟩
      obtain ⟨g, off, rfl, hg, hR⟩ := hS.at0 (by omega)
      obtain ⟨cs, hrg, hM⟩ := hR j t ht
      obtain ⟨q1, q2, q3, rfl, -, -⟩ := hM
      have hrg2 := rb hrg (b0.mono hN) hg
      have c0 := hrg2 0 _ rfl
      simp only [Nat.add_zero] at c0
      have e : (fs.map FuT.p).getD (j : Int).toNat 0 = t.p := by simp [List.getD, ht]
      have e2 : (0 ≤ (j : Int) ∧ (j : Int) < (fs.map FuT.p).length ∧ a = (fs.map FuT.p).getD (j : Int).toNat 0) ↔ a = t.p := by
        rw [e, List.length_map, ← hl.out]
        exact ⟨fun h => h.2.2, fun h => ⟨h1, h2, h⟩⟩
      have ed : decide (0 ≤ (j : Int) ∧ (j : Int) < (fs.map FuT.p).length ∧ a = (fs.map FuT.p).getD (j : Int).toNat 0) = decide (a = t.p) := by simp only [e2]
      rw [ed]
      have hjn : j < n := by omega
      clear hS hR hrg hrg2 hl e e2 ht ed
      go_enter Try.func72, Try.ntmps72
      go_wp2_with fail
      go_ret
      exact ⟨rfl, b0⟩
    · rw [decide_eq_false (by rintro ⟨-, h, -⟩; rw [List.length_map, ← hl.out] at h; omega)]
      clear hS hl
      go_enter Try.func72, Try.ntmps72
      go_wp2_with fail
      go_ret
      exact ⟨rfl, b0⟩
  · rw [decide_eq_false (fun h => h1 h.1)]
    clear hS hl
    go_enter Try.func72, Try.ntmps72
    go_wp2_with fail
    go_ret
    exact ⟨rfl, b0⟩
end Go.Proofs.Ytmljihggooaboaa
