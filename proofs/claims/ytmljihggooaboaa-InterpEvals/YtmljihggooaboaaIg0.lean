/- Layer interp: how a program begins. -/
import Derived.Test.YtmljihggooaboaaIf
import Derived.Handy
import Derived.BigQuiet
import Derived.BigRegion
namespace Go.Proofs.Ytmljihggooaboaa
open Go.RowKit
set_option maxRecDepth 100000
set_option linter.unusedVariables false
set_option linter.unusedSimpArgs false

theorem RS.take {α : Type} {N : Nat} {w : World} {sz : Nat} {R : List Value → α → Prop} {sp : Option Addr} {n cap : Nat} {l : List α} (h : RS N w sz R sp n cap l) {j : Nat} (hj : j ≤ n) : RS N w sz R sp j cap (l.take j) :=
  ⟨hid (by rw [List.length_take, ← h.len.out]; omega), fun e => by have := h.nil e; omega, by have := h.le; omega, h.big, by have := h.small; omega, fun h0 => by
    obtain ⟨g, off, e, hg, hR⟩ := h.at0 (by omega)
    refine ⟨g, off, e, hg, fun i a ha => hR i a ?_⟩
    by_cases hi : i < j
    · rw [List.getElem?_take_of_lt hi] at ha; exact ha
    · rw [List.getElem?_eq_none (by rw [List.length_take]; omega)] at ha; cases ha⟩
set_option maxHeartbeats 1000000 in
theorem beg_any {N : Nat} {sp : Option Addr} {n cap : Nat} (p : PgT) (w : World) (hS : RS N w 3 (FuM N w) sp n cap p.fs) (hN : N ≤ w.heap.size) :
    Calls Try.prog 33 #[.agg #[.slice sp n cap, .int .i64 p.da]] w (BoP (begB p) w) := by
  have b0 := ab w (.cells #[.slice sp n cap, .int .i64 p.da] 24)
  have hsm := hS.small
  have hl := hS.len.out
  by_cases h1 : 0 < n
  · have hw : IntKind.i64.wrap ((n : Int) - 1) = ((n - 1 : Nat) : Int) := by rw [IntKind.wrap_i64]; omega
    by_cases h2 : n ≤ 32
    · obtain ⟨t, ht⟩ : ∃ t, p.fs[n - 1]? = some t := ⟨p.fs[n - 1]'(by omega), List.getElem?_eq_getElem _⟩
      have hlast : p.fs.getLast?.map FuT.p = some t.p := by rw [List.getLast?_eq_getElem?, ← hl, ht]; rfl
      obtain ⟨g, off, rfl, hg, hR⟩ := hS.at0 h1
      obtain ⟨cs, hrg, hM⟩ := hR (n - 1) t ht
      obtain ⟨q1, q2, q3, rfl, -, -⟩ := hM
      have hrg2 := rb hrg (b0.mono hN) hg
      have c0 := hrg2 0 _ rfl
      simp only [Nat.add_zero] at c0
      obtain ⟨r, hr⟩ : ∃ r, r = begB p := ⟨_, rfl⟩
      rw [← hr]
      unfold begB at hr
      rw [hlast, ← hl] at hr
      replace hr := hid hr
      have hlt : n - 1 < n := by omega
      have h32 : ((n - 1 : Nat) : Int) < 32 := by omega
      have hn0 : (0 : Int) ≤ ((n - 1 : Nat) : Int) := by omega
      obtain ⟨x1, ex1⟩ : ∃ b, (t.p == 0) = b := ⟨_, rfl⟩
      have hj : Hid (0 < n ∧ n ≤ 32) := hid ⟨h1, h2⟩
      clear hS hR hrg hrg2 hl ht hlast h1 h2
      generalize n - 1 = j at *
      go_enter Try.func33, Try.ntmps33
      go_wp2_with fail
      all_goals
        go_ret
        refine ⟨congrArg (fun b => Ending.returned (.bool b)) (?_ : _ = r), b0⟩
        have h3 := hr.out
        have h4 := hj.out
        try subst ex1
        clear b0 c0
        rw [Bool.eq_iff_iff]
        simp_all
        try (first | omega | (intros; omega))
    · have e : begB p = false := decide_eq_false (by rintro ⟨-, h, -⟩; rw [← hl] at h; exact h2 h)
      rw [e]
      have h32 : ¬ ((n - 1 : Nat) : Int) < 32 := by omega
      have hn0 : (0 : Int) ≤ ((n - 1 : Nat) : Int) := by omega
      clear hS hl h1 h2 e
      generalize n - 1 = j at *
      go_enter Try.func33, Try.ntmps33
      go_wp2_with fail
      go_ret
      exact ⟨rfl, b0⟩
  · obtain rfl : n = 0 := by omega
    have e : begB p = false := decide_eq_false (by rintro ⟨h, -⟩; rw [← hl] at h; omega)
    rw [e]
    have hw : IntKind.i64.wrap (((0 : Nat) : Int) - 1) = -1 := by rw [IntKind.wrap_i64]; omega
    clear hS hl h1 e
    go_enter Try.func33, Try.ntmps33
    go_wp2_with fail
    go_ret
    exact ⟨rfl, b0⟩
end Go.Proofs.Ytmljihggooaboaa
