import Derived.Test.YtfmjapopnomkkaaUd
namespace Go.Proofs.Ytfmjapopnomkkaa
open Go.RowKit

set_option maxHeartbeats 1000000 in
theorem rounds_any (sp : Option Addr) (n cap : Nat) (w : World) (hb : n ≤ 140737488355000) :
    Calls Try.prog 14 #[.slice sp n cap] w fun e w' => e = .returned (.int .i64 ((n / 64 + lastQ (n % 64) : Nat) : Int)) ∧ w' = w := by
  have hnI : (n : Int) ≤ 140737488355000 := by omega
  have hn0 : (0 : Int) ≤ n := by omega
  by_cases h : 55 < n % 64
  · have hq : Hid (((n / 64 + lastQ (n % 64) : Nat) : Int) = (n : Int) / 64 + 2) := by show _ = _; unfold lastQ; rw [if_pos h]; omega
    have hr : 55 < (n : Int) % 64 := by omega
    go_enter Try.func14, Try.ntmps14
    go_wp2_with (go_at_call 34; go_must (refine (lastRounds_two ((n : Int) % 64) _ (by omega) (by omega)).mono ?_; rintro e w' ⟨rfl, rfl⟩))
    go_ret
    exact ⟨by rw [hq.out]; rfl, rfl⟩
  · have hq : Hid (((n / 64 + lastQ (n % 64) : Nat) : Int) = (n : Int) / 64 + 1) := by show _ = _; unfold lastQ; rw [if_neg h]; omega
    have hr : (n : Int) % 64 ≤ 55 := by omega
    have hr0 : 0 ≤ (n : Int) % 64 := by omega
    go_enter Try.func14, Try.ntmps14
    go_wp2_with (go_at_call 34; go_must (refine (lastRounds_one ((n : Int) % 64) _ (by omega) (by omega)).mono ?_; rintro e w' ⟨rfl, rfl⟩))
    go_ret
    exact ⟨by rw [hq.out]; rfl, rfl⟩

set_option maxHeartbeats 1000000 in
theorem refRounds_any (sp : Option Addr) (n cap : Nat) (L : List Int) (w : World) (hn : n = L.length) (hnil : sp = none → n = 0 ∧ cap = 0) (hS : SlL w sp L) (hb : n ≤ 140737488355000) :
    Calls Try.prog 15 #[.slice sp n cap] w fun e w' => e = .returned (.int .i64 ((n / 64 + lastQ (n % 64) : Nat) : Int)) ∧ Below w.heap.size w w' := by
  have HN := Hid.mk' hn
  clear hn
  have hN := nulls_le n
  have hnI : (n : Int) ≤ 140737488355000 := by omega
  have hn0 : (0 : Int) ≤ n := by omega
  have hk0 : (nulls n : Int) ≤ 63 := by omega
  have hq : Hid (((n : Int) + 1 + nulls n + 8) / 64 = ((n / 64 + lastQ (n % 64) : Nat) : Int)) := by show _ = _; have := pad_blocks n; omega
  go_enter Try.func15, Try.ntmps15
  go_wp2_with (go_at_call 32; go_must (refine (padded_any sp n cap L _ HN hnil hS hb).mono ?_; rintro e w' ⟨v, rfl, hown, hb'⟩; obtain ⟨g, c, rfl, hn3, hc3, hgg, hBy, -⟩ := own_slice hown (by omega)))
  go_ret
  exact ⟨by rw [← hq.out]; rfl, hb'⟩
end Go.Proofs.Ytfmjapopnomkkaa
