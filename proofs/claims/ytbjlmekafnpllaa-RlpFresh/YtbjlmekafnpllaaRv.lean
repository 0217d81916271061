/- Layer rlp: the walk of RlpForms. -/
import Derived.Test.YtbjlmekafnpllaaRu
namespace Go.Proofs.Ytbjlmekafnpllaa
open Go.RowKit
set_option linter.unusedVariables false
set_option linter.unusedSimpArgs false

theorem whole_le {L : List Int} (h : whole L = 0) : L.length ≤ 65536 := by
  by_cases h1 : 65536 < L.length
  · rw [whole, if_pos h1] at h; omega
  · omega

set_option maxHeartbeats 1000000 in
theorem forms_bad (sp : Option Addr) (n cap : Nat) (L : List Int) (m : Nat) (N : Nat) (w : World) (hS : BS N w sp n cap L) (hm : m ≤ 18446744073709551615) (h0 : ¬ whole L = 0) :
    Calls Try.prog 7 #[.slice sp n cap, .int .u64 m] w fun e w' => e = .returned (.bool true) ∧ Below w.heap.size w w' := by
  have hS := hS.here
  have hrn := Hid.mk' (rnum_be hm)
  have h02 : (whole L == 0) = false := by simpa using h0
  have h03 : (whole L != 0) = true := by simpa using h0
  go_enter Try.func7, Try.ntmps7
  go_wp2_with (first
    | (go_at_call 22; go_must (refine (num_any m _ hm).mono ?_; rintro e w1 ⟨s1, c1, rfl, hB1, hb1⟩))
    | (go_at_call 20; go_must (refine (readNum_any false s1 _ c1 none 0 0 (be m) _ _ hB1).mono ?_; rw [hrn.out]; rintro e w2 ⟨rfl, hb2⟩; have hbw2 := hb1.trans (hb2.mono hb1.size); have hS2 := hS.below hbw2))
    | (go_at_call 17; go_must (refine (decode_any _ sp n cap L _ hS2).mono ?_; rintro e w3 ⟨hb3, ⟨h4, -⟩ | ⟨-, rfl⟩⟩; (exact absurd h4 h0); have hbw3 := hbw2.trans (hb3.mono hbw2.size)))
    | (go_at_call 16; go_must (refine (anchored_any _).mono ?_; rintro e w4 ⟨rfl, hb4⟩)))
  go_ret
  have hs3 := hbw3.size
  exact ⟨rfl, (hbw3.alloc hs3 _).trans (hb4.mono (by simp; omega))⟩

set_option maxHeartbeats 1000000 in
theorem forms_good (sp : Option Addr) (n cap : Nat) (L : List Int) (m : Nat) (N : Nat) (w : World) (hS : BS N w sp n cap L) (hm : m ≤ 18446744073709551615) (h0 : whole L = 0) :
    Calls Try.prog 7 #[.slice sp n cap, .int .u64 m] w fun e w' => e = .returned (.bool true) ∧ Below w.heap.size w w' := by
  have hS := hS.here
  have hln := hS.len
  have hl6 := whole_le h0
  have h0 := Hid.mk' h0
  have hrn := Hid.mk' (rnum_be hm)
  go_enter Try.func7, Try.ntmps7
  go_wp2_with (first
    | (go_at_call 22; go_must (refine (num_any m _ hm).mono ?_; rintro e w1 ⟨s1, c1, rfl, hB1, hb1⟩))
    | (go_at_call 20; go_must (refine (readNum_any false s1 _ c1 none 0 0 (be m) _ _ hB1).mono ?_; rw [hrn.out]; rintro e w2 ⟨rfl, hb2⟩; have hbw2 := hb1.trans (hb2.mono hb1.size); have hS2 := hS.below hbw2))
    | (go_at_call 17; go_must (refine (decode_any _ sp n cap L _ hS2).mono ?_; rintro e w3 ⟨hb3, ⟨-, v3, rfl, hD3⟩ | ⟨h4, -⟩⟩; rotate_left; (exact absurd h0.out h4); have hbw3 := hbw2.trans (hb3.mono hbw2.size); have hD3 := Hid.mk' hD3; obtain ⟨l, t1, n1, c1, t2, n2, c2, e2⟩ := hD3.out.sh; subst e2; have I3 := hD3.out.is.below ((Below.refl _ _).alloc (Nat.le_refl _) (.cells #[.bool l, .slice t1 n1 c1, .slice t2 n2 c2] 25)); have X3 := Arr.new w3 25 #[.bool l, .slice t1 n1 c1, .slice t2 n2 c2]; have hs3 := hbw3.size))
    | (go_at_call 9; go_must (refine (encode_any _ _ _ _ I3).mono ?_; rintro e w5 ⟨hb5, ⟨F, v5, hF, hle, rfl, hown5⟩ | ⟨hno, -⟩⟩; rotate_left; (have := hno _ rfl; omega); cases hF; have hs5 := hb5.size; simp at hs5; have hbw5 : Below w.heap.size w w5 := (hbw3.alloc hs3 _).trans (hb5.mono (by simp; omega)); have I5 := I3.below (hb5.mono (by simp)); have X5 := X3.below hb5 (by simp); obtain ⟨s5, c5, rfl, hbs5, -⟩ := own_bs hown5 hS.bts (by omega)))
    | (go_at_call 16; go_must (refine (anchored_any _).mono ?_; rintro e w6 ⟨rfl, hb6⟩; have hbw6 := hbw5.trans (hb6.mono hbw5.size); have hS6 := hS.below hbw6; have hbs6 := hbs5.below hb6; have I6 := I5.below (hb6.mono (by omega)); have X6 := X5.below hb6 (by omega); have x0 := X6.cell 0; have x1 := X6.cell 1; have x2 := X6.cell 2; simp at x0 x1 x2))
    | (go_at_call 15; go_must (refine (same01_any sp s5 n _ cap c5 L L _ _ _ hS6 hbs6).mono ?_; rintro e w7 ⟨rfl, rfl⟩))
    | (go_at_call 11; go_must (refine (may_any _ _ _ _ I6).mono ?_; rintro e w8 ⟨rfl, hb8⟩)))
  go_ret
  refine ⟨by rw [may_yes hl6]; simp, hbw6.trans (hb8.mono hbw6.size)⟩

theorem forms_walk (sp : Option Addr) (n cap : Nat) (L : List Int) (m : Nat) (N : Nat) (w : World) (hS : BS N w sp n cap L) (hm : m ≤ 18446744073709551615) :
    Calls Try.prog 7 #[.slice sp n cap, .int .u64 m] w fun e w' => e = .returned (.bool true) ∧ Below w.heap.size w w' := by
  by_cases h : whole L = 0
  · exact forms_good sp n cap L m N w hS hm h
  · exact forms_bad sp n cap L m N w hS hm h
end Go.Proofs.Ytbjlmekafnpllaa
