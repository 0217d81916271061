/- Layer rlp: the walk of RlpDecodes. -/
import Derived.Test.YtbjlmekafnpllaaTd
import Derived.Test.YtbjlmekafnpllaaRt
import Derived.Test.YtbjlmekafnpllaaRv
import Derived.Test.YtbjlmekafnpllaaSd
namespace Go.Proofs.Ytbjlmekafnpllaa
open Go.RowKit
set_option linter.unusedVariables false
set_option linter.unusedSimpArgs false

theorem dec_ok {N : Nat} {sp : Option Addr} {n cap : Nat} {L : List Int} {w : World} {f : Nat} (hc : Calls Try.prog f #[.slice sp n cap] w (DecPost L w)) (h0 : whole L = 0) :
    Calls Try.prog f #[.slice sp n cap] w fun e w' => ∃ l s1 n1 c1 s2 n2 c2, e = .returned (.tuple #[.agg #[.bool l, .slice s1 n1 c1, .slice s2 n2 c2], .int .i64 0]) ∧ Hid (Dec (w.heap.size ≤ ·) w' 16 (.agg #[.bool l, .slice s1 n1 c1, .slice s2 n2 c2]) L) ∧ Below w.heap.size w w' := by
  refine hc.mono ?_
  rintro e w' ⟨hb, ⟨-, v, he, hD⟩ | ⟨h, -⟩⟩
  · obtain ⟨l, s1, n1, c1, s2, n2, c2, e2⟩ := hD.sh
    subst e2
    exact ⟨l, s1, n1, c1, s2, n2, c2, he, hD, hb⟩
  · exact absurd h0 h
theorem dec_bad {N : Nat} {sp : Option Addr} {n cap : Nat} {L : List Int} {w : World} {f : Nat} {c : Int} (hc : Calls Try.prog f #[.slice sp n cap] w (DecPost L w)) (h0 : whole L = c) (hne : ¬ c = 0) :
    Calls Try.prog f #[.slice sp n cap] w fun e w' => e = .returned (.tuple #[.agg #[.bool false, .slice none 0 0, .slice none 0 0], .int .i64 c]) ∧ Below w.heap.size w w' := by
  refine hc.mono ?_
  rintro e w' ⟨hb, ⟨h, -⟩ | ⟨h, he⟩⟩
  · exact absurd (h0.symm.trans h) hne
  · rw [h0] at he; exact ⟨he, hb⟩

set_option maxRecDepth 100000 in
set_option maxHeartbeats 1000000 in
theorem decodes_bad (sp : Option Addr) (n cap : Nat) (L : List Int) (N : Nat) (w : World) (hS : BS N w sp n cap L) (h0 : ¬ whole L = 0) :
    Calls Try.prog 4 #[.slice sp n cap] w fun e w' => e = .returned (.bool true) ∧ Below w.heap.size w w' := by
  have hS := hS.here
  obtain ⟨c, hce⟩ : ∃ c, whole L = c := ⟨_, rfl⟩
  rw [hce] at h0
  replace hce := Hid.mk' hce
  have hne1 : (c == 0) = false := by simpa using h0
  have hne2 : (c != 0) = true := by simpa using h0
  go_enter Try.func4, Try.ntmps4
  go_wp2_with (first
    | (go_at_call 17; go_must (refine (dec_bad (N := 0) (decode_any _ sp n cap L _ hS) hce.out h0).mono ?_; rintro e w2 ⟨rfl, hb2⟩; have hs2 := hb2.size; have X2 := Arr.new w2 25 #[.bool false, .slice none 0 0, .slice none 0 0]; have hS2 := hS.below (hb2.alloc hs2 (.cells #[.bool false, .slice none 0 0, .slice none 0 0] 25))))
    | (go_at_call 18; go_must (refine (dec_bad (N := 0) (refDecode_any _ sp n cap L _ hS2) hce.out h0).mono ?_; rintro e w3 ⟨rfl, hb3⟩; have hs3 := hb3.size; simp at hs3; have X3 := (X2.below hb3 (by simp)).alloc (.cells #[.bool false, .slice none 0 0, .slice none 0 0] 25); have x0 := X3.cell 0; have x1 := X3.cell 1; have x2 := X3.cell 2; simp at x0 x1 x2; have hbw3 : Below w.heap.size w (w3.alloc (.cells #[.bool false, .slice none 0 0, .slice none 0 0] 25)) := ((hb2.alloc hs2 _).trans (hb3.mono (by simp; omega))).alloc (by omega) _))
    | (go_at_call 19; go_must (refine (zero_any _).mono ?_; rintro e w4 ⟨rfl, hb4⟩; have hbw4 := hbw3.trans (hb4.mono (by simp; omega))))
    | (go_at_call 16; go_must (refine (anchored_any _).mono ?_; rintro e w5 ⟨rfl, hb5⟩)))
  go_ret
  exact ⟨rfl, hbw4.trans (hb5.mono hbw4.size)⟩

set_option maxRecDepth 100000 in
set_option maxHeartbeats 1000000 in
theorem decodes_good (sp : Option Addr) (n cap : Nat) (L : List Int) (N : Nat) (w : World) (hS : BS N w sp n cap L) (h0 : whole L = 0) :
    Calls Try.prog 4 #[.slice sp n cap] w fun e w' => e = .returned (.bool true) ∧ Below w.heap.size w w' := by
  have hS := hS.here
  have hl6 := whole_le h0
  replace h0 := Hid.mk' h0
  have hsm := Hid.mk' (show same (some L) (some L) = true by unfold same; rw [may_yes hl6]; simp)
  go_enter Try.func4, Try.ntmps4
  go_wp2_with (first
    | (go_at_call 17; go_must (refine (dec_ok (N := 0) (decode_any _ sp n cap L _ hS) h0.out).mono ?_; rintro e w2 ⟨l, s1, n1, c1, s2, n2, c2, rfl, hD2, hb2⟩; have hs2 := hb2.size; have X2 := Arr.new w2 25 #[.bool l, .slice s1 n1 c1, .slice s2 n2 c2]; have hS2 := hS.below (hb2.alloc hs2 (.cells #[.bool l, .slice s1 n1 c1, .slice s2 n2 c2] 25)); have I2 := hD2.out.is.below ((Below.refl _ _).alloc (Nat.le_refl _) (.cells #[.bool l, .slice s1 n1 c1, .slice s2 n2 c2] 25))))
    | (go_at_call 18; go_must (refine (dec_ok (N := 0) (refDecode_any _ sp n cap L _ hS2) h0.out).mono ?_; rintro e w3 ⟨l', t1, m1, d1, t2, m2, d2, rfl, hD3, hb3⟩; have hs3 := hb3.size; simp at hs3; have X3 := (X2.below hb3 (by simp)).alloc (.cells #[.bool l', .slice t1 m1 d1, .slice t2 m2 d2] 25); have x0 := X3.cell 0; have x1 := X3.cell 1; have x2 := X3.cell 2; simp at x0 x1 x2; have hbw3 : Below w.heap.size w (w3.alloc (.cells #[.bool l', .slice t1 m1 d1, .slice t2 m2 d2] 25)) := ((hb2.alloc hs2 _).trans (hb3.mono (by simp; omega))).alloc (by omega) _; have I3 := (I2.below (hb3.mono (by simp))).here.below ((Below.refl _ _).alloc (Nat.le_refl _) (.cells #[.bool l', .slice t1 m1 d1, .slice t2 m2 d2] 25)); have J3 := hD3.out.is.below ((Below.refl _ _).alloc (Nat.le_refl _) (.cells #[.bool l', .slice t1 m1 d1, .slice t2 m2 d2] 25))))
    | (go_at_call 14; go_must (refine (refSame_any _ _ _ _ _ _ I3 J3).mono ?_; rw [hsm.out]; rintro e w4 ⟨rfl, hb4⟩; have hbw4 := hbw3.trans (hb4.mono (by simp; omega))))
    | (go_at_call 16; go_must (refine (anchored_any _).mono ?_; rintro e w5 ⟨rfl, hb5⟩)))
  go_ret
  exact ⟨rfl, hbw4.trans (hb5.mono hbw4.size)⟩
theorem decodes_walk (sp : Option Addr) (n cap : Nat) (L : List Int) (N : Nat) (w : World) (hS : BS N w sp n cap L) :
    Calls Try.prog 4 #[.slice sp n cap] w fun e w' => e = .returned (.bool true) ∧ Below w.heap.size w w' := by
  by_cases h : whole L = 0
  · exact decodes_good sp n cap L N w hS h
  · exact decodes_bad sp n cap L N w hS h
end Go.Proofs.Ytbjlmekafnpllaa
