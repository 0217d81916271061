/- Layer rlp, the document's answer: May, Encode, Same. -/
import Derived.Test.YtbjlmekafnpllabSc
namespace Go.Proofs.Ytbjlmekafnpllab
open Go.RowKit
set_option linter.unusedVariables false
set_option linter.unusedSimpArgs false

theorem form16_yes {N : Nat} {x : Value} {F : List Int} {w : World} (hI : Is N w 16 x (some F)) :
    Calls Try.prog 43 #[x, .int .i64 65536, .int .i64 16] w (FormPost 65536 (some F) w) := form_any 16 (Nat.le_refl _) N x (some F) 65536 w hI (Nat.le_refl _)
theorem form16 {N : Nat} {x : Value} {o : Option (List Int)} {w : World} (hI : Is N w 16 x o) :
    Calls Try.prog 43 #[x, .int .i64 65536, .int .i64 16] w (FormPost 65536 o w) := form_any 16 (Nat.le_refl _) N x o 65536 w hI (Nat.le_refl _)

set_option maxRecDepth 100000 in
set_option maxHeartbeats 400000 in
theorem refMay_any (N : Nat) (x : Value) (o : Option (List Int)) (w : World) (hI : Is N w 16 x o) :
    Calls Try.prog 42 #[x] w fun e w' => e = .returned (.bool (may o)) ∧ Below w.heap.size w w' := by
  have hI := hI.here
  obtain ⟨l, sp, n, cap, bs, sq, k, cq, vs, hs⟩ := hI.sh
  have hI1 : ∀ ob, Is w.heap.size (w.alloc ob) 16 x o := fun ob => hI.below ((Below.refl _ _).alloc (Nat.le_refl _) _)
  have hbt : ∀ F, o = some F → Bts F := fun F e => by subst e; exact hI.bts
  replace hbt := Hid.mk' hbt
  rw [hs.eq] at hI1 ⊢
  clear hs hI
  go_enter Try.func42, Try.ntmps42
  go_wp2_with (go_at_call 43; go_must (refine (form16 (hI1 _)).mono ?_; rintro e w2 ⟨hb2, ⟨F, v2, hoF, hle, rfl, hown2⟩ | ⟨hno, rfl⟩⟩; obtain ⟨s2, c2, rfl, -, -⟩ := own_bs hown2 (hbt.out F hoF) (by omega)))
  · go_ret
    refine ⟨?_, ((Below.refl _ _).alloc (Nat.le_refl _) _).trans (hb2.mono (by simp))⟩
    rw [hoF]
    by_cases hl : F.length ≤ 65536
    · rw [may_yes hl]; simp; omega
    · rw [may_no (fun F' e => by obtain rfl := Option.some.inj e; omega)]; simp; omega
  · go_ret
    exact ⟨by rw [may_no hno]; rfl, ((Below.refl _ _).alloc (Nat.le_refl _) _).trans (hb2.mono (by simp))⟩

set_option maxRecDepth 100000 in
set_option maxHeartbeats 400000 in
theorem refEncode_any (N : Nat) (x : Value) (o : Option (List Int)) (w : World) (hI : Is N w 16 x o) : Calls Try.prog 26 #[x] w (Enc w o) := by
  have hI := hI.here
  obtain ⟨l, sp, n, cap, bs, sq, k, cq, vs, hs⟩ := hI.sh
  have hb0 : ∀ ob, Below w.heap.size w (w.alloc ob) := fun ob => (Below.refl _ _).alloc (Nat.le_refl _) _
  have hI1 : ∀ ob, Is w.heap.size (w.alloc ob) 16 x o := fun ob => hI.below (hb0 ob)
  rw [hs.eq] at hI1 ⊢
  have hI2 := hI1 (.cells #[.bool l, .slice sp n cap, .slice sq k cq] 59)
  have X0 := Arr.new w 59 #[.bool l, .slice sp n cap, .slice sq k cq]
  clear hs hI
  cases hm : may o with
  | false =>
    have hno : ∀ F, o = some F → 65536 < F.length := fun F e => by
      subst e; simp [may] at hm; omega
    replace hno := Hid.mk' hno
    go_enter Try.func26, Try.ntmps26
    go_wp2_with (go_at_call 42; go_must (refine (refMay_any _ _ o _ hI2).mono ?_; rw [hm]; rintro e w2 ⟨rfl, hb2⟩))
    go_ret2
    exact ⟨(hb0 _).trans (hb2.mono (by simp)), .inr ⟨hno.out, rfl⟩⟩
  | true =>
    obtain ⟨F, rfl, hle⟩ := may_some hm
    go_enter Try.func26, Try.ntmps26
    go_wp2_with (first
      | (go_at_call 42; go_must (refine (refMay_any _ _ _ _ hI2).mono ?_; rw [hm]; rintro e w2 ⟨rfl, hb2⟩; have hI3 := hI2.below (hb2.mono (by simp)); have X2 := X0.below hb2 (by simp); have x0 := X2.cell 0; have x1 := X2.cell 1; have x2 := X2.cell 2; simp at x0 x1 x2; have hs2 := hb2.size; simp at hs2))
      | (go_at_call 43; go_must (refine (form16 hI3).mono ?_; rintro e w3 ⟨hb3, ⟨F', v3, hoF, hle3, rfl, hown3⟩ | ⟨hno, -⟩⟩; rotate_left; (have := hno F rfl; omega); cases hoF)))
    go_ret2
    exact ⟨((hb0 _).trans (hb2.mono (by simp))).trans (hb3.mono (by omega)), .inl ⟨F, v3, rfl, hle, rfl, own_mono hown3 (by omega)⟩⟩

/-- Whether both may be and are the same. -/
def same (o p : Option (List Int)) : Bool := may o && may p && decide (o = p)

end Go.Proofs.Ytbjlmekafnpllab
