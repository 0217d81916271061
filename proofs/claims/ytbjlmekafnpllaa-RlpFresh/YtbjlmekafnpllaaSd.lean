/- Layer rlp, the document's answer: May, Encode, Same. -/
import Derived.Test.YtbjlmekafnpllaaSc
namespace Go.Proofs.Ytbjlmekafnpllaa
open Go.RowKit
set_option linter.unusedVariables false
set_option linter.unusedSimpArgs false

theorem form16_yes {N : Nat} {x : Value} {F : List Int} {w : World} (hI : Is N w 16 x (some F)) :
    Calls Try.prog 30 #[x, .int .i64 65536, .int .i64 16] w (FormPost 65536 (some F) w) := form_any 16 (Nat.le_refl _) N x (some F) 65536 w hI (Nat.le_refl _)
theorem form16 {N : Nat} {x : Value} {o : Option (List Int)} {w : World} (hI : Is N w 16 x o) :
    Calls Try.prog 30 #[x, .int .i64 65536, .int .i64 16] w (FormPost 65536 o w) := form_any 16 (Nat.le_refl _) N x o 65536 w hI (Nat.le_refl _)

set_option maxHeartbeats 400000 in
theorem refMay_any (N : Nat) (x : Value) (o : Option (List Int)) (w : World) (hI : Is N w 16 x o) :
    Calls Try.prog 12 #[x] w fun e w' => e = .returned (.bool (may o)) ∧ Below w.heap.size w w' := by
  have hI := hI.here
  obtain ⟨l, sp, n, cap, bs, sq, k, cq, vs, hs⟩ := hI.sh
  have hI1 : ∀ ob, Is w.heap.size (w.alloc ob) 16 x o := fun ob => hI.below ((Below.refl _ _).alloc (Nat.le_refl _) _)
  have hbt : ∀ F, o = some F → Bts F := fun F e => by subst e; exact hI.bts
  replace hbt := Hid.mk' hbt
  rw [hs.eq] at hI1 ⊢
  clear hs hI
  go_enter Try.func12, Try.ntmps12
  go_wp2_with (go_at_call 30; go_must (refine (form16 (hI1 _)).mono ?_; rintro e w2 ⟨hb2, ⟨F, v2, hoF, hle, rfl, hown2⟩ | ⟨hno, rfl⟩⟩; obtain ⟨s2, c2, rfl, -, -⟩ := own_bs hown2 (hbt.out F hoF) (by omega)))
  · go_ret
    refine ⟨?_, ((Below.refl _ _).alloc (Nat.le_refl _) _).trans (hb2.mono (by simp))⟩
    rw [hoF]
    by_cases hl : F.length ≤ 65536
    · rw [may_yes hl]; simp; omega
    · rw [may_no (fun F' e => by obtain rfl := Option.some.inj e; omega)]; simp; omega
  · go_ret
    exact ⟨by rw [may_no hno]; rfl, ((Below.refl _ _).alloc (Nat.le_refl _) _).trans (hb2.mono (by simp))⟩

set_option maxHeartbeats 400000 in
theorem refEncode_any (N : Nat) (x : Value) (o : Option (List Int)) (w : World) (hI : Is N w 16 x o) : Calls Try.prog 10 #[x] w (Enc w o) := by
  have hI := hI.here
  obtain ⟨l, sp, n, cap, bs, sq, k, cq, vs, hs⟩ := hI.sh
  have hb0 : ∀ ob, Below w.heap.size w (w.alloc ob) := fun ob => (Below.refl _ _).alloc (Nat.le_refl _) _
  have hI1 : ∀ ob, Is w.heap.size (w.alloc ob) 16 x o := fun ob => hI.below (hb0 ob)
  rw [hs.eq] at hI1 ⊢
  have hI2 := hI1 (.cells #[.bool l, .slice sp n cap, .slice sq k cq] 25)
  have X0 := Arr.new w 25 #[.bool l, .slice sp n cap, .slice sq k cq]
  clear hs hI
  cases hm : may o with
  | false =>
    have hno : ∀ F, o = some F → 65536 < F.length := fun F e => by
      subst e; simp [may] at hm; omega
    replace hno := Hid.mk' hno
    go_enter Try.func10, Try.ntmps10
    go_wp2_with (go_at_call 12; go_must (refine (refMay_any _ _ o _ hI2).mono ?_; rw [hm]; rintro e w2 ⟨rfl, hb2⟩))
    go_ret2
    exact ⟨(hb0 _).trans (hb2.mono (by simp)), .inr ⟨hno.out, rfl⟩⟩
  | true =>
    obtain ⟨F, rfl, hle⟩ := may_some hm
    go_enter Try.func10, Try.ntmps10
    go_wp2_with (first
      | (go_at_call 12; go_must (refine (refMay_any _ _ _ _ hI2).mono ?_; rw [hm]; rintro e w2 ⟨rfl, hb2⟩; have hI3 := hI2.below (hb2.mono (by simp)); have X2 := X0.below hb2 (by simp); have x0 := X2.cell 0; have x1 := X2.cell 1; have x2 := X2.cell 2; simp at x0 x1 x2; have hs2 := hb2.size; simp at hs2))
      | (go_at_call 30; go_must (refine (form16 hI3).mono ?_; rintro e w3 ⟨hb3, ⟨F', v3, hoF, hle3, rfl, hown3⟩ | ⟨hno, -⟩⟩; rotate_left; (have := hno F rfl; omega); cases hoF)))
    go_ret2
    exact ⟨((hb0 _).trans (hb2.mono (by simp))).trans (hb3.mono (by omega)), .inl ⟨F, v3, rfl, hle, rfl, own_mono hown3 (by omega)⟩⟩

/-- Whether both may be and are the same. -/
def same (o p : Option (List Int)) : Bool := may o && may p && decide (o = p)

set_option maxHeartbeats 1000000 in
theorem refSame_any (N : Nat) (x y : Value) (o p : Option (List Int)) (w : World) (hI : Is N w 16 x o) (hJ : Is N w 16 y p) :
    Calls Try.prog 14 #[x, y] w fun e w' => e = .returned (.bool (same o p)) ∧ Below w.heap.size w w' := by
  have hI := hI.here
  have hJ := hJ.here
  obtain ⟨l, sp, n, cap, bs, sq, k, cq, vs, hs⟩ := hI.sh
  obtain ⟨l', sp', n', cap', bs', sq', k', cq', vs', hs'⟩ := hJ.sh
  have hbt : Hid (∀ F, o = some F → Bts F) := fun F e => by subst e; exact hI.bts
  have hbt' : Hid (∀ F, p = some F → Bts F) := fun F e => by subst e; exact hJ.bts
  rw [hs.eq] at hI ⊢
  rw [hs'.eq] at hJ ⊢
  clear hs hs'
  have hb0 : Below w.heap.size w ((w.alloc (.cells #[.bool l, .slice sp n cap, .slice sq k cq] 25)).alloc (.cells #[.bool l', .slice sp' n' cap', .slice sq' k' cq'] 25)) := ((Below.refl _ _).alloc (Nat.le_refl _) _).alloc (by simp) _
  have hI1 := hI.below hb0
  have hJ1 := hJ.below hb0
  have Y0 := Arr.new (w.alloc (.cells #[.bool l, .slice sp n cap, .slice sq k cq] 25)) 25 #[.bool l', .slice sp' n' cap', .slice sq' k' cq']
  simp at Y0
  go_enter Try.func14, Try.ntmps14
  go_wp2_with (first
    | (go_at_call 10; go_must (first
      | (refine (refEncode_any _ _ p w2 hJ2).mono ?_; rintro e w3 ⟨hb3, ⟨G, v3, hpG, hle3, rfl, hown3⟩ | ⟨hno3, rfl⟩⟩; obtain ⟨s3, c3, rfl, hbs3, -⟩ := own_bs hown3 (hbt'.out G hpG) (by omega))
      | (refine (refEncode_any _ _ o _ hI1).mono ?_; rintro e w2 ⟨hb2, hres⟩; have hs2 := hb2.size; simp at hs2; have hJ2 := hJ1.below (hb2.mono (by simp; omega)); have Y2 := Y0.below hb2 (by simp); have y0 := Y2.cell 0; have y1 := Y2.cell 1; have y2 := Y2.cell 2; simp at y0 y1 y2; rcases hres with ⟨F, v2, hoF, hle, rfl, hown2⟩ | ⟨hno, rfl⟩; obtain ⟨s2, c2, rfl, hbs2, -⟩ := own_bs hown2 (hbt.out F hoF) (by omega))))
    | (go_at_call 15; go_must (refine (same01_any s2 s3 _ _ c2 c3 F G _ _ _ (hbs2.below hb3) hbs3).mono ?_; rintro e w4 ⟨rfl, rfl⟩)))
  all_goals
    go_ret
    refine ⟨?_, (hb0.trans (hb2.mono (by simp; omega))).trans (hb3.mono (by omega))⟩
    try subst hoF
    try subst hpG
    first
      | (rw [same, may_yes hle, may_yes hle3]; simp)
      | (rw [same, may_yes hle, may_no hno3]; rfl)
      | (rw [same, may_no hno]; rfl)
end Go.Proofs.Ytbjlmekafnpllaa
