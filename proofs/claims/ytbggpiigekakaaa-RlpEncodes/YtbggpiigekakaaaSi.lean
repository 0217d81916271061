/- Layer rlp: Same. -/
import Derived.Test.YtbggpiigekakaaaSg
namespace Go.Proofs.Ytbggpiigekakaaa
open Go.RowKit
set_option linter.unusedVariables false
set_option linter.unusedSimpArgs false

theorem same_left {o p : Option (List Int)} (h : may o = false) : same o p = false := by rw [same, h]; rfl
theorem same_right {o p : Option (List Int)} (h : may p = false) : same o p = false := by rw [same, h]; simp
theorem same_both {F G : List Int} (h : F.length ≤ 65536) (h' : G.length ≤ 65536) : same (some F) (some G) = decide (F = G) := by rw [same, may_yes h, may_yes h']; simp

set_option maxHeartbeats 1000000 in
theorem same_any (N : Nat) (x y : Value) (o p : Option (List Int)) (w : World) (hI : Is N w 16 x o) (hJ : Is N w 16 y p) :
    Calls Try.prog 13 #[x, y] w fun e w' => e = .returned (.bool (same o p)) ∧ Below w.heap.size w w' := by
  have hI := hI.here
  have hJ := hJ.here
  obtain ⟨l, sp, n, cap, bs, sq, k, cq, vs, hs⟩ := hI.sh
  obtain ⟨l', sp', n', cap', bs', sq', k', cq', vs', hs'⟩ := hJ.sh
  rw [hs.eq] at hI ⊢
  rw [hs'.eq] at hJ ⊢
  clear hs hs'
  have hb0 : Below w.heap.size w ((w.alloc (.cells #[.bool l, .slice sp n cap, .slice sq k cq] 25)).alloc (.cells #[.bool l', .slice sp' n' cap', .slice sq' k' cq'] 25)) := ((Below.refl _ _).alloc (Nat.le_refl _) _).alloc (by simp) _
  have hI1 := hI.below hb0
  have hJ1 := hJ.below hb0
  have X0 := (Arr.new w 25 #[.bool l, .slice sp n cap, .slice sq k cq]).alloc (.cells #[.bool l', .slice sp' n' cap', .slice sq' k' cq'] 25)
  have Y0 := Arr.new (w.alloc (.cells #[.bool l, .slice sp n cap, .slice sq k cq] 25)) 25 #[.bool l', .slice sp' n' cap', .slice sq' k' cq']
  simp at Y0
  cases hm : may o with
  | false =>
    have hsm := Hid.mk' (same_left (p := p) hm)
    go_enter Try.func13, Try.ntmps13
    go_wp2_with (go_at_call 11; go_must (refine (may_any _ _ o _ hI1).mono ?_; rw [hm]; rintro e w2 ⟨rfl, hb2⟩))
    go_ret
    exact ⟨by rw [hsm.out]; rfl, hb0.trans (hb2.mono (by simp; omega))⟩
  | true =>
    cases hm' : may p with
    | false =>
      have hsm := Hid.mk' (same_right (o := o) hm')
      go_enter Try.func13, Try.ntmps13
      go_wp2_with (go_at_call 11; go_must (first
        | (refine (may_any _ _ p w2 hJ2).mono ?_; rw [hm']; rintro e w3 ⟨rfl, hb3⟩)
        | (refine (may_any _ _ o _ hI1).mono ?_; rw [hm]; rintro e w2 ⟨rfl, hb2⟩; have hs2 := hb2.size; simp at hs2; have hJ2 := hJ1.below (hb2.mono (by simp; omega)); have Y2 := Y0.below hb2 (by simp); have y0 := Y2.cell 0; have y1 := Y2.cell 1; have y2 := Y2.cell 2; simp at y0 y1 y2)))
      go_ret
      exact ⟨by rw [hsm.out]; rfl, (hb0.trans (hb2.mono (by simp; omega))).trans (hb3.mono (by omega))⟩
    | true =>
      obtain ⟨F, rfl, hF⟩ := may_some hm
      obtain ⟨G, rfl, hG⟩ := may_some hm'
      have hsm := Hid.mk' (same_both hF hG)
      go_enter Try.func13, Try.ntmps13
      go_wp2_with (first
        | (go_at_call 11; go_must (first
          | (refine (may_any _ _ (some G) w2 hJ2).mono ?_; rw [hm']; rintro e w3 ⟨rfl, hb3⟩; have hs3 := hb3.size; have hI3 := hI2.below (hb3.mono (by omega)); have hJ3 := hJ2.below (hb3.mono (by omega)); have X3 := X2.below hb3 (by omega); have Y3 := Y2.below hb3 (by omega); have u0 := X3.cell 0; have u1 := X3.cell 1; have u2 := X3.cell 2; have v0 := Y3.cell 0; have v1 := Y3.cell 1; have v2 := Y3.cell 2; simp at u0 u1 u2 v0 v1 v2)
          | (refine (may_any _ _ (some F) _ hI1).mono ?_; rw [hm]; rintro e w2 ⟨rfl, hb2⟩; have hs2 := hb2.size; simp at hs2; have hI2 := hI1.below (hb2.mono (by simp; omega)); have hJ2 := hJ1.below (hb2.mono (by simp; omega)); have X2 := X0.below hb2 (by simp; omega); have Y2 := Y0.below hb2 (by simp); have y0 := Y2.cell 0; have y1 := Y2.cell 1; have y2 := Y2.cell 2; simp at y0 y1 y2)))
        | (go_at_call 31; go_must (refine (alike_any 16 _ _ _ F G _ hI3 hJ3 hF hG).mono ?_; rintro e w4 ⟨rfl, hb4⟩)))
      go_ret
      exact ⟨by rw [hsm.out]; rfl, ((hb0.trans (hb2.mono (by simp; omega))).trans (hb3.mono (by omega))).trans (hb4.mono (by omega))⟩
end Go.Proofs.Ytbggpiigekakaaa
