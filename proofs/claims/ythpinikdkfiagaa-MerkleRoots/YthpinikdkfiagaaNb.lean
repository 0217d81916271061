/- Layer merkle: the walk of MerkleRoots. -/
import Derived.Test.YthpinikdkfiagaaNa
namespace Go.Proofs.Ythpinikdkfiagaa
open Go.RowKit Go.Shelf
set_option linter.unusedVariables false
set_option linter.unusedSimpArgs false

set_option maxRecDepth 100000 in
set_option maxHeartbeats 2000000 in
theorem roots_walk (d i : Int) (sp : Option Addr) (n cap : Nat) (ls : List (List Int)) (w : World) (hS : HS w.heap.size w sp n cap ls) :
    Calls Try.prog 3 #[.int .i64 d, .slice sp n cap, .int .i64 i] w fun e w' => e = .returned (.bool true) ∧ Below w.heap.size w w' := by
  have cA := Hid.mk' (fun w hS => root_any d w.heap.size sp n cap ls w hS)
  have cB := Hid.mk' (fun w hS => refRoot_any d w.heap.size sp n cap ls w hS)
  have cC := Hid.mk' (fun w => empty_any d w)
  have cD := Hid.mk' (fun w => refRoot_any d w.heap.size none 0 0 [] w (HS.nil0 _ _))
  have cE := Hid.mk' (fun w hS => proof_any d i w.heap.size sp n cap ls w hS)
  have cF := Hid.mk' (fun w hS => refProof_any d i w.heap.size sp n cap ls w hS)
  have hR := rR_len (d := d) hS.l32
  have hE := rR_len (d := d) (ls := []) (fun x h => by cases h)
  unfold PPost at cE cF
  simp only [List.length_nil] at cD
  generalize pF d i ls = P at *
  generalize pE d i ls.length = pe at *
  generalize rE d ls.length = c at *
  generalize rR d ls = R at *
  generalize rE d 0 = c0 at *
  generalize rR d [] = E at *
  have hcc : (c == c) = true := by simp
  have hc0 : (c0 == c0) = true := by simp
  have hpp : (pe == pe) = true := by simp
  have E1 := run_eq24 hR hR
  have E2 := run_eq24 hE hE
  rw [decide_eq_true rfl] at E1 E2
  go_enter Try.func3, Try.ntmps3
  go_upto_region 2 with (first
    | (go_at_call 7; go_must (refine (cA.out _ hS).mono ?_; rintro e w1 ⟨rfl, hb1⟩; have hs1 := hb1.size; have A1 := Arr.new w1 24 (h8 R); have bw1 := hb1.alloc (by omega) (.cells (h8 R) 24)))
    | (refine st24n (by rfl) _ _ (by rfl) w1 w1.heap.size rfl (by rfl) R (by rfl) (by rfl) hR ?_))
  go_upto_region 3 with (first
    | (go_at_call 8; go_must (refine (cB.out _ ((hS.below bw1).mono (by simp; omega))).mono ?_; rintro e w2 ⟨rfl, hb2⟩; have hs2 := hb2.size; simp at hs2; have A2 := (A1.below hb2 (by simp)).alloc (.cells (h8 R) 24); have B2 := Arr.new w2 24 (h8 R); have bw2 := (bw1.trans (hb2.mono (by simp; omega))).alloc (by omega) (.cells (h8 R) 24)))
    | (refine st24n (by rfl) _ _ (by rfl) w2 w2.heap.size rfl (by rfl) R (by rfl) (by rfl) hR ?_))
  go_upto_region 4 with (first
    | (go_at_call 9; go_must (refine (cC.out _).mono ?_; rintro e w3 ⟨rfl, hb3⟩; have hs3 := hb3.size; simp at hs3; have A3 := (A2.below hb3 (by simp; omega)).alloc (.cells (h8 E) 24); have B3 := (B2.below hb3 (by simp)).alloc (.cells (h8 E) 24); have C3 := Arr.new w3 24 (h8 E); have bw3 := (bw2.trans (hb3.mono (by simp; omega))).alloc (by omega) (.cells (h8 E) 24)))
    | (refine st24n (by rfl) _ _ (by rfl) w3 w3.heap.size rfl (by rfl) E (by rfl) (by rfl) hE ?_))
  go_upto_region 5 with (first
    | (go_at_call 8; go_must (refine (cD.out (w3.alloc (.cells (h8 E) 24))).mono ?_; rintro e w4 ⟨rfl, hb4⟩; have hs4 := hb4.size; simp at hs4; have A4 := (A3.below hb4 (by simp; omega)).alloc (.cells (h8 E) 24); have B4 := (B3.below hb4 (by simp; omega)).alloc (.cells (h8 E) 24); have C4 := (C3.below hb4 (by simp)).alloc (.cells (h8 E) 24); have D4 := Arr.new w4 24 (h8 E); have bw4 := (bw3.trans (hb4.mono (by simp; omega))).alloc (by omega) (.cells (h8 E) 24); have hV4 : (w4.alloc (.cells (h8 E) 24)).heap.size = w4.heap.size + 1 := (by simp)))
    | (refine st24n (by rfl) _ _ (by rfl) w4 w4.heap.size rfl (by rfl) E (by rfl) (by rfl) hE ?_))
  go_upto_region 6 with (first
    | (go_at_call 10; go_must (refine (cE.out _ ((hS.below bw4).mono (by omega))).mono ?_; rintro e w5 ⟨sp5, cap5, rfl, H5, -, hb5⟩; have hs5 := hb5.size; rw [hV4] at hs5)))
  go_upto_region 7 with (first
    | (go_at_call 11; go_must (refine (cF.out _ (((hS.below bw4).below (hb5.mono (by omega))).mono (by omega))).mono ?_; rintro e w6 ⟨sp6, cap6, rfl, H6, -, hb6⟩; have hs6 := hb6.size; have A6 := ((A4.below hb5 (by omega)).below hb6 (by omega)); have B6 := ((B4.below hb5 (by omega)).below hb6 (by omega)); have C6 := ((C4.below hb5 (by omega)).below hb6 (by omega)); have D6 := ((D4.below hb5 (by omega)).below hb6 (by omega)); have bw6 := (bw4.trans (hb5.mono (by omega))).trans (hb6.mono (by omega)))))
  go_wp2_with (first
    | (go_at_call 13; go_must (refine (anchored_any w7).mono ?_; rintro e w8 ⟨rfl, hb8⟩))
    | (go_at_call 12; go_must (refine (same_true _ _ sp5 sp6 P.length cap5 cap6 P _ (H5.below hb6) H6).mono ?_; rintro e w7 ⟨rfl, hb7⟩; have hs7 := hb7.size))
    | (refine ld24g (by rfl) _ (by rfl) w4.heap.size 0 (by rfl) E hE D6.range ?_)
    | (refine ld24g (by rfl) _ (by rfl) w3.heap.size 0 (by rfl) E hE C6.range ?_)
    | (refine ld24 (by rfl) _ (by rfl) w2.heap.size 0 (by rfl) R hR B6.range ?_)
    | (refine ld24 (by rfl) _ (by rfl) w1.heap.size 0 (by rfl) R hR A6.range ?_))
  go_ret
  exact ⟨rfl, (bw6.trans (hb7.mono (by omega))).trans (hb8.mono (by omega))⟩
end Go.Proofs.Ythpinikdkfiagaa
