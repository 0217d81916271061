/- Layer rlp: the walk of RlpFresh. -/
import Derived.Test.YtbjlmekafnpllaaVb
import Derived.Test.YtbjlmekafnpllaaTe
namespace Go.Proofs.Ytbjlmekafnpllaa
open Go.RowKit
set_option linter.unusedVariables false
set_option linter.unusedSimpArgs false

theorem own_tb {w : World} {base n : Nat} {v : Value} {xs : List Value} (h : w.ownsRow base 5 1 v n xs) (hn : n ≤ 1000000) : ∃ sp cap, v = .slice sp n cap ∧ TB (base ≤ ·) w sp n cap := by
  obtain ⟨-, h | ⟨g, c, cur, e, hg, hh, hnc, hm, hc, -⟩⟩ := h
  · obtain ⟨e, rfl⟩ := h
    exact ⟨none, 0, e, .inl ⟨rfl, rfl, rfl⟩⟩
  · exact ⟨_, c, e, .inr ⟨g, cur, rfl, hg, hh, by omega, hnc, hm, hn⟩⟩
theorem enc_tb {N : Nat} {x : Value} {F : List Int} {w : World} (hI : Is N w 16 x (some F)) (hF : F.length ≤ 65536) :
    Calls Try.prog 9 #[x] w fun e w' => ∃ sp n cap, e = .returned (.tuple #[.slice sp n cap, .int .i64 0]) ∧ Hid (TB (w.heap.size ≤ ·) w' sp n cap) ∧ Below w.heap.size w w' := by
  refine (encode_any _ _ _ _ hI).mono ?_
  rintro e w' ⟨hb, ⟨F', v', hF', hle, he, hown⟩ | ⟨hno, -⟩⟩
  · cases hF'
    obtain ⟨sp, cap, rfl, hT⟩ := own_tb hown (by omega)
    exact ⟨sp, _, cap, he, hT, hb⟩
  · have := hno _ rfl; omega
theorem spoil_own {N : Nat} {sp : Option Addr} {n cap : Nat} {x : Int} {w : World} (hT : TB (N ≤ ·) w sp n cap) (hN : N ≤ w.heap.size) (hx : 0 ≤ x ∧ x ≤ 255) :
    Calls Try.prog 25 #[.slice sp n cap, .int .u8 x] w fun e w' => e = .returned (.tuple #[]) ∧ Below N w w' := by
  refine (spoil_tb _ sp n cap x w hT hx).mono ?_
  rintro e w' ⟨he, hch, -⟩
  exact ⟨he, hch.below fun i hi => ⟨by omega, by omega⟩⟩

set_option maxRecDepth 100000 in
set_option maxHeartbeats 2000000 in
theorem fresh_good (sp : Option Addr) (n cap : Nat) (L : List Int) (N : Nat) (w : World) (hS : BS N w sp n cap L) (h0 : whole L = 0) :
    Calls Try.prog 8 #[.slice sp n cap] w fun e w' => e = .returned (.bool true) ∧ Below w.heap.size w w' := by
  have hS := hS.here
  have hl6 := whole_le h0
  replace h0 := Hid.mk' h0
  have hsm := Hid.mk' (show same (some L) (some L) = true by unfold same; rw [may_yes hl6]; simp)
  go_enter Try.func8, Try.ntmps8
  go_wp2_with (first
    | (go_at_call 24; go_must (refine (copy01_any sp n cap L _ _ hS).mono ?_; rintro e w1 ⟨v1, rfl, hown1, hb1⟩; obtain ⟨sc, cc, rfl, hC1, -⟩ := own_bs hown1 hS.bts hS.small; have hs1 := hb1.size; clear hown1))
    | (go_at_call 17; go_must (first
      | (refine (dec_ok (N := 0) (decode_any _ sc n cc L _ hC4) h0.out).mono ?_; rintro e w6 ⟨l', t1, m1, d1, t2, m2, d2, rfl, hD6, hb6⟩; have hs6 := hb6.size; have Y6 := Arr.new w6 25 #[.bool l', .slice t1 m1 d1, .slice t2 m2 d2]; have hbT : Below w2.heap.size w2 (w6.alloc (.cells #[.bool l', .slice t1 m1 d1, .slice t2 m2 d2] 25)) := ((hbw4.trans (hb6.mono (by omega))).alloc (by omega) _); have hbX : Below (w2.heap.size + 1) (w2.alloc (.cells #[.bool l, .slice s1 n1 c1, .slice s2 n2 c2] 25)) (w6.alloc (.cells #[.bool l', .slice t1 m1 d1, .slice t2 m2 d2] 25)) := ((hbx4.trans (hb6.mono (by omega))).alloc (by omega) _); have X6 := X2.below hbX (by omega); have x0 := X6.cell 0; have x1 := X6.cell 1; have x2 := X6.cell 2; simp at x0 x1 x2; have hT6 := Hid.mk' (((hD2.out.mono (T := fun b => w1.heap.size ≤ b ∧ b < w2.heap.size) (fun b hb h => ⟨h, hb⟩)).agree (Agree.below hbT (fun b hb h => hb))).tm (by omega)))
      | (refine (dec_ok (N := 0) (decode_any _ sc n cc L _ hC1) h0.out).mono ?_; rintro e w2 ⟨l, s1, n1, c1, s2, n2, c2, rfl, hD2, hb2⟩; have hs2 := hb2.size; have X2 := Arr.new w2 25 #[.bool l, .slice s1 n1 c1, .slice s2 n2 c2]; have I2 := hD2.out.is.below (alloc_bel' w2 (.cells #[.bool l, .slice s1 n1 c1, .slice s2 n2 c2] 25)))))
    | (go_at_call 9; go_must (refine (enc_tb I2 hl6).mono ?_; rintro e w3 ⟨s3, n3, c3, rfl, hT3, hb3⟩; have hs3 := hb3.size; simp at hs3))
    | (go_at_call 25; go_must (refine (spoil_own hT3.out (by simp; omega) (by omega)).mono ?_; rintro e w4 ⟨rfl, hb4⟩; have hs4 := hb4.size; have hbx4 : Below (w2.heap.size + 1) (w2.alloc (.cells #[.bool l, .slice s1 n1 c1, .slice s2 n2 c2] 25)) w4 := (by have h1 := hb3.trans hb4; simpa using h1); have hbw4 : Below w2.heap.size w2 w4 := (alloc_bel' w2 _).trans (hbx4.mono (by omega)); have hC4 := hC1.below ((hb2.trans (hbw4.mono hs2)))))
    | (go_at_call 26; go_must (refine (spoil26_any _ 16 _ _ hT6.out (fun b hb => by simp; omega)).mono ?_; rintro e w8 ⟨rfl, hch8, -⟩; have hs8 := hch8.size; simp at hs8; have hb8 : Below w1.heap.size (w6.alloc (.cells #[.bool l', .slice t1 m1 d1, .slice t2 m2 d2] 25)) w8 := hch8.below (fun i hi => ⟨by simp; omega, by omega⟩); have hbw8 : Below w1.heap.size w1 w8 := (hb2.trans (hbT.mono hs2)).trans hb8; have hC8 := hC1.below hbw8; have hS8 := hS.below (hb1.trans (hbw8.mono hs1)); have Y8 := Y6.chg hch8 (by omega)))
    | (go_at_call 18; go_must (refine (dec_ok (N := 0) (refDecode_any _ sp n cap L _ hS8) h0.out).mono ?_; rintro e w9 ⟨l9, r1, k1, e1, r2, k2, e2, rfl, hD9, hb9⟩; have hs9 := hb9.size; have Z9 := Arr.new w9 25 #[.bool l9, .slice r1 k1 e1, .slice r2 k2 e2]; have Y9 := (Y8.below hb9 (by omega)).alloc (.cells #[.bool l9, .slice r1 k1 e1, .slice r2 k2 e2] 25); have hbw9 : Below w1.heap.size w1 (w9.alloc (.cells #[.bool l9, .slice r1 k1 e1, .slice r2 k2 e2] 25)) := (hbw8.trans (hb9.mono (by omega))).alloc (by omega) _; have J9 := hD9.out.is.below (alloc_bel' w9 (.cells #[.bool l9, .slice r1 k1 e1, .slice r2 k2 e2] 25)); have D8 := (hD6.out.mono (T := fun b => w4.heap.size ≤ b ∧ b < w6.heap.size) (fun b hb h => ⟨h, hb⟩)).agree (w' := w8) ⟨by omega, fun b hb h => (hch8.block b (by simp; omega) (by omega)).trans (Below.heap_alloc _ _ _ hb)⟩; have I9 := (D8.is.below hb9).here.below (alloc_bel' w9 (.cells #[.bool l9, .slice r1 k1 e1, .slice r2 k2 e2] 25))))
    | (go_at_call 16; go_must (refine (anchored_any _).mono ?_; rintro e w10 ⟨rfl, hb10⟩; have hs10 := hb10.size; simp at hs10; have Z10 := Z9.below hb10 (by simp); have Y10 := Y9.below hb10 (by simp; omega); have z0 := Z10.cell 0; have z1 := Z10.cell 1; have z2 := Z10.cell 2; have y0 := Y10.cell 0; have y1 := Y10.cell 1; have y2 := Y10.cell 2; simp at z0 z1 z2 y0 y1 y2; have hbw10 := hbw9.trans (hb10.mono (by simp; omega)); have hC10 := hC1.below hbw10; have hS10 := hS.below (hb1.trans (hbw10.mono hs1)); have I10 := (I9.below (hb10.mono (by simp))).here; have J10 := (J9.below (hb10.mono (by simp))).here))
    | (go_at_call 15; go_must (refine (same01_any sp sc n n cap cc L L _ _ _ hS10 hC10).mono ?_; rintro e w11 ⟨rfl, rfl⟩))
    | (go_at_call 14; go_must (refine (refSame_any _ _ _ _ _ _ I10 J10).mono ?_; rw [hsm.out]; rintro e w12 ⟨rfl, hb12⟩)))
  go_ret
  exact ⟨by simp, (hb1.trans (hbw10.mono hs1)).trans (hb12.mono (by omega))⟩

theorem zero_is (N : Nat) (w : World) : Is N w 16 (.agg #[.bool false, .slice none 0 0, .slice none 0 0]) (some [128]) :=
  ⟨false, none, 0, 0, [], none, 0, 0, [], ⟨rfl, BS.nil0 _ _, IS.nil0 _ _⟩, .inl ⟨rfl, rfl⟩⟩

set_option maxRecDepth 100000 in
set_option maxHeartbeats 2000000 in
theorem fresh_bad (sp : Option Addr) (n cap : Nat) (L : List Int) (N : Nat) (w : World) (hS : BS N w sp n cap L) (h0 : ¬ whole L = 0) :
    Calls Try.prog 8 #[.slice sp n cap] w fun e w' => e = .returned (.bool true) ∧ Below w.heap.size w w' := by
  have hS := hS.here
  obtain ⟨c, hce⟩ : ∃ c, whole L = c := ⟨_, rfl⟩
  rw [hce] at h0
  replace hce := Hid.mk' hce
  have hne1 : (c == 0) = false := by simpa using h0
  have hne2 : (c != 0) = true := by simpa using h0
  have hcc : (c == c) = true := by simp
  go_enter Try.func8, Try.ntmps8
  go_wp2_with (first
    | (go_at_call 24; go_must (refine (copy01_any sp n cap L _ _ hS).mono ?_; rintro e w1 ⟨v1, rfl, hown1, hb1⟩; obtain ⟨sc, cc, rfl, hC1, -⟩ := own_bs hown1 hS.bts hS.small; have hs1 := hb1.size; clear hown1))
    | (go_at_call 17; go_must (first
      | (refine (dec_bad (N := 0) (decode_any _ sc n cc L _ hC4) hce.out h0).mono ?_; rintro e w6 ⟨rfl, hb6⟩; have hs6 := hb6.size; have hbX : Below (w2.heap.size + 1) (w2.alloc (.cells #[.bool false, .slice none 0 0, .slice none 0 0] 25)) (w6.alloc (.cells #[.bool false, .slice none 0 0, .slice none 0 0] 25)) := ((hbx4.trans (hb6.mono (by omega))).alloc (by omega) _); have X6 := X2.below hbX (by omega); have x0 := X6.cell 0; have x1 := X6.cell 1; have x2 := X6.cell 2; simp at x0 x1 x2)
      | (refine (dec_bad (N := 0) (decode_any _ sc n cc L _ hC1) hce.out h0).mono ?_; rintro e w2 ⟨rfl, hb2⟩; have hs2 := hb2.size; have X2 := Arr.new w2 25 #[.bool false, .slice none 0 0, .slice none 0 0]; have I2 := zero_is 0 (w2.alloc (.cells #[.bool false, .slice none 0 0, .slice none 0 0] 25)))))
    | (go_at_call 9; go_must (refine (enc_tb I2 (by simp)).mono ?_; rintro e w3 ⟨s3, n3, c3, rfl, hT3, hb3⟩; have hs3 := hb3.size; simp at hs3))
    | (go_at_call 25; go_must (refine (spoil_own hT3.out (by simp; omega) (by omega)).mono ?_; rintro e w4 ⟨rfl, hb4⟩; have hs4 := hb4.size; have hbx4 : Below (w2.heap.size + 1) (w2.alloc (.cells #[.bool false, .slice none 0 0, .slice none 0 0] 25)) w4 := (by have h1 := hb3.trans hb4; simpa using h1); have hbw4 : Below w2.heap.size w2 w4 := (alloc_bel' w2 _).trans (hbx4.mono (by omega)); have hC4 := hC1.below ((hb2.trans (hbw4.mono hs2)))))
    | (go_at_call 26; go_must (refine (spoil26_any (fun _ => False) 16 _ _ (Tm.zero _ _ 16) (fun b hb => hb.elim)).mono ?_; rintro e w8 ⟨rfl, hch8, -⟩; have hs8 := hch8.size; simp at hs8; have hb8 : Below w1.heap.size (w6.alloc (.cells #[.bool false, .slice none 0 0, .slice none 0 0] 25)) w8 := hch8.below (fun i hi => ⟨by simp; omega, fun h => h⟩); have hbw8 : Below w1.heap.size w1 w8 := (((hb2.trans (hbw4.mono hs2)).trans (hb6.mono (by omega))).alloc (by omega) _).trans hb8; have hC8 := hC1.below hbw8; have hS8 := hS.below (hb1.trans (hbw8.mono hs1))))
    | (go_at_call 18; go_must (refine (dec_bad (N := 0) (refDecode_any _ sp n cap L _ hS8) hce.out h0).mono ?_; rintro e w9 ⟨rfl, hb9⟩; have hs9 := hb9.size; have hbw9 : Below w1.heap.size w1 (w9.alloc (.cells #[.bool false, .slice none 0 0, .slice none 0 0] 25)) := (hbw8.trans (hb9.mono (by omega))).alloc (by omega) _))
    | (go_at_call 16; go_must (refine (anchored_any _).mono ?_; rintro e w10 ⟨rfl, hb10⟩; have hs10 := hb10.size; simp at hs10; have hbw10 := hbw9.trans (hb10.mono (by simp; omega)); have hC10 := hC1.below hbw10; have hS10 := hS.below (hb1.trans (hbw10.mono hs1))))
    | (go_at_call 15; go_must (refine (same01_any sp sc n n cap cc L L _ _ _ hS10 hC10).mono ?_; rintro e w11 ⟨rfl, rfl⟩)))
  go_ret
  exact ⟨by simp, hb1.trans (hbw10.mono hs1)⟩
theorem fresh_walk (sp : Option Addr) (n cap : Nat) (L : List Int) (N : Nat) (w : World) (hS : BS N w sp n cap L) :
    Calls Try.prog 8 #[.slice sp n cap] w fun e w' => e = .returned (.bool true) ∧ Below w.heap.size w w' := by
  by_cases h : whole L = 0
  · exact fresh_good sp n cap L N w hS h
  · exact fresh_bad sp n cap L N w hS h
end Go.Proofs.Ytbjlmekafnpllaa
