/- Layer ir: the anchor. -/
import Derived.Test.YtoopgppahfnncaaDoorX14
import Derived.Test.YtoopgppahfnncaaDoorX13
namespace Go.Proofs.YtoopgppahfnncaaDoor
open Go.Shelf Go.RowKit Go.Sort
set_option maxRecDepth 100000
set_option linter.unusedVariables false
set_option linter.unusedSimpArgs false


theorem qP_pgN : pgN qP = some 4085 := by decide +kernel
theorem qP_nN : nN qP = some 11 := by decide +kernel
theorem qP_txt : pTx qP = ([100, 97, 116, 97, 32, 52, 10, 102, 117, 110, 99, 32, 49, 32, 50, 10, 118, 49, 32, 61, 32, 40, 32, 118, 48, 32, 43, 32, 49, 32, 41, 10, 114, 101, 116, 117, 114, 110, 32, 118, 49, 10, 101, 110, 100, 10, 102, 117, 110, 99, 32, 48, 32, 49, 10, 118, 48, 32, 61, 32, 102, 48, 32, 40, 32, 55, 32, 41, 10, 91, 32, 48, 32, 93, 32, 61, 32, 118, 48, 10, 101, 110, 100, 10] : List UInt8) := by decide +kernel
theorem q0_pgN : (pgN ⟨[], 0⟩).isSome = false := by decide +kernel
theorem q0_pg (w : World) : PgM w.heap.size w [.slice none 0 0, .int .i64 0] (⟨[], 0⟩ : PgT) := ⟨none, 0, 0, rfl, qi64 0 (by decide), RS.nil0 _ _ _ _⟩
theorem text_q (w : World) (sp : Option Addr) (hM : PgM w.heap.size w [.slice sp 2 2, .int .i64 4] qP) (hT : Tb w) :
    Calls Tryd.prog 6 #[.agg #[.slice sp 2 2, .int .i64 4]] w fun e w' => e = .returned (.tuple #[.string (tx ([100, 97, 116, 97, 32, 52, 10, 102, 117, 110, 99, 32, 49, 32, 50, 10, 118, 49, 32, 61, 32, 40, 32, 118, 48, 32, 43, 32, 49, 32, 41, 10, 114, 101, 116, 117, 114, 110, 32, 118, 49, 10, 101, 110, 100, 10, 102, 117, 110, 99, 32, 48, 32, 49, 10, 118, 48, 32, 61, 32, 102, 48, 32, 40, 32, 55, 32, 41, 10, 91, 32, 48, 32, 93, 32, 61, 32, 118, 48, 10, 101, 110, 100, 10] : List UInt8)), .int .i64 0]) ∧ Below w.heap.size w w' := by
  have h := text6_any qP w hM (Nat.le_refl _) ⟨w, rfl, hT, Below.refl _ _⟩
  rw [qP_txt, qP_pgN] at h
  exact h
theorem nodes_q (w : World) (sp : Option Addr) (hM : PgM w.heap.size w [.slice sp 2 2, .int .i64 4] qP) :
    Calls Tryd.prog 8 #[.agg #[.slice sp 2 2, .int .i64 4]] w fun e w' => e = .returned (.tuple #[.int .i64 11, .int .i64 0]) ∧ Below w.heap.size w w' := by
  have h := nodes25_any qP w hM (Nat.le_refl _)
  unfold nE at h
  rw [qP_nN] at h
  exact h
theorem may_q (w : World) : Calls Tryd.prog 10 #[.agg #[.slice none 0 0, .int .i64 0]] w fun e w' => e = .returned (.bool false) ∧ Below w.heap.size w w' := by
  have h := may_any (⟨[], 0⟩ : PgT) w (q0_pg w) (Nat.le_refl _)
  rw [q0_pgN] at h
  exact h
theorem q_tl : (tx ([100, 97, 116, 97, 32, 52, 10, 102, 117, 110, 99, 32, 49, 32, 50, 10, 118, 49, 32, 61, 32, 40, 32, 118, 48, 32, 43, 32, 49, 32, 41, 10, 114, 101, 116, 117, 114, 110, 32, 118, 49, 10, 101, 110, 100, 10, 102, 117, 110, 99, 32, 48, 32, 49, 10, 118, 48, 32, 61, 32, 102, 48, 32, 40, 32, 55, 32, 41, 10, 91, 32, 48, 32, 93, 32, 61, 32, 118, 48, 10, 101, 110, 100, 10] : List UInt8)).toList = ([100, 97, 116, 97, 32, 52, 10, 102, 117, 110, 99, 32, 49, 32, 50, 10, 118, 49, 32, 61, 32, 40, 32, 118, 48, 32, 43, 32, 49, 32, 41, 10, 114, 101, 116, 117, 114, 110, 32, 118, 49, 10, 101, 110, 100, 10, 102, 117, 110, 99, 32, 48, 32, 49, 10, 118, 48, 32, 61, 32, 102, 48, 32, 40, 32, 55, 32, 41, 10, 91, 32, 48, 32, 93, 32, 61, 32, 118, 48, 10, 101, 110, 100, 10] : List UInt8) := by decide +kernel
set_option maxHeartbeats 2000000 in
theorem anchored_any (w : World) (hT : Tb w) : Calls Tryd.prog 12 #[] w (BoP true w) := by
  unfold BoP
  have hq := q_tl
  go_enter Tryd.func12, Tryd.ntmps12
  go_wp2_with (first
    | (have hgd := hT; clear hgd; go_at_call 26; go_must (refine (small_any _).mono ?_; rintro e w1 ⟨sp, rfl, hM1, hb1⟩; have hT1 := hT.bl hb1; clear hT))
    | (go_at_call 6; go_must (refine (text_q _ _ hM1 hT1).mono ?_; rintro e w2 ⟨rfl, hc2⟩; have hb2 := hb1.trans (hc2.mono hb1.size); clear hM1 hT1 hc2 hb1))
    | (have hgd := hb2; clear hgd; go_at_call 26; go_must (refine (small_any _).mono ?_; rintro e w3 ⟨sp3, rfl, hM3, hc3⟩; have hb3 := hb2.trans (hc3.mono hb2.size); clear hb2 hc3))
    | (go_at_call 8; go_must (refine (nodes_q _ _ hM3).mono ?_; rintro e w4 ⟨rfl, hc4⟩; have hb4 := hb3.trans (hc4.mono hb3.size); clear hM3 hb3 hc4))
    | (go_at_call 10; go_must (refine (may_q _).mono ?_; rintro e w5 ⟨rfl, hc5⟩; have hb5 := hb4.trans (hc5.mono hb4.size); clear hb4 hc5)))
  all_goals first | (go_ret; exact ⟨rfl, hb5⟩) | (rename_i hh; exact absurd hq hh)
end Go.Proofs.YtoopgppahfnncaaDoor
