/- Layer msg: the law MsgReads. -/
import Derived.Test.YtoanfiikeeacdaaN
namespace Go.Proofs.Ytoanfiikeeacdaa
set_option linter.unusedSectionVars false
set_option maxHeartbeats 1000000
open Go.RowKit
set_option maxRecDepth 100000
set_option linter.unusedVariables false
set_option linter.unusedSimpArgs false

variable [DecidableEq Mg]
set_option maxHeartbeats 4000000 in
theorem reads_walk (sp : Option Addr) (n cap : Nat) (L : List Int) (w : World) (hS : BS w.heap.size w sp n cap L) : Calls Try.prog 4 #[.slice sp n cap] w fun e w' => e = .returned (.bool true) ∧ Below w.heap.size w w' := by
  have hsz0 := Mg.size mg0_ok
  have z27 := zv27
  obtain ⟨M, hM⟩ : ∃ M, Hid (rdM L = M) := ⟨_, rfl⟩
  obtain ⟨x, hx⟩ : ∃ x, Hid (rdE L = x) := ⟨_, rfl⟩
  obtain ⟨f, hf⟩ : ∃ f, Hid (wv L = f) := ⟨_, rfl⟩
  obtain ⟨y, hy⟩ : ∃ y, Hid (we L = y) := ⟨_, rfl⟩
  have hok : MgOK M := by rw [← hM.out]; exact rdM_ok hS.bts
  have EQ := eq41 f
  have EM : ∀ u, (binOp .eql 27 (.agg M.arr) (.agg M.arr)).run Try.prog u = .ok (.bool true) u := fun u => by rw [run_eq27 hok hok]; simp
  go_enter Try.func4, Try.ntmps4
  go_upto_region 2 with (first
    | (go_at_call 12; go_must (refine (readC hS hM hx).mono ?_; rintro e w1 ⟨rfl, hb1⟩))
    | (refine atS 27 (.tmp 3) (.tmp 14) ?_; refine st27n (by rfl) (.tmp 3) (.tmp 14) (by rfl) w1 w1.heap.size rfl hsz0 M (by rfl) (by rfl) hok ?_))
  have A1 := Arr.new w1 27 M.arr
  have B1 := hb1.alloc hb1.size (.cells M.arr 27)
  generalize hG : w1.heap.size = G at A1 ⊢
  generalize w1.alloc (.cells M.arr 27) = V1 at A1 B1 ⊢
  clear hG hb1
  go_upto_region 3 with (first
    | (go_at_call 13; go_must (refine (refReadC (hS.below B1) hM hx).mono ?_; rintro e w2 ⟨rfl, hb2⟩))
    | (refine atS 27 (.tmp 5) (.tmp 19) ?_; refine st27n (by rfl) (.tmp 5) (.tmp 19) (by rfl) w2 w2.heap.size rfl hsz0 M (by rfl) (by rfl) hok ?_))
  have A2 := (A1.bel hb2).alloc (.cells M.arr 27)
  have C2 := Arr.new w2 27 M.arr
  have B2 := (B1.trans (hb2.mono B1.size)).alloc ((B1.trans (hb2.mono B1.size)).size) (.cells M.arr 27)
  generalize hG : w2.heap.size = G2 at C2 ⊢
  generalize w2.alloc (.cells M.arr 27) = V2 at A2 B2 C2 ⊢
  clear hG hb2 A1 B1
  go_upto_region 4 with (first
    | (go_at_call 14; go_must (refine (wordsC (hS.below B2) hy hf).mono ?_; rintro e w3 ⟨rfl, hb3⟩))
    | (refine atS 41 (.tmp 7) (.tmp 24) ?_; refine st41n (by rfl) (.tmp 7) (.tmp 24) (by rfl) w3 w3.heap.size rfl (by rfl) (u64s 13 f) (by rfl) (by rfl) (u64s_size _ _) (u64s_one _ _) ?_))
  have A3 := (A2.bel hb3).alloc (.cells (u64s 13 f) 41)
  have C3 := (C2.bel hb3).alloc (.cells (u64s 13 f) 41)
  have D3 := Arr.new w3 41 (u64s 13 f)
  have B3 := (B2.trans (hb3.mono B2.size)).alloc ((B2.trans (hb3.mono B2.size)).size) (.cells (u64s 13 f) 41)
  generalize hG : w3.heap.size = G3 at D3 ⊢
  generalize w3.alloc (.cells (u64s 13 f) 41) = V3 at A3 B3 C3 D3 ⊢
  clear hG hb3 A2 B2 C2
  go_upto_region 5 with (first
    | (go_at_call 15; go_must (refine (refWordsC (hS.below B3) hy hf).mono ?_; rintro e w4 ⟨rfl, hb4⟩))
    | (refine atS 41 (.tmp 9) (.tmp 29) ?_; refine st41n (by rfl) (.tmp 9) (.tmp 29) (by rfl) w4 w4.heap.size rfl (by rfl) (u64s 13 f) (by rfl) (by rfl) (u64s_size _ _) (u64s_one _ _) ?_))
  have A4 := (A3.bel hb4).alloc (.cells (u64s 13 f) 41)
  have C4 := (C3.bel hb4).alloc (.cells (u64s 13 f) 41)
  have D4 := (D3.bel hb4).alloc (.cells (u64s 13 f) 41)
  have E4 := Arr.new w4 41 (u64s 13 f)
  have B4 := (B3.trans (hb4.mono B3.size)).alloc ((B3.trans (hb4.mono B3.size)).size) (.cells (u64s 13 f) 41)
  generalize hG : w4.heap.size = G4 at E4 ⊢
  generalize w4.alloc (.cells (u64s 13 f) 41) = V4 at A4 B4 C4 D4 E4 ⊢
  clear hG hb4 A3 B3 C3 D3
  go_wp2_with (first
    | (refine atL 27 (.tmp 3) ?_; refine ld27 (by rfl) (.tmp 3) (by rfl) G 27 (by rfl) M hok A4 ?_)
    | (refine atL 27 (.tmp 5) ?_; refine ld27 (by rfl) (.tmp 5) (by rfl) G2 27 (by rfl) M hok C4 ?_)
    | (refine atL 41 (.tmp 7) ?_; refine ld41 (by rfl) (.tmp 7) (by rfl) G3 41 (by rfl) f D4 ?_)
    | (refine atL 41 (.tmp 9) ?_; refine ld41 (by rfl) (.tmp 9) (by rfl) G4 41 (by rfl) f E4 ?_)
    | (go_at_call 11; go_must (refine (anchored_any _).mono ?_; rintro e w5 ⟨rfl, hb5⟩; have B5 := B4.trans (hb5.mono B4.size))))
  go_ret
  exact ⟨rfl, B5⟩
end Go.Proofs.Ytoanfiikeeacdaa
