/- Layer msg: the law MsgBack. -/
import Derived.Test.YtoanfiikeeacdaaN
namespace Go.Proofs.Ytoanfiikeeacdaa
set_option linter.unusedSectionVars false
set_option maxHeartbeats 1000000
open Go.RowKit
set_option maxRecDepth 100000
set_option linter.unusedVariables false
set_option linter.unusedSimpArgs false

variable [DecidableEq Mg]
theorem rd_ne {L : List Int} (h : rdE L ≠ 0) : rdM L = mg0 := by
  unfold rdE at h
  unfold rdM
  by_cases h2 : L.length = 104 ∧ goodM L = true
  · rw [if_neg (by omega), if_pos h2] at h; exact absurd rfl h
  · rw [if_neg h2]
theorem rd_eq {L : List Int} (h : rdE L = 0) : L.length = 104 ∧ goodM L = true := by
  unfold rdE at h
  by_cases h1 : L.length < 104
  · rw [if_pos h1] at h; omega
  · rw [if_neg h1] at h
    by_cases h2 : L.length = 104 ∧ goodM L = true
    · exact h2
    · rw [if_neg h2] at h; omega
/-- The second half: what is read of the bytes, and written again. -/
def Half (L : List Int) (V : World) (G : Nat) : Prop := True
set_option maxHeartbeats 4000000 in
theorem back_walk (m : Mg) (sp : Option Addr) (n cap : Nat) (L : List Int) (w : World) (hm : MgOK m) (hS : BS w.heap.size w sp n cap L) : Calls Try.prog 5 #[.agg m.arr, .slice sp n cap] w fun e w' => e = .returned (.bool true) ∧ Below w.heap.size w w' := by
  have A0 := Arr.new w 27 m.arr
  have hB0 := alloc_bel' w (.cells m.arr 27)
  have hsz0 := Mg.size mg0_ok
  have z27 := zv27
  have hb0 := built27z
  have NQ : ∀ u, (binOp .neq 27 (.agg m.arr) (.agg m.arr)).run Try.prog u = .ok (.bool false) u := fun u => by rw [run_neq27 hm hm]; simp
  have E0 : ∀ u, (binOp .eql 27 (.agg mg0.arr) (.agg mg0.arr)).run Try.prog u = .ok (.bool true) u := fun u => by rw [run_eq27 mg0_ok mg0_ok]; simp
  obtain ⟨M, hM⟩ : ∃ M, Hid (rdM L = M) := ⟨_, rfl⟩
  obtain ⟨x, hx⟩ : ∃ x, Hid (rdE L = x) := ⟨_, rfl⟩
  have hok : MgOK M := by rw [← hM.out]; exact rdM_ok hS.bts
  have hlen := hS.len
  go_enter Try.func5, Try.ntmps5
  cases hmay : m.may
  case' false =>
    go_upto_region 6 with (first
      | (refine atL 27 (.tmp 2) ?_; refine ld27 (by rfl) (.tmp 2) (by rfl) w.heap.size 27 (by rfl) m hm A0 ?_)
      | (go_at_call 6; go_must (refine (write_any m _ hm).mono ?_; rintro e w1 ⟨sq, k, caq, rfl, S1, hb1⟩; have B1 := hB0.trans (hb1.mono (by simp)); rw [hmay])))
    generalize w1 = V at B1 ⊢
    clear S1 hb1
  case' true =>
    go_upto_region 3 with (first
      | (refine atL 27 (.tmp 2) ?_; refine ld27 (by rfl) (.tmp 2) (by rfl) w.heap.size 27 (by rfl) m hm A0 ?_)
      | (go_at_call 6; go_must (refine (writeC hm hmay _).mono ?_; rintro e w1 ⟨sq, caq, rfl, S1, hb1⟩; have A1 := A0.bel hb1; have B1 := hB0.trans (hb1.mono (by simp)))))
    have RM := Hid.mk' (rdM_bytes hm hmay)
    have RE := Hid.mk' (rdE_bytes hm hmay)
    go_upto_region 4 with (first
      | (go_at_call 12; go_must (refine (readC S1 RM RE).mono ?_; rintro e w2 ⟨rfl, hb2⟩))
      | (refine atS 27 (.tmp 7) (.tmp 23) ?_; refine st27n (by rfl) (.tmp 7) (.tmp 23) (by rfl) w2 w2.heap.size rfl hsz0 m (by rfl) (by rfl) hm ?_))
    have A2 := (A1.bel hb2).alloc (.cells m.arr 27)
    have C2 := Arr.new w2 27 m.arr
    have B2 := (B1.trans (hb2.mono B1.size)).alloc ((B1.trans (hb2.mono B1.size)).size) (.cells m.arr 27)
    generalize hG : w2.heap.size = G2 at C2 ⊢
    generalize w2.alloc (.cells m.arr 27) = V at A2 B2 C2 ⊢
    clear hG hb2 A1 B1 hb1
    go_upto_region 6 with (first
      | (refine atL 27 (.tmp 7) ?_; refine ld27 (by rfl) (.tmp 7) (by rfl) G2 27 (by rfl) m hm C2 ?_)
      | (refine atL 27 (.tmp 2) ?_; refine ld27 (by rfl) (.tmp 2) (by rfl) w.heap.size 27 (by rfl) m hm A2 ?_))
    have B1 := B2
    clear A2 B2 C2 S1
  all_goals
    go_upto_region 7 with (first
      | (go_at_call 12; go_must (refine (readC (hS.below B1) hM hx).mono ?_; rintro e w3 ⟨rfl, hb3⟩))
      | (refine atS 27 (.tmp 9) (.tmp 40) ?_; refine st27n (by rfl) (.tmp 9) (.tmp 40) (by rfl) w3 w3.heap.size rfl hsz0 M (by rfl) (by rfl) hok ?_))
    have A4 := Arr.new w3 27 M.arr
    have B4 := (B1.trans (hb3.mono B1.size)).alloc ((B1.trans (hb3.mono B1.size)).size) (.cells M.arr 27)
    generalize hG : w3.heap.size = G3 at A4 ⊢
    generalize w3.alloc (.cells M.arr 27) = V4 at A4 B4 ⊢
    clear hG hb3 B1
    by_cases h0 : x = 0
    · have hr := rd_eq (hx.out.trans h0)
      have hMe : M = mgOf L := by rw [← hM.out]; exact (rd_good hr.1 hr.2).1
      have hmm : M.may = true := by
        have := hr.2
        rw [hMe]; unfold goodM at this
        simp only [Bool.and_eq_true] at this
        exact this.2
      have hby : Hid (M.bytes = L) := Hid.mk' (by rw [hMe]; exact bytes_mgOf hS.bts hr.1 hr.2)
      clear hMe hr
      go_wp2_with (first
        | (refine atL 27 (.tmp 9) ?_; refine ld27 (by rfl) (.tmp 9) (by rfl) G3 27 (by rfl) M hok (by assumption) ?_)
        | (go_at_call 6; go_must (refine (writeC hok hmm _).mono ?_; rintro e w5 ⟨sz, caz, rfl, S5, hb5⟩; have A5 := A4.bel hb5; have B5 := B4.trans (hb5.mono B4.size); rw [hby.out] at S5; clear A4))
        | (go_at_call 11; go_must (refine (anchored_any _).mono ?_; rintro e w6 ⟨rfl, hb6⟩; have A6 := A5.bel hb6; have B6 := B5.trans (hb6.mono B5.size); have S6 := S5.below hb6; have T6 := hS.below B6; clear A5))
        | (go_at_call 10; go_must (refine (same01_any _ _ _ _ _ _ L L _ _ _ S6 T6).mono ?_; rintro e w7 ⟨rfl, rfl⟩; simp only [decide_true]))
        | (go_at_call 8; go_must (refine (may_any M _ hok).mono ?_; rintro e w8 ⟨rfl, hb8⟩; have B8 := B6.trans (hb8.mono B6.size))))
      go_ret
      exact ⟨rfl, B8⟩
    · have hMe : M = mg0 := by rw [← hM.out]; exact rd_ne (by rw [hx.out]; exact h0)
      subst hMe
      go_wp2_with (first
        | (refine atL 27 (.tmp 9) ?_; refine ld27 (by rfl) (.tmp 9) (by rfl) G3 27 (by rfl) mg0 mg0_ok (by assumption) ?_)
        | (refine atB 27 ?_; refine bdT (by rfl) 27 #[] (by rfl) (ps := []) (by rfl) hb0 ?_)
        | (go_at_call 11; go_must (refine (anchored_any _).mono ?_; rintro e w6 ⟨rfl, hb6⟩; have A6 := A4.bel hb6; have B6 := B4.trans (hb6.mono B4.size); clear A4)))
      go_ret
      exact ⟨rfl, B6⟩
end Go.Proofs.Ytoanfiikeeacdaa
