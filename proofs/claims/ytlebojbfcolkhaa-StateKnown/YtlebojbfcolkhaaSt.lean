/- Layer state: the law StateKnown. -/
import Derived.Test.YtlebojbfcolkhaaSs
import Derived.Test.YtlebojbfcolkhaaQi
import Derived.Test.YtlebojbfcolkhaaA30
import Derived.Test.YtlebojbfcolkhaaPr
namespace Go.Proofs.Ytlebojbfcolkhaa
open Go.RowKit
set_option maxRecDepth 100000
set_option linter.unusedVariables false
set_option linter.unusedSimpArgs false

set_option maxHeartbeats 1000000 in
theorem refKnown_no (ps : List Ac) (sp : Option Addr) (n cap : Nat) (os : List Ou) (w : World) (h1 : ps.length = 32) (hok : ∀ a ∈ ps, AcOK a) (hn : n ≤ 140737488355328) (hl : n = os.length) (hm : may ps n = false) :
    Calls Try.prog 33 #[.agg (stA ps sp n cap)] w (RKPost ps os w) := by
  have h2 : ∀ a ∈ ps, a.lk.length = 32 := fun a ha => (hok a ha).l32
  have A0 := Arr.new w 30 (stA ps sp n cap)
  have B0 := alloc_bel' w (.cells (stA ps sp n cap) 30)
  have hM := refMay_any ps sp n cap (w.alloc (.cells (stA ps sp n cap) 30)) h1 hok hn
  rw [hm] at hM
  have hfin : Hid (rtE ps os = 2 ∧ (if may ps os.length = true then knB ps os else []) = []) := Hid.mk' (by unfold rtE; rw [← hl, hm]; exact ⟨rfl, rfl⟩)
  clear hl
  replace hM := Hid.mk' hM
  go_enter Try.func33, Try.ntmps33
  go_wp2_with (first
    | (refine ld30 (by rfl) _ (by rfl) w.heap.size 30 (by rfl) ps sp n cap h1 h2 A0 ?_)
    | (go_at_call 14; go_must (refine hM.out.mono ?_; rintro e w1 ⟨rfl, hb1⟩)))
  go_ret2
  exact ⟨_, [], by rw [hfin.out.1]; rfl, EO.nil _ _ _, Hid.mk' (by rw [hfin.out.2]; rfl), Hid.mk' (fun e he => (by cases he)), B0.trans (hb1.mono (by simp))⟩
theorem refKnown_any (ps : List Ac) (N : Nat) (sp : Option Addr) (n cap : Nat) (os : List Ou) (w : World) (hS : SS N w ps sp n cap os) : Calls Try.prog 33 #[.agg (stA ps sp n cap)] w (RKPost ps os w) := by
  cases hm : may ps n
  · exact refKnown_no ps sp n cap os w hS.a32.out hS.ok.out hS.outs.small hS.outs.len.out hm
  · exact refKnown_ok ps N sp n cap os w hS hm
set_option maxHeartbeats 2000000 in
theorem known_walk (ps : List Ac) (sp : Option Addr) (n cap : Nat) (os : List Ou) (w : World) (hS : SS w.heap.size w ps sp n cap os) :
    Calls Try.prog 5 #[.agg (stA ps sp n cap)] w fun e w' => e = .returned (.bool true) ∧ Below w.heap.size w w' := by
  have h1 := hS.a32.out
  have h2 := hS.l32
  have A0 := Arr.new w 30 (stA ps sp n cap)
  have B0 := alloc_bel' w (.cells (stA ps sp n cap) 30)
  have hlo : os.length ≤ 140737488355328 := by rw [← hS.outs.len.out]; exact hS.outs.small
  obtain ⟨x, hx⟩ : ∃ x, Hid (rtE ps os = x) := ⟨_, rfl⟩
  go_enter Try.func5, Try.ntmps5
  go_upto_region 2 with (first
    | (refine ld30 (by rfl) _ (by rfl) w.heap.size 30 (by rfl) ps sp n cap h1 h2 A0 ?_)
    | (go_at_call 32; go_must (refine (known6_any ps _ sp n cap os _ (hS.below B0)).mono ?_; rintro r w1 ⟨s1, n1, c1, es, rfl, E1, hb1, hs1, hB1⟩; rw [hx.out]; have A1 := A0.bel hB1; have B1 := B0.trans (hB1.mono (by simp)); clear A0)))
  go_upto_region 3 with (first
    | (refine ld30 (by rfl) _ (by rfl) w.heap.size 30 (by rfl) ps sp n cap h1 h2 A1 ?_)
    | (go_at_call 33; go_must (refine (refKnown_any ps _ sp n cap os _ (hS.below B1)).mono ?_; intro r w2 hR; obtain ⟨s2, n2, c2, fs, rfl, E2, hb2, hs2, hB2⟩ := RKPost.k h1 hlo hR; rw [hx.out]; have B2 := B1.trans (hB2.mono B1.size); have E1' := E1.below hB2)))
  obtain rfl : n1 = n2 := by
    have e := congrArg List.length (hb1.out.trans hb2.out.symm)
    rw [List.length_map, List.length_map] at e
    rw [E1.len.out, E2.len.out, e]
  go_wp2_with (first
    | (go_at_call 34; go_must (refine (same5_l _ _ s1 s2 n1 c1 c2 es fs _ E1' E2 (by rw [hb1.out, hb2.out]) hs1.out hs2.out).mono ?_; rintro r w3 ⟨rfl, hb3⟩; have B3 := B2.trans (hb3.mono B2.size)))
    | (go_at_call 22; go_must (refine (anchored_any _).mono ?_; rintro r w4 ⟨rfl, hb4⟩; have B4 := B3.trans (hb4.mono B3.size))))
  go_ret
  exact ⟨rfl, B4⟩
end Go.Proofs.Ytlebojbfcolkhaa
