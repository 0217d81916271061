/- Layer interp: statements that go on. -/
import Derived.Test.YtmljihggooaboaaIk
import Derived.Handy
import Derived.BigQuiet
import Derived.BigRegion
import Derived.Laws.MakeOwn
namespace Go.Proofs.Ytmljihggooaboaa
open Go.RowKit
set_option maxRecDepth 100000
set_option linter.unusedVariables false
set_option linter.unusedSimpArgs false

variable {N gr gw n : Nat} {p0 p1 kv mv : Value} {gv nv : Nat} {W V : List Int} {lf : Int} {d : Nat}
set_option maxHeartbeats 1000000 in
theorem stmts_on {sp : Option Addr} {m cap : Nat} {l : List (StT (d + 1))} (S : Nat → SS) (w : World) (hN : N ≤ w.heap.size) (hI : StI N gr gw n p0 p1 kv mv gv nv (S 0).W (S 0).V (S 0).lf w) (hS : RS N w 7 (StM N w (d + 1)) sp m cap l)
    (hst : ∀ (j : Nat) (t : StT (d + 1)) (u : World) (cs : List Value), l[j]? = some t → N ≤ u.heap.size → StI N gr gw n p0 p1 kv mv gv nv (S j).W (S j).V (S j).lf u → StM N u (d + 1) cs t → Calls Try.prog 35 (stArgs gr gv nv cs) u (StP N gr gw n p0 p1 kv mv gv nv ⟨0, 0, S (j + 1)⟩ u)) :
    Calls Try.prog 27 #[.pointer (some ⟨gr, 0, none⟩), .slice sp m cap, .slice (some ⟨gv, 0, none⟩) nv nv] w (StP N gr gw n p0 p1 kv mv gv nv ⟨0, 0, S m⟩ w) := by
  have hlen := hS.len
  have hsm := hS.small
  go_enter Try.func27, Try.ntmps27
  go_upto_region 1 with fail
  go_loopw [10] (fun i wr => ∃ j : Nat, i = .int .i64 (j : Int) ∧ j ≤ m ∧ StI N gr gw n p0 p1 kv mv gv nv (S j).W (S j).V (S j).lf wr ∧ Ch (fun k => k = gr ∨ k = gw ∨ k = gv) w wr)
    (fun i _ => m - (intOf i).toNat)
  case atStart => exact ⟨0, rfl, by omega, hI, Ch.refl _ _⟩
  case round =>
    obtain ⟨j, rfl, hj, hIj, hc⟩ := hrel
    have hlow := hI.low hN hc
    by_cases hlt : j < m
    · obtain ⟨t, ht⟩ : ∃ t, l[j]? = some t := ⟨l[j]'(by rw [← hlen.out]; exact hlt), List.getElem?_eq_getElem _⟩
      obtain ⟨g, off, rfl, hg, hR⟩ := hS.at0 (by omega)
      obtain ⟨cs, hrg, hM⟩ := hR j t ht
      have hrg2 := rb hrg hlow hg
      have hM2 := StM.below hlow (d + 1) cs t hM
      obtain ⟨xk, xv, xf, xt, xa, ya, za, xb, yb, zb, xc, yc, zc, rfl⟩ := hM.cells
      have c0 := hrg2 0 _ rfl
      have c1 := hrg2 1 _ rfl
      have c2 := hrg2 2 _ rfl
      have c3 := hrg2 3 _ rfl
      have c4 := hrg2 4 _ rfl
      have c5 := hrg2 5 _ rfl
      have c6 := hrg2 6 _ rfl
      simp only [Nat.add_zero] at c0
      have hlt' : (j : Int) < m := by omega
      have h0 : (0 : Int) ≤ j := by omega
      have hs := hlow.size
      have b1 := ab wr (.cells (stC xk xv xf xt (.slice xa ya za) (.slice xb yb zb) (.slice xc yc zc)).toArray 78)
      have hcc := hst j t _ _ ht (by have := b1.size; omega) (hIj.bl b1) (StM.below (b1.mono (by omega)) (d + 1) _ t hM2)
      have hc1 := hc.trans (Ch.ob b1)
      clear hS hR hrg hrg2 hM hM2 hst hlen ht hI hIj
      unfold stArgs at hcc
      unfold stC at *
      go_wp2_with (go_at_call 35; go_must (refine hcc.mono ?_; rintro e w1 ⟨he, hI1, hc2⟩; replace he : e = .returned (.tuple #[]) := he; subst he))
      go_roundw
      case rel => exact ⟨j + 1, by go_num, by omega, hI1, hc1.trans hc2⟩
      case measure => simp [intOf]; omega
    · obtain rfl : j = m := by omega
      clear hS hlen hst
      go_wp2_with fail
      go_end0
      exact ⟨rfl, hIj, hc⟩
end Go.Proofs.Ytmljihggooaboaa
