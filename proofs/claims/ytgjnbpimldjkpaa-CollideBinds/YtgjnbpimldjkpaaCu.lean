/- Layer collide: the walk of CollideBinds. -/
import Derived.Test.YtgjnbpimldjkpaaCt
import Derived.Test.YtgjnbpimldjkpaaCs0
import Derived.Test.YtgjnbpimldjkpaaCk
namespace Go.Proofs.Ytgjnbpimldjkpaa
open Go.RowKit
set_option linter.unusedVariables false
set_option linter.unusedSimpArgs false

set_option maxRecDepth 100000 in
set_option maxHeartbeats 4000000 in
theorem binds_walk (i : Int) (A B : List Int) (sp sp' : Option Addr) (n cap n' cap' : Nat) (ls ls' : List (List Int)) (hA : A.length = 32) (hB : B.length = 32) (bA : Bts A) (bB : Bts B) (bl : ∀ Y ∈ ls, Bts Y) (bl' : ∀ Y ∈ ls', Bts Y) (w : World) (hS : HS w.heap.size w sp n cap ls) (hS' : HS w.heap.size w sp' n' cap' ls') :
    Calls Try.prog 4 #[.int .i64 i, .agg (twoA A B sp n cap sp' n' cap')] w fun e w' => e = .returned (.bool true) ∧ Below w.heap.size w w' := by
  have T0 := TW.of_arr (Arr.new w 32 (twoA A B sp n cap sp' n' cap')) hA hB
  have hB0 := alloc_bel' w (.cells (twoA A B sp n cap sp' n' cap') 32)
  have hp1 := Hid.mk' (fun (u : World) (h : HS w.heap.size u sp n cap ls) => path_any i A w.heap.size sp n cap ls u hA bA h bl)
  have hp2 := Hid.mk' (fun (u : World) (h : HS w.heap.size u sp n cap ls) => refPath_any i A w.heap.size sp n cap ls u hA bA h bl)
  have hbi := Hid.mk' (fun (u : World) (h : HS w.heap.size u sp n cap ls) (h' : HS w.heap.size u sp' n' cap' ls') => bind_any i A B sp sp' n cap n' cap' ls ls' hA hB bA bB bl bl' w.heap.size u h h')
  have hbr := Hid.mk' (fun (u : World) (h : HS w.heap.size u sp n cap ls) (h' : HS w.heap.size u sp' n' cap' ls') => refBind_any i A B sp sp' n cap n' cap' ls ls' hA hB bA bB bl bl' w.heap.size u h h')
  replace bl := Hid.mk' bl
  replace bl' := Hid.mk' bl'
  have ca := T0.ca
  have cb := T0.cb
  go_enter Try.func4, Try.ntmps4
  go_upto_region 2 with (first
    | (refine ld24 (by rfl) (.tmp 17) (by rfl) w.heap.size 0 (by rfl) A hA T0.ra ?_)
    | (go_at_call 10; go_must (refine (hp1.out _ (hS.below hB0)).mono ?_; rintro r w1 ⟨p1, n1, c1, es1, rfl, hE1, hbs1, hsm1, -, hb1⟩)))
  have hB1 := hB0.trans (hb1.mono hB0.size)
  have T1 := T0.bel hb1
  clear ca cb
  have ca := T1.ca
  have cb := T1.cb
  go_upto_region 3 with (first
    | (refine ld24 (by rfl) (.tmp 26) (by rfl) w.heap.size 0 (by rfl) A hA T1.ra ?_)
    | (go_at_call 11; go_must (refine (hp2.out _ (hS.below hB1)).mono ?_; rintro r w2 ⟨p2, n2, c2, es2, rfl, hE2, hbs2, hsm2, -, hb2⟩)))
  have hB2 := hB1.trans (hb2.mono hB1.size)
  have T2 := T1.bel hb2
  have hn12 : n2 = n1 := by
    have h1 := hE1.len.out
    have h2 := hE2.len.out
    have h3 : es1.length = es2.length := by rw [← List.length_map (f := En.bs), ← List.length_map (f := En.bs), hbs1.out, hbs2.out]
    omega
  subst hn12
  clear ca cb
  have ca := T2.ca
  have cb := T2.cb
  go_upto_region 4 with (first
    | (refine ld24 (by rfl) (.tmp 35) (by rfl) w.heap.size 0 (by rfl) A hA T2.ra ?_)
    | (refine ld24 (by rfl) (.tmp 39) (by rfl) w.heap.size 32 (by rfl) B hB T2.rb ?_)
    | (go_at_call 12; go_must (refine (hbi.out _ (hS.below hB2) (hS'.below hB2)).mono ?_; rintro r w3 ⟨x1, k1, d1, y1, l1, f1, rfl, hx1, hy1, hb3⟩)))
  have hB3 := hB2.trans (hb3.mono hB2.size)
  have T3 := T2.bel hb3
  clear ca cb
  have ca := T3.ca
  have cb := T3.cb
  go_upto_region 5 with (first
    | (refine ld24 (by rfl) (.tmp 49) (by rfl) w.heap.size 0 (by rfl) A hA T3.ra ?_)
    | (refine ld24 (by rfl) (.tmp 53) (by rfl) w.heap.size 32 (by rfl) B hB T3.rb ?_)
    | (go_at_call 13; go_must (refine (hbr.out _ (hS.below hB3) (hS'.below hB3)).mono ?_; rintro r w4 ⟨x2, k2, d2, y2, l2, f2, rfl, hx2, hy2, hb4⟩)))
  have hB4 := hB3.trans (hb4.mono hB3.size)
  have E1 := (((hE1.below hb2).here.below hb3).here.below hb4).here
  have E2 := ((hE2.below hb3).here.below hb4).here
  have X1 := (hx1.below hb4).here
  have Y1 := (hy1.below hb4).here
  have hsame := Hid.mk' (same5_true _ _ p1 p2 n2 c1 c2 es1 es2 w4 E1 E2 (by rw [hbs1.out, hbs2.out]) hsm1.out hsm2.out)
  obtain ⟨o, hoe⟩ : ∃ o, o = bindO i A ls B ls' := ⟨_, rfl⟩
  rw [← hoe] at X1 Y1 hx2 hy2 ⊢
  clear hoe hx1 hy1
  obtain ⟨ob, hob⟩ : ∃ b, b = o.isSome := ⟨_, rfl⟩
  rw [← hob]
  clear hob
  obtain ⟨fe, hfe⟩ : ∃ e, e = foE i ls := ⟨_, rfl⟩
  rw [← hfe]
  clear hfe
  have h1 := fun (u : World) (h : Below w4.heap.size w4 u) => same01_any x1 x2 k1 k2 d1 d2 (o.elim [] Prod.fst) (o.elim [] Prod.fst) _ _ u (X1.below h) (hx2.below h)
  have h2 := fun (u : World) (h : Below w4.heap.size w4 u) => same01_any y1 y2 l1 l2 f1 f2 (o.elim [] Prod.snd) (o.elim [] Prod.snd) _ _ u (Y1.below h) (hy2.below h)
  rw [decide_eq_true rfl] at h1 h2
  replace h1 := Hid.mk' h1
  replace h2 := Hid.mk' h2
  have e1 : (fe == fe) = true := by simp
  have e2 : (ob == ob) = true := by simp
  clear ca cb T0 T1 T2 T3 hE1 hE2 hbs1 hbs2 hsm1 hsm2 X1 Y1 hx2 hy2 E1 E2
  go_wp2_with (first
    | (go_at_call 14; go_must (refine hsame.out.mono ?_; rintro r w5 ⟨rfl, hb5⟩))
    | (go_at_call 15; go_must (first | (refine (h1.out w5 hb5).mono ?_; rintro r w6 ⟨rfl, h56⟩; cases h56) | (refine (h2.out w5 hb5).mono ?_; rintro r w6 ⟨rfl, h56⟩; cases h56)))
    | (go_at_call 9; go_must (refine (anchored_any w5).mono ?_; rintro r w7 ⟨rfl, hb7⟩)))
  go_ret
  have hB5 := hB4.trans (hb5.mono hB4.size)
  exact ⟨rfl, hB5.trans (hb7.mono hB5.size)⟩
end Go.Proofs.Ytgjnbpimldjkpaa
