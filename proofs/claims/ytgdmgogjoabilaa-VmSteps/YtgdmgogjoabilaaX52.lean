/- Layer vm: the law VmSteps. -/
import Derived.Test.YtgdmgogjoabilaaX51
namespace Go.Proofs.Ytgdmgogjoabilaa
open Go.RowKit
set_option maxRecDepth 100000
set_option linter.unusedVariables false
set_option linter.unusedSimpArgs false

theorem mayV {m : Mc} {C : Array Value} {w : World} (h : MV w m C) : Calls Try.prog 20 #[.agg C] w fun e w' => e = .returned (.bool (mayM m)) ∧ Below w.heap.size w w' := by
  obtain ⟨sp, n, cap, rfl, hM⟩ := h.ex
  exact may_any m sp n cap w h.ok hM.len hM.small
set_option maxHeartbeats 4000000 in
theorem steps_walk (m k : Mc) (C D : Array Value) (sq : Option Addr) (nk ck : Nat) (es : List En) (w : World) (V0 : MV w m C) (Y0 : MV w k D) (hS0 : ES w.heap.size w sq nk ck es) :
    Calls Try.prog 4 #[.agg C, .agg D, .slice sq nk ck] w fun e w' => e = .returned (.bool true) ∧ Below w.heap.size w w' := by
  have hB := (alloc_bel' w (.cells C 45)).alloc (by simp) (.cells D 45)
  have A0 := (Arr.new w 45 C).alloc (.cells D 45)
  have A1 := Arr.new (w.alloc (.cells C 45)) 45 D
  simp only [World.size_alloc] at A1
  have hS := hS0.bel hB
  have V := V0.bel hB
  have Y := Y0.bel hB
  have zC := V.size
  have zD := Y.size
  clear hS0 V0 Y0
  generalize hR : rO es m 1 = R
  replace hR := Hid.mk' hR
  go_enter Try.func4, Try.ntmps4
  go_upto_region 2 with (first
    | (refine atL 45 (.tmp 3) (by rfl) ?_; refine ld45 (by rfl) (.tmp 3) (by rfl) w.heap.size (by rfl) C zC A0 ?_)
    | (go_at_call 17; go_must (refine (stepV V hS).mono ?_; rintro e wa ⟨Da, rfl, Va, ba⟩; rw [hR.out] at Va ⊢; have za := Va.size; have oa := Va.one; replace hS := hS.bel ba; replace V := V.bel ba; replace Y := Y.bel ba; replace A0 := A0.below ba A0.lt; replace A1 := A1.below ba A1.lt; replace hB := hB.trans (ba.mono hB.size)))
    | (refine atS 45 (.tmp 7) (.tmp 15) (by rfl) ?_; refine st45n (by rfl) (.tmp 7) (.tmp 15) (by rfl) wa wa.heap.size rfl (by rfl) Da (by rfl) (by rfl) za oa ?_))
  have Ba := Arr.new wa 45 Da
  have qa := alloc_bel' wa (.cells Da 45)
  replace Va := Va.bel qa
  replace hS := hS.bel qa
  replace V := V.bel qa
  replace Y := Y.bel qa
  replace A0 := A0.below qa A0.lt
  replace A1 := A1.below qa A1.lt
  replace hB := hB.alloc hB.size (.cells Da 45)
  go_upto_region 3 with (first
    | (refine atL 45 (.tmp 3) (by rfl) ?_; refine ld45 (by rfl) (.tmp 3) (by rfl) w.heap.size (by rfl) C zC A0 ?_)
    | (go_at_call 18; go_must (refine (refStepV V hS).mono ?_; rintro e wb ⟨Db, rfl, Vb, bb⟩; rw [hR.out] at Vb ⊢; have zb := Vb.size; have ob := Vb.one; replace V := V.bel bb; replace Y := Y.bel bb; replace A0 := A0.below bb A0.lt; replace A1 := A1.below bb A1.lt; replace Ba := Ba.below bb Ba.lt; replace Va := Va.bel bb; replace hB := hB.trans (bb.mono hB.size)))
    | (refine atS 45 (.tmp 9) (.tmp 21) (by rfl) ?_; refine st45n (by rfl) (.tmp 9) (.tmp 21) (by rfl) wb wb.heap.size rfl (by rfl) Db (by rfl) (by rfl) zb ob ?_))
  have Bb := Arr.new wb 45 Db
  have qb := alloc_bel' wb (.cells Db 45)
  replace Va := Va.bel qb
  replace Vb := Vb.bel qb
  replace V := V.bel qb
  replace Y := Y.bel qb
  replace A0 := A0.below qb A0.lt
  replace A1 := A1.below qb A1.lt
  replace Ba := Ba.below qb Ba.lt
  replace hB := hB.alloc hB.size (.cells Db 45)
  generalize wb.alloc (.cells Db 45) = U at Va Vb V Y A0 A1 Ba Bb hB ⊢
  generalize wb.heap.size = gb at Bb ⊢
  generalize wa.heap.size = ga at Ba ⊢
  generalize hmm : mayM m = bm
  generalize hsm : smB m k = bs
  replace hmm := Hid.mk' hmm
  replace hsm := Hid.mk' hsm
  refine wp_region_held_drew (S := fun u => Below U.heap.size U u) (by kernel_rfl) ((Below.refl _ _).drew) (fun hHeld => ?_)
  refine wpAnyH_take (i := 0) (oi := ⟨_, _, _, _, _, _⟩) rfl (by kernel_rfl) (by kernel_rfl) (by kernel_rfl) (fun _ _ _ h => h) (y45 (by rfl) (.tmp 7) rfl ga rfl Da za (fun u hu => Ba.below hu Ba.lt)) (by assumption) ?_
  try simp only [Act.put, List.setIfInBounds_toArray, List.set_cons_zero, List.set_cons_succ]
  refine wpAnyH_take (i := 1) (oi := ⟨_, _, _, _, _, _⟩) rfl (by kernel_rfl) (by kernel_rfl) (by kernel_rfl) (fun _ _ _ h => h) (y45 (by rfl) (.tmp 9) rfl gb rfl Db zb (fun u hu => Bb.below hu Bb.lt)) (by assumption) ?_
  try simp only [Act.put, List.setIfInBounds_toArray, List.set_cons_zero, List.set_cons_succ]
  refine wpAnyH_ready (rs := [2]) (by kernel_rfl) (by simp) ?_
  refine AllReadyH.cons (o := ⟨_, _, _, _, _, _⟩) rfl (fun K hK => ?_) AllReadyH.nil
  go_simp
  refine (refSameV (Va.bel ((Below.refl U.heap.size U).drew)) (Vb.bel ((Below.refl U.heap.size U).drew))).mono ?_
  rintro e u1 ⟨rfl, k1⟩
  rw [smB_self]
  have h1 : Below U.heap.size U u1 := ((Below.refl U.heap.size U).drew).trans (k1.mono ((Below.refl U.heap.size U).drew).size)
  go_wp2_with fail
  refine hK.out _ _ h1 (fun hHeld => ?_)
  clear hK K
  try simp only [Act.put, List.setIfInBounds_toArray, List.set_cons_zero, List.set_cons_succ]
  refine wpAnyH_take (i := 3) (oi := ⟨_, _, _, _, _, _⟩) (v := ?_) rfl (by kernel_rfl) (by kernel_rfl) (by kernel_rfl) (fun _ _ _ h => h) (Or.inl ⟨by rfl, ?_⟩) (by assumption) ?_
  rotate_left
  · intro u hSw
    go_simp
    try (with_reducible rfl)
  try simp only [Act.put, List.setIfInBounds_toArray, List.set_cons_zero, List.set_cons_succ]
  refine wpAnyH_take (i := 4) (oi := ⟨_, _, _, _, _, _⟩) (v := ?_) rfl (by kernel_rfl) (by kernel_rfl) (by kernel_rfl) (fun _ _ _ h => h) (Or.inl ⟨by rfl, ?_⟩) (by assumption) ?_
  rotate_left
  · intro u hSw
    go_simp
    try (with_reducible rfl)
  try simp only [Act.put, List.setIfInBounds_toArray, List.set_cons_zero, List.set_cons_succ]
  refine wpAnyH_take (i := 5) (oi := ⟨_, _, _, _, _, _⟩) (v := ?_) rfl (by kernel_rfl) (by kernel_rfl) (by kernel_rfl) (fun _ _ _ h => h) (Or.inl ⟨by rfl, ?_⟩) (by assumption) ?_
  rotate_left
  · intro u hSw
    go_simp
    try (with_reducible rfl)
  try simp only [Act.put, List.setIfInBounds_toArray, List.set_cons_zero, List.set_cons_succ]
  refine wpAnyH_take (i := 6) (oi := ⟨_, _, _, _, _, _⟩) (v := ?_) rfl (by kernel_rfl) (by kernel_rfl) (by kernel_rfl) (fun _ _ _ h => h) (Or.inl ⟨by rfl, ?_⟩) (by assumption) ?_
  rotate_left
  · intro u hSw
    go_simp
    try (with_reducible rfl)
  try simp only [Act.put, List.setIfInBounds_toArray, List.set_cons_zero, List.set_cons_succ]
  refine wpAnyH_take (i := 7) (oi := ⟨_, _, _, _, _, _⟩) (v := ?_) rfl (by kernel_rfl) (by kernel_rfl) (by kernel_rfl) (fun _ _ _ h => h) (Or.inl ⟨by rfl, ?_⟩) (by assumption) ?_
  rotate_left
  · intro u hSw
    go_simp
    try (with_reducible rfl)
  try simp only [Act.put, List.setIfInBounds_toArray, List.set_cons_zero, List.set_cons_succ]
  refine wpAnyH_take (i := 8) (oi := ⟨_, _, _, _, _, _⟩) (v := ?_) rfl (by kernel_rfl) (by kernel_rfl) (by kernel_rfl) (fun _ _ _ h => h) (Or.inl ⟨by rfl, ?_⟩) (by assumption) ?_
  rotate_left
  · intro u hSw
    go_simp
    try (with_reducible rfl)
  try simp only [Act.put, List.setIfInBounds_toArray, List.set_cons_zero, List.set_cons_succ]
  refine wpAnyH_take (i := 9) (oi := ⟨_, _, _, _, _, _⟩) rfl (by kernel_rfl) (by kernel_rfl) (by kernel_rfl) (fun _ _ _ h => h) (y45 (by rfl) (.tmp 3) rfl w.heap.size rfl C zC (fun u hu => A0.below hu A0.lt)) (by assumption) ?_
  try simp only [Act.put, List.setIfInBounds_toArray, List.set_cons_zero, List.set_cons_succ]
  refine wpAnyH_take (i := 11) (oi := ⟨_, _, _, _, _, _⟩) rfl (by kernel_rfl) (by kernel_rfl) (by kernel_rfl) (fun _ _ _ h => h) (y45 (by rfl) (.tmp 3) rfl w.heap.size rfl C zC (fun u hu => A0.below hu A0.lt)) (by assumption) ?_
  try simp only [Act.put, List.setIfInBounds_toArray, List.set_cons_zero, List.set_cons_succ]
  refine wpAnyH_ready (rs := [10]) (by kernel_rfl) (by simp) ?_
  refine AllReadyH.cons (o := ⟨_, _, _, _, _, _⟩) rfl (fun K hK => ?_) AllReadyH.nil
  go_simp
  refine (mayV (V.bel h1)).mono ?_
  rintro e u2 ⟨rfl, k2⟩
  rw [hmm.out]
  have h2 : Below U.heap.size U u2 := h1.trans (k2.mono h1.size)
  go_wp2_with fail
  refine hK.out _ _ h2 (fun hHeld => ?_)
  clear hK K
  try simp only [Act.put, List.setIfInBounds_toArray, List.set_cons_zero, List.set_cons_succ]
  refine wpAnyH_ready (rs := [12]) (by kernel_rfl) (by simp) ?_
  refine AllReadyH.cons (o := ⟨_, _, _, _, _, _⟩) rfl (fun K hK => ?_) AllReadyH.nil
  go_simp
  refine (refMayV (V.bel h2)).mono ?_
  rintro e u3 ⟨rfl, k3⟩
  rw [hmm.out]
  have h3 : Below U.heap.size U u3 := h2.trans (k3.mono h2.size)
  go_wp2_with fail
  refine hK.out _ _ h3 (fun hHeld => ?_)
  clear hK K
  try simp only [Act.put, List.setIfInBounds_toArray, List.set_cons_zero, List.set_cons_succ]
  refine wpAnyH_take (i := 13) (oi := ⟨_, _, _, _, _, _⟩) (v := ?_) rfl (by kernel_rfl) (by kernel_rfl) (by kernel_rfl) (fun _ _ _ h => h) (Or.inl ⟨by rfl, ?_⟩) (by assumption) ?_
  rotate_left
  · intro u hSw
    go_simp
    try (with_reducible rfl)
  try simp only [Act.put, List.setIfInBounds_toArray, List.set_cons_zero, List.set_cons_succ]
  refine wpAnyH_take (i := 14) (oi := ⟨_, _, _, _, _, _⟩) (v := ?_) rfl (by kernel_rfl) (by kernel_rfl) (by kernel_rfl) (fun _ _ _ h => h) (Or.inl ⟨by rfl, ?_⟩) (by assumption) ?_
  rotate_left
  · intro u hSw
    go_simp
    try (with_reducible rfl)
  try simp only [Act.put, List.setIfInBounds_toArray, List.set_cons_zero, List.set_cons_succ]
  refine wpAnyH_take (i := 15) (oi := ⟨_, _, _, _, _, _⟩) (v := ?_) rfl (by kernel_rfl) (by kernel_rfl) (by kernel_rfl) (fun _ _ _ h => h) (Or.inl ⟨by rfl, ?_⟩) (by assumption) ?_
  rotate_left
  · intro u hSw
    go_simp
    try (with_reducible rfl)
  try simp only [Act.put, List.setIfInBounds_toArray, List.set_cons_zero, List.set_cons_succ]
  refine wpAnyH_take (i := 16) (oi := ⟨_, _, _, _, _, _⟩) rfl (by kernel_rfl) (by kernel_rfl) (by kernel_rfl) (fun _ _ _ h => h) (y45 (by rfl) (.tmp 3) rfl w.heap.size rfl C zC (fun u hu => A0.below hu A0.lt)) (by assumption) ?_
  try simp only [Act.put, List.setIfInBounds_toArray, List.set_cons_zero, List.set_cons_succ]
  refine wpAnyH_take (i := 17) (oi := ⟨_, _, _, _, _, _⟩) rfl (by kernel_rfl) (by kernel_rfl) (by kernel_rfl) (fun _ _ _ h => h) (y45 (by rfl) (.tmp 4) rfl (w.heap.size + 1) rfl D zD (fun u hu => A1.below hu A1.lt)) (by assumption) ?_
  try simp only [Act.put, List.setIfInBounds_toArray, List.set_cons_zero, List.set_cons_succ]
  refine wpAnyH_take (i := 19) (oi := ⟨_, _, _, _, _, _⟩) rfl (by kernel_rfl) (by kernel_rfl) (by kernel_rfl) (fun _ _ _ h => h) (y45 (by rfl) (.tmp 3) rfl w.heap.size rfl C zC (fun u hu => A0.below hu A0.lt)) (by assumption) ?_
  try simp only [Act.put, List.setIfInBounds_toArray, List.set_cons_zero, List.set_cons_succ]
  refine wpAnyH_take (i := 20) (oi := ⟨_, _, _, _, _, _⟩) rfl (by kernel_rfl) (by kernel_rfl) (by kernel_rfl) (fun _ _ _ h => h) (y45 (by rfl) (.tmp 4) rfl (w.heap.size + 1) rfl D zD (fun u hu => A1.below hu A1.lt)) (by assumption) ?_
  try simp only [Act.put, List.setIfInBounds_toArray, List.set_cons_zero, List.set_cons_succ]
  refine wpAnyH_ready (rs := [18]) (by kernel_rfl) (by simp) ?_
  refine AllReadyH.cons (o := ⟨_, _, _, _, _, _⟩) rfl (fun K hK => ?_) AllReadyH.nil
  go_simp
  refine (sameV (V.bel h3) (Y.bel h3)).mono ?_
  rintro e u4 ⟨rfl, k4⟩
  rw [hsm.out]
  have h4 : Below U.heap.size U u4 := h3.trans (k4.mono h3.size)
  go_wp2_with fail
  refine hK.out _ _ h4 (fun hHeld => ?_)
  clear hK K
  try simp only [Act.put, List.setIfInBounds_toArray, List.set_cons_zero, List.set_cons_succ]
  refine wpAnyH_ready (rs := [21]) (by kernel_rfl) (by simp) ?_
  refine AllReadyH.cons (o := ⟨_, _, _, _, _, _⟩) rfl (fun K hK => ?_) AllReadyH.nil
  go_simp
  refine (refSameV (V.bel h4) (Y.bel h4)).mono ?_
  rintro e u5 ⟨rfl, k5⟩
  rw [hsm.out]
  have h5 : Below U.heap.size U u5 := h4.trans (k5.mono h4.size)
  go_wp2_with fail
  refine hK.out _ _ h5 (fun hHeld => ?_)
  clear hK K
  try simp only [Act.put, List.setIfInBounds_toArray, List.set_cons_zero, List.set_cons_succ]
  refine wpAnyH_take (i := 22) (oi := ⟨_, _, _, _, _, _⟩) (v := ?_) rfl (by kernel_rfl) (by kernel_rfl) (by kernel_rfl) (fun _ _ _ h => h) (Or.inl ⟨by rfl, ?_⟩) (by assumption) ?_
  rotate_left
  · intro u hSw
    go_simp
    try (with_reducible rfl)
  try simp only [Act.put, List.setIfInBounds_toArray, List.set_cons_zero, List.set_cons_succ]
  refine wpAnyH_take (i := 23) (oi := ⟨_, _, _, _, _, _⟩) (v := ?_) rfl (by kernel_rfl) (by kernel_rfl) (by kernel_rfl) (fun _ _ _ h => h) (Or.inl ⟨by rfl, ?_⟩) (by assumption) ?_
  rotate_left
  · intro u hSw
    go_simp
    try (with_reducible rfl)
  try simp only [Act.put, List.setIfInBounds_toArray, List.set_cons_zero, List.set_cons_succ]
  refine wpAnyH_take (i := 24) (oi := ⟨_, _, _, _, _, _⟩) (v := ?_) rfl (by kernel_rfl) (by kernel_rfl) (by kernel_rfl) (fun _ _ _ h => h) (Or.inl ⟨by rfl, ?_⟩) (by assumption) ?_
  rotate_left
  · intro u hSw
    go_simp
    try (with_reducible rfl)
  try simp only [Act.put, List.setIfInBounds_toArray, List.set_cons_zero, List.set_cons_succ]
  refine wpAnyH_ready (rs := [25]) (by kernel_rfl) (by simp) ?_
  refine AllReadyH.cons (o := ⟨_, _, _, _, _, _⟩) rfl (fun K hK => ?_) AllReadyH.nil
  go_simp
  refine (anchored_any _).mono ?_
  rintro e u6 ⟨rfl, k6⟩
  have h6 : Below U.heap.size U u6 := h5.trans (k6.mono h5.size)
  go_wp2_with fail
  refine hK.out _ _ h6 (fun hHeld => ?_)
  clear hK K
  try simp only [Act.put, List.setIfInBounds_toArray, List.set_cons_zero, List.set_cons_succ]
  refine wpAnyH_take (i := 26) (oi := ⟨_, _, _, _, _, _⟩) (v := ?_) rfl (by kernel_rfl) (by kernel_rfl) (by kernel_rfl) (fun _ _ _ h => h) (Or.inl ⟨by rfl, ?_⟩) (by assumption) ?_
  rotate_left
  · intro u hSw
    go_simp
    try (with_reducible rfl)
  try simp only [Act.put, List.setIfInBounds_toArray, List.set_cons_zero, List.set_cons_succ]
  refine wpAnyH_take (i := 27) (oi := ⟨_, _, _, _, _, _⟩) (v := ?_) rfl (by kernel_rfl) (by kernel_rfl) (by kernel_rfl) (fun _ _ _ h => h) (Or.inl ⟨by rfl, ?_⟩) (by assumption) ?_
  rotate_left
  · intro u hSw
    go_simp
    try (with_reducible rfl)
  try simp only [Act.put, List.setIfInBounds_toArray, List.set_cons_zero, List.set_cons_succ]
  refine wpAnyH_done (by kernel_rfl) ?_ _
  go_wp2_with fail
  go_ret
  exact ⟨by simp, hB.trans (h6.mono hB.size)⟩
end Go.Proofs.Ytgdmgogjoabilaa
