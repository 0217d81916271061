/- Layer vm: the law VmParts. -/
import Derived.Test.YtnjbmffgbgbjmaaX45
namespace Go.Proofs.Ytnjbmffgbgbjmaa
open Go.RowKit
set_option maxRecDepth 100000
set_option linter.unusedVariables false
set_option linter.unusedSimpArgs false


theorem rO_yes {es : List En} {m : Mc} {x : Nat} (hm : mayM m = true) (hx : x ≤ 4194304) : rO es m (x : Int) = ((rn es x m).1, ((rn es x m).2 : Int), 0) := by
  unfold rO
  rw [if_neg (by rw [hm]; simp), if_neg (by omega), Int.toNat_natCast]
theorem rO_may {es : List En} {m : Mc} {x : Int} (hm : mayM m = false) : rO es m x = (zM, 0, 2) := by simp [rO, hm]
theorem atL {P : Program} {ops : Array Oper} {Q : Exit → Act → World → Prop} {rest : List Oper} {o : Oper} {a : Act} {w : World} (ty : TypeId) (x : Operand) (ho : o.op = .load ty x) (h : wpList P ops Q (o :: rest) a w) : wpList P ops Q (o :: rest) a w := h
theorem atS {P : Program} {ops : Array Oper} {Q : Exit → Act → World → Prop} {rest : List Oper} {o : Oper} {a : Act} {w : World} (ty : TypeId) (x y : Operand) (ho : o.op = .store ty x y) (h : wpList P ops Q (o :: rest) a w) : wpList P ops Q (o :: rest) a w := h
/-- A machine by value, and its memory. -/
structure MV (w : World) (m : Mc) (C : Array Value) : Prop where
  ex : ∃ sp n cap, C = mcA m sp n cap ∧ MS w.heap.size w sp n cap m.me
  ok : m.ok
theorem MV.size {w : World} {m : Mc} {C : Array Value} (h : MV w m C) : C.size = 19 := by
  obtain ⟨sp, n, cap, rfl, -⟩ := h.ex
  exact mcA_size h.ok.r16 _ _ _
theorem MV.one {w : World} {m : Mc} {C : Array Value} (h : MV w m C) : C.all (·.oneCell') = true := by
  obtain ⟨sp, n, cap, rfl, -⟩ := h.ex
  exact mcA_one _ _ _ _
theorem MV.bel {w w' : World} {m : Mc} {C : Array Value} (h : MV w m C) (hb : Below w.heap.size w w') : MV w' m C := by
  obtain ⟨sp, n, cap, e, hM⟩ := h.ex
  exact ⟨⟨sp, n, cap, e, (hM.below hb).mono hb.size⟩, h.ok⟩
theorem MV.c17 {w : World} {m : Mc} {C : Array Value} (h : MV w m C) : C[17]? = some (.int .u8 m.st) := by
  obtain ⟨sp, n, cap, rfl, -⟩ := h.ex
  exact mcA_17 h.ok.r16 _ _ _
theorem runV {es : List En} {m : Mc} {C : Array Value} {sq : Option Addr} {nk ck : Nat} {x : Int} {w : World} (h : MV w m C) (hS : ES w.heap.size w sq nk ck es) (hx : -9223372036854775808 ≤ x ∧ x ≤ 9223372036854775807) :
    Calls Try.prog 23 #[.agg C, .slice sq nk ck, .int .i64 x] w fun e w' => ∃ D, e = .returned (.tuple #[.agg D, .int .i64 (rO es m x).2.1, .int .i64 (rO es m x).2.2]) ∧ MV w' (rO es m x).1 D ∧ Below w.heap.size w w' := by
  obtain ⟨sp, n, cap, rfl, hM⟩ := h.ex
  refine (run23_any m sp n cap sq nk ck x w h.ok hM hS hx).mono fun e w' ⟨sp1, n1, cap1, he, hok, hM1, hb, _⟩ => ⟨_, he, ⟨⟨sp1, n1, cap1, rfl, hM1⟩, hok⟩, hb⟩
theorem stepV {es : List En} {m : Mc} {C : Array Value} {sq : Option Addr} {nk ck : Nat} {w : World} (h : MV w m C) (hS : ES w.heap.size w sq nk ck es) :
    Calls Try.prog 17 #[.agg C, .slice sq nk ck] w fun e w' => ∃ D, e = .returned (.tuple #[.agg D, .int .i64 (rO es m 1).2.2]) ∧ MV w' (rO es m 1).1 D ∧ Below w.heap.size w w' := by
  obtain ⟨sp, n, cap, rfl, hM⟩ := h.ex
  refine (step17_any m sp n cap sq nk ck w h.ok hM hS).mono fun e w' ⟨sp1, n1, cap1, he, hok, hM1, hb, _⟩ => ⟨_, he, ⟨⟨sp1, n1, cap1, rfl, hM1⟩, hok⟩, hb⟩
theorem sameV {m k : Mc} {C D : Array Value} {w : World} (h : MV w m C) (h' : MV w k D) : Calls Try.prog 22 #[.agg C, .agg D] w fun e w' => e = .returned (.bool (smB m k)) ∧ Below w.heap.size w w' := by
  obtain ⟨sp, n, cap, rfl, hM⟩ := h.ex
  obtain ⟨sp', n', cap', rfl, hM'⟩ := h'.ex
  exact same_any m k sp n cap sp' n' cap' _ w h.ok h'.ok hM hM'
theorem refMayV {m : Mc} {C : Array Value} {w : World} (h : MV w m C) : Calls Try.prog 21 #[.agg C] w fun e w' => e = .returned (.bool (mayM m)) ∧ Below w.heap.size w w' := by
  obtain ⟨sp, n, cap, rfl, hM⟩ := h.ex
  exact refMay_any m sp n cap w h.ok hM.len hM.small
theorem ES.bel {es : List En} {sq : Option Addr} {nk ck : Nat} {w w' : World} (h : ES w.heap.size w sq nk ck es) (hb : Below w.heap.size w w') : ES w'.heap.size w' sq nk ck es := (h.below hb).mono hb.size

set_option maxHeartbeats 4000000 in
theorem parts_walk (m : Mc) (C : Array Value) (sq : Option Addr) (nk ck : Nat) (es : List En) (x y : Int) (w : World) (V0 : MV w m C) (hS0 : ES w.heap.size w sq nk ck es) (hx : 0 ≤ x ∧ x < 256) (hy : 0 ≤ y ∧ y < 256) :
    Calls Try.prog 7 #[.agg C, .slice sq nk ck, .agg #[.int .u8 x, .int .u8 y]] w fun e w' => e = .returned (.bool true) ∧ Below w.heap.size w w' := by
  obtain ⟨X, rfl⟩ : ∃ X : Nat, x = X := ⟨x.toNat, by omega⟩
  obtain ⟨Y, rfl⟩ : ∃ Y : Nat, y = Y := ⟨y.toNat, by omega⟩
  have hb0 := (alloc_bel' w (.cells C 45)).alloc (by simp) (.cells #[.int .u8 (X : Int), .int .u8 (Y : Int)] 63)
  have A0 := (Arr.new w 45 C).alloc (.cells #[.int .u8 (X : Int), .int .u8 (Y : Int)] 63)
  have A1 := Arr.new (w.alloc (.cells C 45)) 63 #[.int .u8 (X : Int), .int .u8 (Y : Int)]
  simp only [World.size_alloc] at A1
  have hS := hS0.bel hb0
  have V := V0.bel hb0
  have zC := V.size
  have p0 : ((w.alloc (.cells C 45)).alloc (.cells #[.int .u8 (X : Int), .int .u8 (Y : Int)] 63)).cell? ⟨w.heap.size + 1, 0, none⟩ = some (.int .u8 (X : Int)) := A1.cell 0
  have p1 : ((w.alloc (.cells C 45)).alloc (.cells #[.int .u8 (X : Int), .int .u8 (Y : Int)] 63)).cell? ⟨w.heap.size + 1, 1, none⟩ = some (.int .u8 (Y : Int)) := A1.cell 1
  have hwx : wrap64 (X : Int) = X := by unfold wrap64; omega
  have hwy : wrap64 (Y : Int) = Y := by unfold wrap64; omega
  clear hS0 V0
  go_enter Try.func7, Try.ntmps7
  go_upto_region 1 with fail
  refine wp_region_held_drew (S := fun u => u = ((w.alloc (.cells C 45)).alloc (.cells #[.int .u8 (X : Int), .int .u8 (Y : Int)] 63)).drew) (by kernel_rfl) (rfl) (fun hHeld => ?_)
  refine wpAnyH_take (i := 0) (oi := ⟨_, _, _, _, _, _⟩) (v := ?_) rfl (by kernel_rfl) (by kernel_rfl) (by kernel_rfl) (fun _ _ _ h => h) (Or.inl ⟨by rfl, ?_⟩) (by assumption) ?_
  rotate_left
  · intro u hSw
    go_simp
    try (with_reducible rfl)
  try simp only [Act.put, List.setIfInBounds_toArray, List.set_cons_zero, List.set_cons_succ]
  refine wpAnyH_take (i := 1) (oi := ⟨_, _, _, _, _, _⟩) (v := ?_) rfl (by kernel_rfl) (by kernel_rfl) (by kernel_rfl) (fun _ _ _ h => h) (Or.inl ⟨by rfl, ?_⟩) (by assumption) ?_
  rotate_left
  · intro u hSw
    subst hSw
    go_simp
    try (with_reducible rfl)
  try simp only [Act.put, List.setIfInBounds_toArray, List.set_cons_zero, List.set_cons_succ]
  refine wpAnyH_take (i := 2) (oi := ⟨_, _, _, _, _, _⟩) (v := ?_) rfl (by kernel_rfl) (by kernel_rfl) (by kernel_rfl) (fun _ _ _ h => h) (Or.inl ⟨by rfl, ?_⟩) (by assumption) ?_
  rotate_left
  · intro u hSw
    go_simp
    try (with_reducible rfl)
  try simp only [Act.put, List.setIfInBounds_toArray, List.set_cons_zero, List.set_cons_succ]
  refine wpAnyH_take (i := 3) (oi := ⟨_, _, _, _, _, _⟩) (v := ?_) rfl (by kernel_rfl) (by kernel_rfl) (by kernel_rfl) (fun _ _ _ h => h) (Or.inl ⟨by rfl, ?_⟩) (by assumption) ?_
  rotate_left
  · intro u hSw
    go_simp
    try (with_reducible rfl)
  try simp only [Act.put, List.setIfInBounds_toArray, List.set_cons_zero, List.set_cons_succ]
  refine wpAnyH_take (i := 4) (oi := ⟨_, _, _, _, _, _⟩) (v := ?_) rfl (by kernel_rfl) (by kernel_rfl) (by kernel_rfl) (fun _ _ _ h => h) (Or.inl ⟨by rfl, ?_⟩) (by assumption) ?_
  rotate_left
  · intro u hSw
    subst hSw
    go_simp
    try (with_reducible rfl)
  try simp only [Act.put, List.setIfInBounds_toArray, List.set_cons_zero, List.set_cons_succ]
  refine wpAnyH_take (i := 5) (oi := ⟨_, _, _, _, _, _⟩) (v := ?_) rfl (by kernel_rfl) (by kernel_rfl) (by kernel_rfl) (fun _ _ _ h => h) (Or.inl ⟨by rfl, ?_⟩) (by assumption) ?_
  rotate_left
  · intro u hSw
    go_simp
    try (with_reducible rfl)
  try simp only [Act.put, List.setIfInBounds_toArray, List.set_cons_zero, List.set_cons_succ]
  refine wpAnyH_take (i := 6) (oi := ⟨_, _, _, _, _, _⟩) (v := ?_) rfl (by kernel_rfl) (by kernel_rfl) (by kernel_rfl) (fun _ _ _ h => h) (Or.inl ⟨by rfl, ?_⟩) (by assumption) ?_
  rotate_left
  · intro u hSw
    go_simp
    try (with_reducible rfl)
  try simp only [Act.put, List.setIfInBounds_toArray, List.set_cons_zero, List.set_cons_succ]
  refine wpAnyH_take (i := 7) (oi := ⟨_, _, _, _, _, _⟩) (v := ?_) rfl (by kernel_rfl) (by kernel_rfl) (by kernel_rfl) (fun _ _ _ h => h) (Or.inl ⟨by rfl, ?_⟩) (by assumption) ?_
  rotate_left
  · intro u hSw
    go_simp
    try (with_reducible rfl)
  try simp only [Act.put, List.setIfInBounds_toArray, List.set_cons_zero, List.set_cons_succ]
  refine wpAnyH_done (by kernel_rfl) ?_ _
  have hB : Below w.heap.size w ((w.alloc (.cells C 45)).alloc (.cells #[.int .u8 (X : Int), .int .u8 (Y : Int)] 63)).drew := hb0.drew
  replace hS : ES ((w.alloc (.cells C 45)).alloc (.cells #[.int .u8 (X : Int), .int .u8 (Y : Int)] 63)).drew.heap.size ((w.alloc (.cells C 45)).alloc (.cells #[.int .u8 (X : Int), .int .u8 (Y : Int)] 63)).drew sq nk ck es := hS.bel ((Below.refl _ _).drew)
  replace V : MV ((w.alloc (.cells C 45)).alloc (.cells #[.int .u8 (X : Int), .int .u8 (Y : Int)] 63)).drew m C := V.bel ((Below.refl _ _).drew)
  replace A0 : Arr ((w.alloc (.cells C 45)).alloc (.cells #[.int .u8 (X : Int), .int .u8 (Y : Int)] 63)).drew w.heap.size 45 C := A0
  clear p0 p1 A1 hb0
  generalize ((w.alloc (.cells C 45)).alloc (.cells #[.int .u8 (X : Int), .int .u8 (Y : Int)] 63)).drew = U at hB hS V A0 ⊢
  cases hm : mayM m with
  | false =>
    have h1 : rO es m (X : Int) = (zM, 0, 2) := rO_may hm
    replace h1 := Hid.mk' h1
    replace hm := Hid.mk' hm
    go_wp2_with (first
      | (refine ld45 (by rfl) (.tmp 3) (by rfl) w.heap.size (by rfl) C zC A0 ?_)
      | (go_at_call 23; go_must (refine (runV V hS (x := (X : Int)) (by omega)).mono ?_; rintro e wa ⟨Dwa, rfl, Vwa, bwa⟩; rw [h1.out] at Vwa ⊢; replace A0 := A0.below bwa A0.lt; replace V := V.bel bwa; replace hS := hS.bel bwa; replace hB := hB.trans (bwa.mono hB.size); have zwa := Vwa.size; have owa := Vwa.one))
      | (refine st45n (by rfl) (.tmp 9) (.tmp 34) (by rfl) wa wa.heap.size rfl (by rfl) Dwa (by rfl) (by rfl) zwa owa ?_; have Bwa := Arr.new wa 45 Dwa; have qwa := alloc_bel' wa (.cells Dwa 45); replace A0 := A0.below qwa A0.lt; replace V := V.bel qwa; replace Vwa := Vwa.bel qwa; replace hS := hS.bel qwa; replace hB := hB.trans (qwa.mono hB.size))
      | (go_at_call 21; go_must (refine (refMayV V).mono ?_; rintro e wm ⟨rfl, bm⟩; rw [hm.out]; replace A0 := A0.below bm A0.lt; replace Bwa := Bwa.below bm Bwa.lt; replace V := V.bel bm; replace Vwa := Vwa.bel bm; replace hS := hS.bel bm; replace hB := hB.trans (bm.mono hB.size)))
      | (go_at_call 16; go_must (refine (anchored_any _).mono ?_; rintro e wn ⟨rfl, bn⟩; replace hB := hB.trans (bn.mono hB.size))))
    go_ret
    exact ⟨by simp, hB⟩
  | true =>
    rcases hr1 : rn es X m with ⟨a, s⟩
    rcases hr2 : rn es Y a with ⟨c, t'⟩
    have hma : mayM a = true := by have := rn_may (es := es) X m hm; rw [hr1] at this; exact this
    have hmc : mayM c = true := by have := rn_may (es := es) Y a hma; rw [hr2] at this; exact this
    have h1 : rO es m (X : Int) = (a, (s : Int), 0) := by rw [rO_yes hm (by omega), hr1]
    have h2 : rO es a (Y : Int) = (c, (t' : Int), 0) := by rw [rO_yes hma (by omega), hr2]
    have hr3 : rn es (X + Y) m = (c, s + t') := by rw [rn_add, hr1, hr2]
    have h3 : rO es m ((X : Int) + (Y : Int)) = (c, (s : Int) + (t' : Int), 0) := by
      rw [show (X : Int) + (Y : Int) = ((X + Y : Nat) : Int) by omega, rO_yes hm (by omega), hr3]
      simp
    have hsX : s ≤ X := by have := rn_le (es := es) X m; rw [hr1] at this; exact this
    have htY : t' ≤ Y := by have := rn_le (es := es) Y a; rw [hr2] at this; exact this
    have huA : c.st = 0 → s + t' = X + Y := fun h => by have := rn_all (es := es) (X + Y) m; rw [hr3] at this; exact this h
    have n1 : ¬ (X : Int) < s := by omega
    have n2 : ¬ (Y : Int) < t' := by omega
    have hYb : (X : Int) + Y ≤ 1000 := by omega
    have hst8 : (s : Int) + t' ≤ 1000 := by omega
    clear hr1 hr2 hr3 hma
    replace h1 := Hid.mk' h1
    replace h2 := Hid.mk' h2
    replace h3 := Hid.mk' h3
    replace hm := Hid.mk' hm
    replace huA := Hid.mk' huA
    go_upto_region 3 with (first
      | (refine atL 45 (.tmp 3) (by rfl) ?_; refine ld45 (by rfl) (.tmp 3) (by rfl) w.heap.size (by rfl) C zC A0 ?_)
      | (go_at_call 23; go_must (refine (runV V hS (x := (X : Int)) (by omega)).mono ?_; rintro e wa ⟨Dwa, rfl, Vwa, bwa⟩; rw [h1.out] at Vwa ⊢; replace A0 := A0.below bwa A0.lt; replace V := V.bel bwa; replace hS := hS.bel bwa; replace hB := hB.trans (bwa.mono hB.size); have zwa := Vwa.size; have owa := Vwa.one))
      | (refine atS 45 (.tmp 9) (.tmp 34) (by rfl) ?_; refine st45n (by rfl) (.tmp 9) (.tmp 34) (by rfl) wa wa.heap.size rfl (by rfl) Dwa (by rfl) (by rfl) zwa owa ?_; have Bwa := Arr.new wa 45 Dwa; have qwa := alloc_bel' wa (.cells Dwa 45); replace A0 := A0.below qwa A0.lt; replace V := V.bel qwa; replace Vwa := Vwa.bel qwa; replace hS := hS.bel qwa; replace hB := hB.trans (qwa.mono hB.size)))
    go_upto_region 5 with (first
      | (refine atL 45 (.tmp 3) (by rfl) ?_; refine ld45 (by rfl) (.tmp 3) (by rfl) w.heap.size (by rfl) C zC A0 ?_)
      | (go_at_call 21; go_must (refine (refMayV V).mono ?_; rintro e wm ⟨rfl, bm⟩; rw [hm.out]; replace A0 := A0.below bm A0.lt; replace Bwa := Bwa.below bm Bwa.lt; replace V := V.bel bm; replace Vwa := Vwa.bel bm; replace hS := hS.bel bm; replace hB := hB.trans (bm.mono hB.size))))
    go_upto_region 6 with (first
      | (refine atL 45 (.tmp 9) (by rfl) ?_; refine ld45 (by rfl) (.tmp 9) (by rfl) wa.heap.size (by rfl) Dwa zwa Bwa ?_)
      | (go_at_call 23; go_must (refine (runV Vwa hS (x := (Y : Int)) (by omega)).mono ?_; rintro e wb ⟨Dwb, rfl, Vwb, bwb⟩; rw [h2.out] at Vwb ⊢; replace A0 := A0.below bwb A0.lt; replace V := V.bel bwb; replace hS := hS.bel bwb; replace hB := hB.trans (bwb.mono hB.size); have zwb := Vwb.size; have owb := Vwb.one))
      | (refine atS 45 (.tmp 12) (.tmp 50) (by rfl) ?_; refine st45n (by rfl) (.tmp 12) (.tmp 50) (by rfl) wb wb.heap.size rfl (by rfl) Dwb (by rfl) (by rfl) zwb owb ?_; have Bwb := Arr.new wb 45 Dwb; have qwb := alloc_bel' wb (.cells Dwb 45); replace A0 := A0.below qwb A0.lt; replace V := V.bel qwb; replace Vwb := Vwb.bel qwb; replace hS := hS.bel qwb; replace hB := hB.trans (qwb.mono hB.size)))
    go_upto_region 7 with (first
      | (refine atL 45 (.tmp 3) (by rfl) ?_; refine ld45 (by rfl) (.tmp 3) (by rfl) w.heap.size (by rfl) C zC A0 ?_)
      | (go_at_call 23; go_must (refine (runV V hS (x := ((X : Int) + (Y : Int))) (by omega)).mono ?_; rintro e wc ⟨Dwc, rfl, Vwc, bwc⟩; rw [h3.out] at Vwc ⊢; replace Bwb := Bwb.below bwc Bwb.lt; replace Vwb := Vwb.bel bwc; replace hS := hS.bel bwc; replace hB := hB.trans (bwc.mono hB.size); have zwc := Vwc.size; have owc := Vwc.one))
      | (refine atS 45 (.tmp 15) (.tmp 60) (by rfl) ?_; refine st45n (by rfl) (.tmp 15) (.tmp 60) (by rfl) wc wc.heap.size rfl (by rfl) Dwc (by rfl) (by rfl) zwc owc ?_; have Bwc := Arr.new wc 45 Dwc; have qwc := alloc_bel' wc (.cells Dwc 45); replace Bwb := Bwb.below qwc Bwb.lt; replace Vwb := Vwb.bel qwc; replace Vwc := Vwc.bel qwc; replace hS := hS.bel qwc; replace hB := hB.trans (qwc.mono hB.size)))
    go_upto_region 9 with (first
      | (refine atL 45 (.tmp 12) (by rfl) ?_; refine ld45g (by rfl) (.tmp 12) (by rfl) wb.heap.size (by rfl) Dwb zwb Bwb ?_)
      | (refine atL 45 (.tmp 15) (by rfl) ?_; refine ld45g (by rfl) (.tmp 15) (by rfl) wc.heap.size (by rfl) Dwc zwc Bwc ?_)
      | (go_at_call 22; go_must (refine (sameV Vwb Vwc).mono ?_; rintro e ws ⟨rfl, bws⟩; rw [smB_self]; replace Bwc := Bwc.below bws Bwc.lt; replace Vwc := Vwc.bel bws; replace hS := hS.bel bws; replace hB := hB.trans (bws.mono hB.size))))
    by_cases hst : c.st = 0
    · have h4 : rO es c 1 = ((tick es c), 1, 0) := by
        have := rO_yes (es := es) (x := 1) hmc (by omega)
        rw [show ((1 : Nat) : Int) = 1 from rfl] at this
        rw [this, rn_go hst]
        simp [rn]
      have hst' : (c.st != 0) = false := by simpa using hst
      have hu := huA.out hst
      have hu' : ((s : Int) + t' == (X : Int) + Y) = true := by simp; omega
      replace h4 := Hid.mk' h4
      replace hst := Hid.mk' hst
      go_upto_region 10 with (first
        | (refine atL 45 (.tmp 15) (by rfl) ?_; refine ld45 (by rfl) (.tmp 15) (by rfl) wc.heap.size (by rfl) Dwc zwc Bwc ?_)
        | (go_at_call 17; go_must (refine (stepV Vwc hS).mono ?_; rintro e wd ⟨Dwd, rfl, Vwd, bwd⟩; rw [h4.out] at Vwd ⊢; replace Bwc := Bwc.below bwd Bwc.lt; replace Vwc := Vwc.bel bwd; replace hS := hS.bel bwd; replace hB := hB.trans (bwd.mono hB.size); have zwd := Vwd.size; have owd := Vwd.one))
        | (refine atS 45 (.tmp 18) (.tmp 100) (by rfl) ?_; refine st45n (by rfl) (.tmp 18) (.tmp 100) (by rfl) wd wd.heap.size rfl (by rfl) Dwd (by rfl) (by rfl) zwd owd ?_; have Bwd := Arr.new wd 45 Dwd; have qwd := alloc_bel' wd (.cells Dwd 45); replace Bwc := Bwc.below qwd Bwc.lt; replace Vwc := Vwc.bel qwd; replace Vwd := Vwd.bel qwd; replace hS := hS.bel qwd; replace hB := hB.trans (qwd.mono hB.size)))
      have c17 := (Bwc.cell 17).trans Vwc.c17
      go_upto_region 13 with (first
        | (refine atL 45 (.tmp 15) (by rfl) ?_; refine ld45 (by rfl) (.tmp 15) (by rfl) wc.heap.size (by rfl) Dwc zwc Bwc ?_)
        | (go_at_call 23; go_must (refine (runV Vwc hS (x := (1 : Int)) (by omega)).mono ?_; rintro e wf ⟨Dwf, rfl, Vwf, bwf⟩; rw [h4.out] at Vwf ⊢; replace Bwd := Bwd.below bwf Bwd.lt; replace Vwd := Vwd.bel bwf; replace hS := hS.bel bwf; replace hB := hB.trans (bwf.mono hB.size); have zwf := Vwf.size; have owf := Vwf.one))
        | (refine atS 45 (.tmp 20) (.tmp 119) (by rfl) ?_; refine st45n (by rfl) (.tmp 20) (.tmp 119) (by rfl) wf wf.heap.size rfl (by rfl) Dwf (by rfl) (by rfl) zwf owf ?_; have Bwf := Arr.new wf 45 Dwf; have qwf := alloc_bel' wf (.cells Dwf 45); replace Bwd := Bwd.below qwf Bwd.lt; replace Vwd := Vwd.bel qwf; replace Vwf := Vwf.bel qwf; replace hS := hS.bel qwf; replace hB := hB.trans (qwf.mono hB.size)))
      go_wp2_with (first
        | (go_at_call 16; go_must (refine (anchored_any _).mono ?_; rintro e wn ⟨rfl, bwn⟩; replace Bwd := Bwd.below bwn Bwd.lt; replace Bwf := Bwf.below bwn Bwf.lt; replace Vwd := Vwd.bel bwn; replace Vwf := Vwf.bel bwn; replace hS := hS.bel bwn; replace hB := hB.trans (bwn.mono hB.size)))
        | (refine atL 45 (.tmp 18) (by rfl) ?_; refine ld45g (by rfl) (.tmp 18) (by rfl) wd.heap.size (by rfl) Dwd zwd Bwd ?_)
        | (refine atL 45 (.tmp 20) (by rfl) ?_; refine ld45g (by rfl) (.tmp 20) (by rfl) wf.heap.size (by rfl) Dwf zwf Bwf ?_)
        | (go_at_call 22; go_must (refine (sameV Vwd Vwf).mono ?_; rintro e wz ⟨rfl, bwz⟩; rw [smB_self]; replace Bwd := Bwd.below bwz Bwd.lt; replace Vwd := Vwd.bel bwz; replace hS := hS.bel bwz; replace hB := hB.trans (bwz.mono hB.size))))
      go_ret
      exact ⟨by simp, hB⟩
    · have h4 : rO es c 1 = (c, 0, 0) := by
        have := rO_yes (es := es) (x := 1) hmc (by omega)
        rw [show ((1 : Nat) : Int) = 1 from rfl] at this
        rw [this, rn_stop hst]
        rfl
      have hst' : (c.st != 0) = true := by simpa using hst
      replace h4 := Hid.mk' h4
      replace hst := Hid.mk' hst
      go_upto_region 10 with (first
        | (refine atL 45 (.tmp 15) (by rfl) ?_; refine ld45 (by rfl) (.tmp 15) (by rfl) wc.heap.size (by rfl) Dwc zwc Bwc ?_)
        | (go_at_call 17; go_must (refine (stepV Vwc hS).mono ?_; rintro e wd ⟨Dwd, rfl, Vwd, bwd⟩; rw [h4.out] at Vwd ⊢; replace Bwc := Bwc.below bwd Bwc.lt; replace Vwc := Vwc.bel bwd; replace hS := hS.bel bwd; replace hB := hB.trans (bwd.mono hB.size); have zwd := Vwd.size; have owd := Vwd.one))
        | (refine atS 45 (.tmp 18) (.tmp 100) (by rfl) ?_; refine st45n (by rfl) (.tmp 18) (.tmp 100) (by rfl) wd wd.heap.size rfl (by rfl) Dwd (by rfl) (by rfl) zwd owd ?_; have Bwd := Arr.new wd 45 Dwd; have qwd := alloc_bel' wd (.cells Dwd 45); replace Bwc := Bwc.below qwd Bwc.lt; replace Vwc := Vwc.bel qwd; replace Vwd := Vwd.bel qwd; replace hS := hS.bel qwd; replace hB := hB.trans (qwd.mono hB.size)))
      have c17 := (Bwc.cell 17).trans Vwc.c17
      go_wp2_with (first
        | (go_at_call 16; go_must (refine (anchored_any _).mono ?_; rintro e wn ⟨rfl, bwn⟩; replace Bwc := Bwc.below bwn Bwc.lt; replace Bwd := Bwd.below bwn Bwd.lt; replace Vwc := Vwc.bel bwn; replace Vwd := Vwd.bel bwn; replace hS := hS.bel bwn; replace hB := hB.trans (bwn.mono hB.size)))
        | (refine atL 45 (.tmp 15) (by rfl) ?_; refine ld45g (by rfl) (.tmp 15) (by rfl) wc.heap.size (by rfl) Dwc zwc Bwc ?_)
        | (refine atL 45 (.tmp 18) (by rfl) ?_; refine ld45g (by rfl) (.tmp 18) (by rfl) wd.heap.size (by rfl) Dwd zwd Bwd ?_)
        | (go_at_call 22; go_must (refine (sameV Vwc Vwd).mono ?_; rintro e wz ⟨rfl, bwz⟩; rw [smB_self]; replace Bwc := Bwc.below bwz Bwc.lt; replace Vwc := Vwc.bel bwz; replace hS := hS.bel bwz; replace hB := hB.trans (bwz.mono hB.size))))
      go_ret
      exact ⟨by simp, hB⟩
end Go.Proofs.Ytnjbmffgbgbjmaa
