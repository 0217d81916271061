/- Layer merkle: the walk of MerkleProves. -/
import Derived.Test.YthpinikdkfiagaaMv
import Derived.Deep.DeepCutAuto
namespace Go.Proofs.Ythpinikdkfiagaa
open Go.RowKit Go.Shelf
set_option linter.unusedVariables false
set_option linter.unusedSimpArgs false

theorem HS.first {N : Nat} {w : World} {sp : Option Addr} {n cap : Nat} {ls : List (List Int)} (h : HS N w sp n cap ls) (p : Nat) (hp : p ≤ n) : HS N w sp p cap (ls.take p) := by
  have hl := h.len.out
  refine ⟨show p = _ by rw [List.length_take]; omega, fun e => ?_, by have := h.le; omega, h.big, by have := h.small; omega, fun h0 => ?_, fun X hX => h.l32 X (List.mem_of_mem_take hX)⟩
  · have := h.nil e; exact ⟨by omega, this.2⟩
  · obtain ⟨g, off, e, hg, hR⟩ := h.at0 (by omega)
    refine ⟨g, off, e, hg, fun i X hX => hR i X ?_⟩
    have hi : i < p := by have := (List.getElem?_eq_some_iff.1 hX).1; rw [List.length_take] at this; omega
    rw [List.getElem?_take_of_lt hi] at hX; exact hX
set_option maxRecDepth 100000 in
set_option maxHeartbeats 4000000 in
theorem proves_walk (k x y : Int) (sp : Option Addr) (n cap : Nat) (ls : List (List Int)) (w : World) (hk : 0 ≤ k ∧ k ≤ 255) (hx : 0 ≤ x ∧ x ≤ 65535) (hy : 0 ≤ y ∧ y ≤ 65535) (hS : HS w.heap.size w sp n cap ls) :
    Calls Try.prog 5 #[.int .u8 k, .slice sp n cap, .agg #[.int .u16 x, .int .u16 y]] w fun e w' => e = .returned (.bool true) ∧ Below w.heap.size w w' := by
  have hsm := hS.small
  have hle := hS.le
  have hbig := hS.big
  obtain ⟨m, hm⟩ : ∃ m : Nat, k % 7 = (m : Int) := ⟨(k % 7).toNat, by omega⟩
  have hm6 : m ≤ 6 := by omega
  obtain ⟨p, hp⟩ : ∃ p : Nat, p = 2 ^ m := ⟨_, rfl⟩
  have hp64 : p ≤ 64 := by rw [hp]; exact Nat.pow_le_pow_right (n := 2) (by omega) hm6
  have hp0 : 0 < p := by rw [hp]; exact Nat.pow_pos (by omega)
  have hwp : wrap64 (2 ^ m) = (p : Int) := by rw [hp]; exact wrap_pow (by omega)
  obtain ⟨i, hi⟩ : ∃ i : Nat, x % (p : Int) = (i : Int) := ⟨(x % (p : Int)).toNat, by have := Int.emod_nonneg x (show (p : Int) ≠ 0 by omega); omega⟩
  have hip : i < p := by have := Int.emod_lt_of_pos x (show (0 : Int) < p by omega); omega
  have hpz : ¬ p = 0 := by omega
  replace hp := Hid.mk' hp
  go_enter Try.func5, Try.ntmps5
  go_upto_if 31 with fail
  simp only [hm, hwp, Int.toNat_natCast]
  go_cut [8] (fun s wc => s = .slice sp (min n p) cap ∧ wc = w.alloc (.cells #[.int .u16 x, .int .u16 y] 49))
  case first =>
    by_cases h : p < n
    · have hI : (p : Int) < n := by omega
      have hmin : min n p = p := by omega
      have hpc : p ≤ cap := by omega
      cases sp with
      | none => exact absurd (hS.nil rfl) (by omega)
      | some ad =>
      go_wp2
      go_meet
      exact ⟨by rw [hmin], rfl⟩
    · have hI : ¬ (p : Int) < n := by omega
      have hmin : min n p = n := by omega
      go_wp2
      go_meet
      exact ⟨by rw [hmin], rfl⟩
  case rest =>
    obtain ⟨rfl, rfl⟩ := hcut
    have hb0 := alloc_bel' w (.cells #[.int .u16 x, .int .u16 y] 49)
    have B0 := Arr.new w 49 #[.int .u16 x, .int .u16 y]
    have hH0 := (hS.first (min n p) (by omega)).below hb0
    have hqp : min n p ≤ p := by omega
    have hqs : min n p ≤ 64 := by omega
    have hqc : min n p ≤ cap := by omega
    generalize ls.take (min n p) = lt at *
    generalize min n p = q at *
    clear hS hsm hle
    generalize hW0 : w.alloc (.cells #[.int .u16 x, .int .u16 y] 49) = w0 at *
    have hw0 : w0.heap.size = w.heap.size + 1 := by rw [← hW0]; simp
    replace hW0 := Hid.mk' hW0
    have c0 := B0.cell 0
    simp at c0
    have F0 := Arr.new w0 24 (flat32 (List.replicate p Z32)).toArray
    rw [hw0] at F0
    have hH0' := hH0.below ((alloc_bel' w0 (.cells (flat32 (List.replicate p Z32)).toArray 24)).mono (by omega))
    go_upto_region 8 with (first
      | (refine mk24 (by rfl) _ (by rfl) p (by exact congrArg (Value.int .i64) hwp) (by omega) ?_)
      | (refine cp24 (by rfl) _ _ (by rfl) (w.heap.size + 1) p w.heap.size sp q cap lt (by rfl) (by rfl) hH0' F0 hqp ?_))
    try simp only [hi, hwp]
    have A1 := F0.setRow (flat32 (lt ++ List.replicate (p - q) Z32)).toArray
    have B1 := (B0.alloc (.cells (flat32 (List.replicate p Z32)).toArray 24)).setRowOther (k := w.heap.size + 1) (flat32 (lt ++ List.replicate (p - q) Z32)).toArray (by omega)
    have hb1 : Below w.heap.size w ((w0.alloc (.cells (flat32 (List.replicate p Z32)).toArray 24)).setRow (w.heap.size + 1) (flat32 (lt ++ List.replicate (p - q) Z32)).toArray) := below_setRow (hb0.trans ((alloc_bel' w0 _).mono (by omega))) (by omega) _
    have hs1 : ((w0.alloc (.cells (flat32 (List.replicate p Z32)).toArray 24)).setRow (w.heap.size + 1) (flat32 (lt ++ List.replicate (p - q) Z32)).toArray).heap.size = w.heap.size + 2 := by simp [hw0]
    have hH1 := hH0'.below (below_setRow (Below.refl w.heap.size (w0.alloc (.cells (flat32 (List.replicate p Z32)).toArray 24))) (g := w.heap.size + 1) (by omega) (flat32 (lt ++ List.replicate (p - q) Z32)).toArray)
    generalize hW1 : (w0.alloc (.cells (flat32 (List.replicate p Z32)).toArray 24)).setRow (w.heap.size + 1) (flat32 (lt ++ List.replicate (p - q) Z32)).toArray = w1 at *
    clear hW1 F0 B0 c0 hH0' hH0 hb0 hW0
    clear hw0
    have hl32 := hH1.l32
    have hql := hH1.len.out
    obtain ⟨X, hX⟩ : ∃ X, (lt ++ List.replicate (p - q) Z32)[i]? = some X := ⟨_, List.getElem?_eq_getElem (by rw [List.length_append, List.length_replicate]; omega)⟩
    have hF32 : ∀ x ∈ lt ++ List.replicate (p - q) Z32, x.length = 32 := fun x hx => by
      rcases List.mem_append.1 hx with h | h
      · exact hl32 x h
      · exact zeros32 _ x h
    have hFl : (lt ++ List.replicate (p - q) Z32).length = p := by rw [List.length_append, List.length_replicate]; omega
    have hX32 := hF32 X (List.mem_of_getElem? hX)
    obtain ⟨N, hN⟩ : ∃ N, N = shl [y % 256, y / 256] := ⟨_, rfl⟩
    have hN32 : N.length = 32 := by rw [hN]; exact shl_len _
    obtain ⟨R, S, P, hR32, hS32, cR, cP, cC, cW, cR2, cW2⟩ := proves_calls (sp := sp) (cap := cap) hm6 hp.out hip hl32 hql hqp hX hN32
    generalize lt ++ List.replicate (p - q) Z32 = F at *
    replace hX := Hid.mk' hX
    replace hF32 := Hid.mk' hF32
    replace hFl := Hid.mk' hFl
    replace hql := Hid.mk' hql
    replace hN := Hid.mk' hN
    replace cR := Hid.mk' cR
    replace cP := Hid.mk' cP
    replace cC := Hid.mk' cC
    replace cW := Hid.mk' cW
    replace cR2 := Hid.mk' cR2
    replace cW2 := Hid.mk' cW2
    clear hl32 hqp hqs hqc
    have hH1' := hH1.mono (show w.heap.size ≤ w1.heap.size by omega)
    go_upto_region 10 with (first
      | (go_at_call 7; go_must (refine (cR.out w1 hH1').mono ?_; rintro e w2 ⟨rfl, hb2⟩; have hs2 := hb2.size; have A2 := (A1.below hb2 (by omega)).alloc (.cells (h8 R) 24); have B2 := (B1.below hb2 (by omega)).alloc (.cells (h8 R) 24); have R2 := Arr.new w2 24 (h8 R); have bw2 := (hb1.trans (hb2.mono (by omega))).alloc (by omega) (.cells (h8 R) 24); have hH2 := (hH1.below (hb2.mono (by omega))).below (alloc_bel' w2 (.cells (h8 R) 24) |>.mono (by omega)); have hH2' := hH2.mono (show w.heap.size ≤ (w2.alloc (.cells (h8 R) 24)).heap.size by simp; omega)))
      | (refine st24n (by rfl) _ _ (by rfl) w2 w2.heap.size rfl (by rfl) R (by rfl) (by rfl) hR32 ?_)
      | (go_at_call 10; go_must (refine (cP.out _ hH2').mono ?_; rintro e w3 ⟨sq, cq, rfl, hP3, hPb3, hb3⟩; replace hPb3 := Hid.mk' hPb3; have hs3 := hb3.size; simp at hs3; have A3 := A2.below hb3 (by simp; omega); have B3 := B2.below hb3 (by simp; omega); have R3 := R2.below hb3 (by simp); have bw3 := bw2.trans (hb3.mono (by simp; omega)))))
    have hmm : ((m : Int) != m) = false := by simp
    have hiI : (i : Int) < p := by omega
    have hP3d : HS w3.drew.heap.size w3.drew sq m cq P := hP3.below ((Below.refl _ _).drew)
    refine wp_region_held_drew (S := fun u => Below w3.heap.size w3 u) (by kernel_rfl) ((Below.refl _ _).drew) (fun hHeld => ?_)
    refine wpAnyH_take (i := 0) (oi := ⟨_, _, _, _, _, _⟩) (v := ?_) rfl (by kernel_rfl) (by kernel_rfl) (by kernel_rfl) (fun _ _ _ h => h) (Or.inl ⟨by rfl, ?_⟩) (by assumption) ?_
    rotate_left
    · intro u hSw
      go_simp
      try (with_reducible rfl)
    try simp only [Act.put, List.setIfInBounds_toArray, List.set_cons_zero, List.set_cons_succ]
    refine wpAnyH_take (i := 1) (oi := ⟨_, _, _, _, _, _⟩) (v := ?_) rfl (by kernel_rfl) (by kernel_rfl) (by kernel_rfl) (fun _ _ _ h => h) (Or.inl ⟨by rfl, ?_⟩) (by assumption) ?_
    rotate_left
    · intro u hSw
      go_simp
      try (with_reducible rfl)
    try simp only [Act.put, List.setIfInBounds_toArray, List.set_cons_zero, List.set_cons_succ]
    refine wpAnyH_take (i := 2) (oi := ⟨_, _, _, _, _, _⟩) (v := ?_) rfl (by kernel_rfl) (by kernel_rfl) (by kernel_rfl) (fun _ _ _ h => h) (Or.inl ⟨by rfl, ?_⟩) (by assumption) ?_
    rotate_left
    · intro u hSw
      go_simp
      try (with_reducible rfl)
    try simp only [Act.put, List.setIfInBounds_toArray, List.set_cons_zero, List.set_cons_succ]
    refine wpAnyH_take (i := 3) (oi := ⟨_, _, _, _, _, _⟩) (v := ?_) rfl (by kernel_rfl) (by kernel_rfl) (by kernel_rfl) (fun _ _ _ h => h) (Or.inl ⟨by rfl, ?_⟩) (by assumption) ?_
    rotate_left
    · intro u hSw
      go_simp
      try (with_reducible rfl)
    try simp only [Act.put, List.setIfInBounds_toArray, List.set_cons_zero, List.set_cons_succ]
    refine wpAnyH_take (i := 4) (oi := ⟨_, _, _, _, _, _⟩) (v := ?_) rfl (by kernel_rfl) (by kernel_rfl) (by kernel_rfl) (fun _ _ _ h => h) (Or.inl ⟨by rfl, ?_⟩) (by assumption) ?_
    rotate_left
    · intro u hSw
      go_simp
      try (with_reducible rfl)
    try simp only [Act.put, List.setIfInBounds_toArray, List.set_cons_zero, List.set_cons_succ]
    refine wpAnyH_take (i := 5) (oi := ⟨_, _, _, _, _, _⟩) (v := ?_) rfl (by kernel_rfl) (by kernel_rfl) (by kernel_rfl) (fun _ _ _ h => h) (Or.inl ⟨by rfl, ?_⟩) (by assumption) ?_
    rotate_left
    · intro u hSw
      go_simp
      try (with_reducible rfl)
    try simp only [Act.put, List.setIfInBounds_toArray, List.set_cons_zero, List.set_cons_succ]
    refine wpAnyH_take (i := 6) (oi := ⟨_, _, _, _, _, _⟩) (v := ?_) rfl (by kernel_rfl) (by kernel_rfl) (by kernel_rfl) (fun _ _ _ h => h) (Or.inl ⟨by rfl, ?_⟩) (by assumption) ?_
    rotate_left
    · intro u hSw
      go_simp
      try (with_reducible rfl)
    try simp only [Act.put, List.setIfInBounds_toArray, List.set_cons_zero, List.set_cons_succ]
    refine wpAnyH_take (i := 7) (oi := ⟨_, _, _, _, _, _⟩) (v := ?_) rfl (by kernel_rfl) (by kernel_rfl) (by kernel_rfl) (fun _ _ _ h => h) (Or.inl ⟨by rfl, ?_⟩) (by assumption) ?_
    rotate_left
    · intro u hSw
      go_simp
      try (with_reducible rfl)
    try simp only [Act.put, List.setIfInBounds_toArray, List.set_cons_zero, List.set_cons_succ]
    refine wpAnyH_take (i := 8) (oi := ⟨_, _, _, _, _, _⟩) (v := ?_) rfl (by kernel_rfl) (by kernel_rfl) (by kernel_rfl) (fun _ _ _ h => h) (Or.inl ⟨by rfl, ?_⟩) (by assumption) ?_
    rotate_left
    · intro u hSw
      go_simp
      try (with_reducible rfl)
    try simp only [Act.put, List.setIfInBounds_toArray, List.set_cons_zero, List.set_cons_succ]
    refine wpAnyH_take (i := 9) (oi := ⟨_, _, _, _, _, _⟩) (v := ?_) rfl (by kernel_rfl) (by kernel_rfl) (by kernel_rfl) (fun _ _ _ h => h) (Or.inl ⟨by rfl, ?_⟩) (by assumption) ?_
    rotate_left
    · intro u hSw
      go_simp
      try (with_reducible rfl)
    try simp only [Act.put, List.setIfInBounds_toArray, List.set_cons_zero, List.set_cons_succ]
    refine wpAnyH_take (i := 10) (oi := ⟨_, _, _, _, _, _⟩) (v := ?_) rfl (by kernel_rfl) (by kernel_rfl) (by kernel_rfl) (fun _ _ _ h => h) (Or.inl ⟨by rfl, ?_⟩) (by assumption) ?_
    rotate_left
    · intro u hSw
      go_simp
      try (with_reducible rfl)
    try simp only [Act.put, List.setIfInBounds_toArray, List.set_cons_zero, List.set_cons_succ]
    refine wpAnyH_take (i := 11) (oi := ⟨_, _, _, _, _, _⟩) (v := ?_) rfl (by kernel_rfl) (by kernel_rfl) (by kernel_rfl) (fun _ _ _ h => h) (Or.inl ⟨by rfl, ?_⟩) (by assumption) ?_
    rotate_left
    · intro u hSw
      go_simp
      try (with_reducible rfl)
    try simp only [Act.put, List.setIfInBounds_toArray, List.set_cons_zero, List.set_cons_succ]
    refine wpAnyH_take (i := 12) (oi := ⟨_, _, _, _, _, _⟩) (v := ?_) rfl (by kernel_rfl) (by kernel_rfl) (by kernel_rfl) (fun _ _ _ h => h) (Or.inl ⟨by rfl, ?_⟩) (by assumption) ?_
    rotate_left
    · intro u hSw
      go_simp
      try (with_reducible rfl)
    try simp only [Act.put, List.setIfInBounds_toArray, List.set_cons_zero, List.set_cons_succ]
    refine wpAnyH_take (i := 13) (oi := ⟨_, _, _, _, _, _⟩) rfl (by kernel_rfl) (by kernel_rfl) (by kernel_rfl) (fun _ _ _ h => h) (y24 (by rfl) (.tmp 11) rfl (w2.heap.size) (0) rfl R hR32 (fun u hu => (R3.below hu (by omega)).range)) (by assumption) ?_
    try simp only [Act.put, List.setIfInBounds_toArray, List.set_cons_zero, List.set_cons_succ]
    refine wpAnyH_take (i := 14) (oi := ⟨_, _, _, _, _, _⟩) (v := ?_) rfl (by kernel_rfl) (by kernel_rfl) (by kernel_rfl) (fun _ _ _ h => h) (Or.inl ⟨by rfl, ?_⟩) (by assumption) ?_
    rotate_left
    · intro u hSw
      go_simp
      try (with_reducible rfl)
    try simp only [Act.put, List.setIfInBounds_toArray, List.set_cons_zero, List.set_cons_succ]
    refine wpAnyH_take (i := 15) (oi := ⟨_, _, _, _, _, _⟩) (v := ?_) rfl (by kernel_rfl) (by kernel_rfl) (by kernel_rfl) (fun _ _ _ h => h) (Or.inl ⟨by rfl, ?_⟩) (by assumption) ?_
    rotate_left
    · intro u hSw
      go_simp
      try (with_reducible rfl)
    try simp only [Act.put, List.setIfInBounds_toArray, List.set_cons_zero, List.set_cons_succ]
    refine wpAnyH_take (i := 16) (oi := ⟨_, _, _, _, _, _⟩) (v := ?_) rfl (by kernel_rfl) (by kernel_rfl) (by kernel_rfl) (fun _ _ _ h => h) (Or.inl ⟨by rfl, ?_⟩) (by assumption) ?_
    rotate_left
    · intro u hSw
      go_simp
      try (with_reducible rfl)
    try simp only [Act.put, List.setIfInBounds_toArray, List.set_cons_zero, List.set_cons_succ]
    refine wpAnyH_take (i := 17) (oi := ⟨_, _, _, _, _, _⟩) (v := ?_) rfl (by kernel_rfl) (by kernel_rfl) (by kernel_rfl) (fun _ _ _ h => h) (Or.inl ⟨by rfl, ?_⟩) (by assumption) ?_
    rotate_left
    · intro u hSw
      go_simp
      try (with_reducible rfl)
    try simp only [Act.put, List.setIfInBounds_toArray, List.set_cons_zero, List.set_cons_succ]
    refine wpAnyH_take (i := 18) (oi := ⟨_, _, _, _, _, _⟩) rfl (by kernel_rfl) (by kernel_rfl) (by kernel_rfl) (fun _ _ _ h => h) (y24 (by rfl) (.tmp 81) rfl (w.heap.size + 1) (i * 32) rfl X hX32 (fun u hu => (A3.below hu (by omega)).part32 hF32.out hX.out)) (by assumption) ?_
    try simp only [Act.put, List.setIfInBounds_toArray, List.set_cons_zero, List.set_cons_succ]
    refine wpAnyH_take (i := 19) (oi := ⟨_, _, _, _, _, _⟩) (v := ?_) rfl (by kernel_rfl) (by kernel_rfl) (by kernel_rfl) (fun _ _ _ h => h) (Or.inl ⟨by rfl, ?_⟩) (by assumption) ?_
    rotate_left
    · intro u hSw
      go_simp
      try (with_reducible rfl)
    try simp only [Act.put, List.setIfInBounds_toArray, List.set_cons_zero, List.set_cons_succ]
    refine wpAnyH_ready (rs := [20]) (by kernel_rfl) (by simp) ?_
    refine AllReadyH.cons (o := ⟨_, _, _, _, _, _⟩) rfl (fun K hK => ?_) AllReadyH.nil
    go_simp
    refine (cC.out _ sq cq hP3d).mono ?_; rintro e u1 ⟨rfl, hu1⟩; have hsu1 := hu1.size; simp at hsu1; have hH1u : Below w3.heap.size w3 u1 := ((Below.refl w3.heap.size w3).drew).trans (hu1.mono (by simp))
    go_wp2_with fail
    refine hK.out _ _ hH1u (fun hHeld => ?_)
    clear hK K
    try simp only [Act.put, List.setIfInBounds_toArray, List.set_cons_zero, List.set_cons_succ]
    refine wpAnyH_take (i := 21) (oi := ⟨_, _, _, _, _, _⟩) (v := ?_) rfl (by kernel_rfl) (by kernel_rfl) (by kernel_rfl) (fun _ _ _ h => h) (Or.inl ⟨by rfl, ?_⟩) (by assumption) ?_
    rotate_left
    · intro u hSw
      go_simp
      try (with_reducible rfl)
    try simp only [Act.put, List.setIfInBounds_toArray, List.set_cons_zero, List.set_cons_succ]
    refine wpAnyH_take (i := 22) (oi := ⟨_, _, _, _, _, _⟩) (v := ?_) rfl (by kernel_rfl) (by kernel_rfl) (by kernel_rfl) (fun _ _ _ h => h) (Or.inl ⟨by rfl, ?_⟩) (by assumption) ?_
    rotate_left
    · intro u hSw
      go_simp
      try (with_reducible rfl)
    try simp only [Act.put, List.setIfInBounds_toArray, List.set_cons_zero, List.set_cons_succ]
    refine wpAnyH_done (by kernel_rfl) ?_ _
    have A4 := (A3.below hHeld (by omega)).alloc (.cells (h8 X) 24)
    have B4 := (B3.below hHeld (by omega)).alloc (.cells (h8 X) 24)
    have R4 := (R3.below hHeld (by omega)).alloc (.cells (h8 X) 24)
    have X4 := Arr.new u1 24 (h8 X)
    have hP4 := (hP3.below hHeld).below (alloc_bel' u1 (.cells (h8 X) 24) |>.mono (by omega))
    have A4' := A3.below hHeld (by omega)
    have bw4 := (bw3.trans (hHeld.mono (by omega))).alloc (by omega) (.cells (h8 X) 24)
    have hs4 : (u1.alloc (.cells (h8 X) 24)).heap.size = u1.heap.size + 1 := by simp
    have c1 := B4.cell 1
    simp at c1
    have s2 := Hid.mk' (sum2 (y % 256) (y / 256) (u1.alloc (.cells (h8 X) 24)) (u1.heap.size + 1) (by simp))
    rw [← hN.out] at s2
    go_upto_region 14 with (first
      | (refine sm24 (by rfl) _ _ (by rfl) (w.heap.size + 1) i F N (i * 32) rfl (by rfl) (by rfl) hN32 A5 hF32.out (by rw [hFl.out]; exact hip) ?_)
      | (go_at_call 20; go_must (refine s2.out.mono ?_; rintro e w5 ⟨rfl, hb5⟩; have hs5 := hb5.size; simp at hs5; have A5 := A4.below hb5 (by simp; omega)))
      | (refine ld24 (by rfl) _ (by rfl) (w.heap.size + 1) (i * 32) (by rfl) X hX32 (A4'.part32 hF32.out hX.out) ?_)
      | (refine st24n (by rfl) _ _ (by rfl) u1 u1.heap.size rfl (by rfl) X (by rfl) (by rfl) hX32 ?_))
    have R6 := (R4.below hb5 (by simp; omega)).setCellsOther (k := w.heap.size + 1) (by omega) (i * 32) (by8 N)
    have X6 := (X4.below hb5 (by simp)).setCellsOther (k := w.heap.size + 1) (by omega) (i * 32) (by8 N)
    have hF6 := hs_set (p := p) A5 hF32.out (by rw [hFl.out]; exact hip) hN32 hFl.out.symm (by omega)
    have hP6 := (((hP4.mono (show w3.heap.size ≤ (u1.alloc (.cells (h8 X) 24)).heap.size by simp; omega)).below hb5).mono (show _ ≤ w5.heap.size by simp; omega)).other (w.heap.size + 1) (i * 32) (by8 N) (fun b off e => by have := hPb3.out b off e; simp at this; omega)
    have bw6 := below_setCells (bw4.trans (hb5.mono (by simp; omega))) (g := w.heap.size + 1) (by omega) (by8 N) (i * 32)
    have hs6 : (w5.setCells (w.heap.size + 1) (i * 32) (by8 N)).heap.size = w5.heap.size := size_setCells _ _ _ _
    generalize w5.setCells (w.heap.size + 1) (i * 32) (by8 N) = V at *
    have hN6 : V.rangeAt (w.heap.size + 1) (i * 32) (by8 N) := by
      obtain ⟨g, off, e, hg, hR⟩ := hF6.at0 (by omega)
      cases e
      have := hR i N (by rw [List.getElem?_set_self (by rw [hFl.out]; exact hip)])
      rwa [Nat.zero_add] at this
    rw [← hs6] at hs5 hP6
    clear A4' c1 s2 A4 B4 R4 X4 hP4 bw4 hs4 hb5 A5 hs6 hmm hP3d hu1 hH1u hHeld hP3 A3 B3 R3 bw3 hb3 A2 B2 R2 bw2 hH2 hH2' hb2
    have hP6d : HS V.drew.heap.size V.drew sq m cq P := hP6.below ((Below.refl _ _).drew)
    have hP6a : ∀ o, HS (V.drew.alloc o).heap.size (V.drew.alloc o) sq m cq P := fun o => (hP6d.below (alloc_bel' _ o)).mono (by simp)
    simp only [Act.put]
    go_cut [16, 17] (fun s t wc => ∃ b, s = .pointer (some ⟨b, 0, none⟩) ∧ t = .bool true ∧ V.heap.size ≤ b ∧ Arr wc b 24 (h8 S) ∧ Below V.heap.size V wc)
    case first =>
      refine wp_region_held_drew (S := fun u => Below V.heap.size V u) (by kernel_rfl) ((Below.refl _ _).drew) (fun hHeld => ?_)
      refine wpAnyH_take (i := 0) (oi := ⟨_, _, _, _, _, _⟩) rfl (by kernel_rfl) (by kernel_rfl) (by kernel_rfl) (fun _ _ _ h => h) (y24 (by rfl) (.tmp 11) rfl (w2.heap.size) (0) rfl R hR32 (fun u hu => (R6.below hu (by omega)).range)) (by assumption) ?_
      try simp only [Act.put, List.setIfInBounds_toArray, List.set_cons_zero, List.set_cons_succ]
      refine wpAnyH_take (i := 1) (oi := ⟨_, _, _, _, _, _⟩) (v := ?_) rfl (by kernel_rfl) (by kernel_rfl) (by kernel_rfl) (fun _ _ _ h => h) (Or.inl ⟨by rfl, ?_⟩) (by assumption) ?_
      rotate_left
      · intro u hSw
        go_simp
        try (with_reducible rfl)
      try simp only [Act.put, List.setIfInBounds_toArray, List.set_cons_zero, List.set_cons_succ]
      refine wpAnyH_take (i := 2) (oi := ⟨_, _, _, _, _, _⟩) rfl (by kernel_rfl) (by kernel_rfl) (by kernel_rfl) (fun _ _ _ h => h) (y24 (by rfl) (.tmp 15) rfl (u1.heap.size) (0) rfl X hX32 (fun u hu => (X6.below hu (by omega)).range)) (by assumption) ?_
      try simp only [Act.put, List.setIfInBounds_toArray, List.set_cons_zero, List.set_cons_succ]
      refine wpAnyH_take (i := 3) (oi := ⟨_, _, _, _, _, _⟩) (v := ?_) rfl (by kernel_rfl) (by kernel_rfl) (by kernel_rfl) (fun _ _ _ h => h) (Or.inl ⟨by rfl, ?_⟩) (by assumption) ?_
      rotate_left
      · intro u hSw
        go_simp
        try (with_reducible rfl)
      try simp only [Act.put, List.setIfInBounds_toArray, List.set_cons_zero, List.set_cons_succ]
      refine wpAnyH_take (i := 4) (oi := ⟨_, _, _, _, _, _⟩) (v := ?_) rfl (by kernel_rfl) (by kernel_rfl) (by kernel_rfl) (fun _ _ _ h => h) (Or.inl ⟨by rfl, ?_⟩) (by assumption) ?_
      rotate_left
      · intro u hSw
        go_simp
        try (with_reducible rfl)
      try simp only [Act.put, List.setIfInBounds_toArray, List.set_cons_zero, List.set_cons_succ]
      refine wpAnyH_take (i := 5) (oi := ⟨_, _, _, _, _, _⟩) (v := ?_) rfl (by kernel_rfl) (by kernel_rfl) (by kernel_rfl) (fun _ _ _ h => h) (Or.inl ⟨by rfl, ?_⟩) (by assumption) ?_
      rotate_left
      · intro u hSw
        go_simp
        try (with_reducible rfl)
      try simp only [Act.put, List.setIfInBounds_toArray, List.set_cons_zero, List.set_cons_succ]
      refine wpAnyH_take (i := 6) (oi := ⟨_, _, _, _, _, _⟩) rfl (by kernel_rfl) (by kernel_rfl) (by kernel_rfl) (fun _ _ _ h => h) (y24 (by rfl) (.tmp 109) rfl (w.heap.size + 1) (i * 32) rfl N hN32 (fun u hu => range_below hN6 hu (by omega))) (by assumption) ?_
      try simp only [Act.put, List.setIfInBounds_toArray, List.set_cons_zero, List.set_cons_succ]
      refine wpAnyH_take (i := 7) (oi := ⟨_, _, _, _, _, _⟩) (v := ?_) rfl (by kernel_rfl) (by kernel_rfl) (by kernel_rfl) (fun _ _ _ h => h) (Or.inl ⟨by rfl, ?_⟩) (by assumption) ?_
      rotate_left
      · intro u hSw
        go_simp
        try (with_reducible rfl)
      try simp only [Act.put, List.setIfInBounds_toArray, List.set_cons_zero, List.set_cons_succ]
      refine wpAnyH_ready (rs := [8, 12]) (by kernel_rfl) (by simp) ?_
      refine AllReadyH.cons (o := ⟨_, _, _, _, _, _⟩) rfl (fun K hK => ?_) (AllReadyH.cons (o := ⟨_, _, _, _, _, _⟩) rfl (fun K hK => ?_) AllReadyH.nil)
      · go_simp
        refine (cW.out _ sq cq hP6d).mono ?_; rintro e u2 ⟨rfl, hu2⟩; have hsu2 := hu2.size; simp at hsu2; have hHu : Below V.heap.size V u2 := ((Below.refl V.heap.size V).drew).trans (hu2.mono (by simp))
        go_wp2_with fail
        refine hK.out _ _ hHu (fun hHeld => ?_)
        clear hK K
        try simp only [Act.put, List.setIfInBounds_toArray, List.set_cons_zero, List.set_cons_succ]
        refine wpAnyH_take (i := 9) (oi := ⟨_, _, _, _, _, _⟩) (v := ?_) rfl (by kernel_rfl) (by kernel_rfl) (by kernel_rfl) (fun _ _ _ h => h) (Or.inl ⟨by rfl, ?_⟩) (by assumption) ?_
        rotate_left
        · intro u hSw
          go_simp
          try (with_reducible rfl)
        try simp only [Act.put, List.setIfInBounds_toArray, List.set_cons_zero, List.set_cons_succ]
        refine wpAnyH_take (i := 10) (oi := ⟨_, _, _, _, _, _⟩) (v := ?_) rfl (by kernel_rfl) (by kernel_rfl) (by kernel_rfl) (fun _ _ _ h => h) (Or.inl ⟨by rfl, ?_⟩) (by assumption) ?_
        rotate_left
        · intro u hSw
          go_simp
          try (with_reducible rfl)
        try simp only [Act.put, List.setIfInBounds_toArray, List.set_cons_zero, List.set_cons_succ]
        refine wpAnyH_take (i := 11) (oi := ⟨_, _, _, _, _, _⟩) (v := ?_) rfl (by kernel_rfl) (by kernel_rfl) (by kernel_rfl) (fun _ _ _ h => h) (Or.inl ⟨by rfl, ?_⟩) (by assumption) ?_
        rotate_left
        · intro u hSw
          go_simp
          try (with_reducible rfl)
        try simp only [Act.put, List.setIfInBounds_toArray, List.set_cons_zero, List.set_cons_succ]
        refine wpAnyH_ready (rs := [12]) (by kernel_rfl) (by simp) ?_
        refine AllReadyH.cons (o := ⟨_, _, _, _, _, _⟩) rfl (fun K hK => ?_) AllReadyH.nil
        go_simp
        go_wp2_with fail
        refine hK.out _ _ (hHu.alloc (by omega) _) (fun hHeld => ?_)
        clear hK K
        try simp only [Act.put, List.setIfInBounds_toArray, List.set_cons_zero, List.set_cons_succ]
        refine wpAnyH_ready (rs := [13]) (by kernel_rfl) (by simp) ?_
        refine AllReadyH.cons (o := ⟨_, _, _, _, _, _⟩) rfl (fun K hK => ?_) AllReadyH.nil
        refine step_want rfl (wp_store_row 24 (.tmp 16) (.tmp 113) rfl u2.heap.size (h8 S) rfl rfl 24 _ (Arr.new u2 24 _) (s24h8 hS32) (by rw [h8_size, hS32]; rfl) (h8_one S) ?_)
        refine hK.out _ _ (below_setRow (hHu.alloc (by omega) _) (by omega) _) (fun hHeld => ?_)
        clear hK K
        try simp only [Act.put, List.setIfInBounds_toArray, List.set_cons_zero, List.set_cons_succ]
        refine wpAnyH_take (i := 14) (oi := ⟨_, _, _, _, _, _⟩) (v := ?_) rfl (by kernel_rfl) (by kernel_rfl) (by kernel_rfl) (fun _ _ _ h => h) (Or.inl ⟨by rfl, ?_⟩) (by assumption) ?_
        rotate_left
        · intro u hSw
          go_simp
          try (with_reducible rfl)
        try simp only [Act.put, List.setIfInBounds_toArray, List.set_cons_zero, List.set_cons_succ]
        refine wpAnyH_done (by kernel_rfl) ?_ _
        go_wp2_with fail
        go_meet
        exact ⟨_, rfl, rfl, by omega, (Arr.new u2 24 _).setRow _, hHeld⟩
      · go_simp
        go_wp2_with fail
        refine hK.out _ _ (((Below.refl V.heap.size V).drew).alloc (by simp) _) (fun hHeld => ?_)
        clear hK K
        try simp only [Act.put, List.setIfInBounds_toArray, List.set_cons_zero, List.set_cons_succ]
        refine wpAnyH_ready (rs := [8]) (by kernel_rfl) (by simp) ?_
        refine AllReadyH.cons (o := ⟨_, _, _, _, _, _⟩) rfl (fun K hK => ?_) AllReadyH.nil
        go_simp
        refine (cW.out _ sq cq (hP6a _)).mono ?_; rintro e u2 ⟨rfl, hu2⟩; have hsu2 := hu2.size; simp at hsu2; have hHu : Below V.heap.size V u2 := (((Below.refl V.heap.size V).drew).alloc (by simp) _).trans (hu2.mono (by simp)); have hZu := (Arr.new V.drew 24 _).below hu2 (by simp)
        go_wp2_with fail
        refine hK.out _ _ hHu (fun hHeld => ?_)
        clear hK K
        try simp only [Act.put, List.setIfInBounds_toArray, List.set_cons_zero, List.set_cons_succ]
        refine wpAnyH_take (i := 9) (oi := ⟨_, _, _, _, _, _⟩) (v := ?_) rfl (by kernel_rfl) (by kernel_rfl) (by kernel_rfl) (fun _ _ _ h => h) (Or.inl ⟨by rfl, ?_⟩) (by assumption) ?_
        rotate_left
        · intro u hSw
          go_simp
          try (with_reducible rfl)
        try simp only [Act.put, List.setIfInBounds_toArray, List.set_cons_zero, List.set_cons_succ]
        refine wpAnyH_take (i := 10) (oi := ⟨_, _, _, _, _, _⟩) (v := ?_) rfl (by kernel_rfl) (by kernel_rfl) (by kernel_rfl) (fun _ _ _ h => h) (Or.inl ⟨by rfl, ?_⟩) (by assumption) ?_
        rotate_left
        · intro u hSw
          go_simp
          try (with_reducible rfl)
        try simp only [Act.put, List.setIfInBounds_toArray, List.set_cons_zero, List.set_cons_succ]
        refine wpAnyH_take (i := 11) (oi := ⟨_, _, _, _, _, _⟩) (v := ?_) rfl (by kernel_rfl) (by kernel_rfl) (by kernel_rfl) (fun _ _ _ h => h) (Or.inl ⟨by rfl, ?_⟩) (by assumption) ?_
        rotate_left
        · intro u hSw
          go_simp
          try (with_reducible rfl)
        try simp only [Act.put, List.setIfInBounds_toArray, List.set_cons_zero, List.set_cons_succ]
        refine wpAnyH_ready (rs := [13]) (by kernel_rfl) (by simp) ?_
        refine AllReadyH.cons (o := ⟨_, _, _, _, _, _⟩) rfl (fun K hK => ?_) AllReadyH.nil
        refine step_want rfl (wp_store_row 24 (.tmp 16) (.tmp 113) rfl V.heap.size (h8 S) rfl rfl 24 _ hZu (s24h8 hS32) (by rw [h8_size, hS32]; rfl) (h8_one S) ?_)
        refine hK.out _ _ (below_setRow hHu (by omega) _) (fun hHeld => ?_)
        clear hK K
        try simp only [Act.put, List.setIfInBounds_toArray, List.set_cons_zero, List.set_cons_succ]
        refine wpAnyH_take (i := 14) (oi := ⟨_, _, _, _, _, _⟩) (v := ?_) rfl (by kernel_rfl) (by kernel_rfl) (by kernel_rfl) (fun _ _ _ h => h) (Or.inl ⟨by rfl, ?_⟩) (by assumption) ?_
        rotate_left
        · intro u hSw
          go_simp
          try (with_reducible rfl)
        try simp only [Act.put, List.setIfInBounds_toArray, List.set_cons_zero, List.set_cons_succ]
        refine wpAnyH_done (by kernel_rfl) ?_ _
        go_wp2_with fail
        go_meet
        exact ⟨_, rfl, rfl, Nat.le_refl _, hZu.setRow _, hHeld⟩
    case rest =>
      obtain ⟨b, rfl, rfl, hbb, S7, hV7⟩ := hcut
      have hs7 := hV7.size
      have R7 := R6.below hV7 (by omega)
      have X7 := X6.below hV7 (by omega)
      have hF7 := (hF6.below hV7).mono hs7
      have hP7 := (hP6.below hV7).mono hs7
      have bw7 := bw6.trans (hV7.mono (by omega))
      have hN7 := range_below hN6 hV7 (by omega)
      have hb7 := S7.lt
      clear R6 X6 hF6 hP6 bw6 hN6 hP6d hP6a
      go_upto_region 16 with (first
        | (go_at_call 7; go_must (refine (cR2.out wc (w.heap.size + 1) hF7).mono ?_; rintro e w8 ⟨rfl, hb8⟩; have hs8 := hb8.size))
        | (refine st24n (by rfl) _ _ (by rfl) w8 w8.heap.size rfl (by rfl) S (by rfl) (by rfl) hS32 ?_))
      have R8 := (R7.below hb8 (by omega)).alloc (.cells (h8 S) 24)
      have X8 := (X7.below hb8 (by omega)).alloc (.cells (h8 S) 24)
      have S8 := (S7.below hb8 (by omega)).alloc (.cells (h8 S) 24)
      have T8 := Arr.new w8 24 (h8 S)
      have bel8 := hb8.alloc (by omega) (.cells (h8 S) 24)
      have hN8 := range_below hN7 bel8 (by omega)
      have hP8 := (hP7.below bel8).mono (show wc.heap.size ≤ (w8.alloc (.cells (h8 S) 24)).heap.size by simp; omega)
      have bw8 := bw7.trans (bel8.mono (by omega))
      have hs8' : w8.heap.size < (w8.alloc (.cells (h8 S) 24)).heap.size := by simp
      generalize w8.alloc (.cells (h8 S) 24) = V2 at *
      clear R7 X7 S7 hF7 hP7 bw7 hN7 bel8 hb8 hV7
      have hP8d : HS V2.drew.heap.size V2.drew sq m cq P := hP8.below ((Below.refl _ _).drew)
      have hP8a : ∀ o, HS (V2.drew.alloc o).heap.size (V2.drew.alloc o) sq m cq P := fun o => (hP8d.below (alloc_bel' _ o)).mono (by simp)
      try simp only [Act.put]
      go_cut [20, 21] (fun s t wc => ∃ b, s = .pointer (some ⟨b, 0, none⟩) ∧ t = .bool true ∧ V2.heap.size ≤ b ∧ Arr wc b 24 (h8 R) ∧ Below V2.heap.size V2 wc)
      case first =>
        refine wp_region_held_drew (S := fun u => Below V2.heap.size V2 u) (by kernel_rfl) ((Below.refl _ _).drew) (fun hHeld => ?_)
        refine wpAnyH_take (i := 0) (oi := ⟨_, _, _, _, _, _⟩) rfl (by kernel_rfl) (by kernel_rfl) (by kernel_rfl) (fun _ _ _ h => h) (y24 (by rfl) (.tmp 16) rfl (b) (0) rfl S hS32 (fun u hu => (S8.below hu (by omega)).range)) (by assumption) ?_
        try simp only [Act.put, List.setIfInBounds_toArray, List.set_cons_zero, List.set_cons_succ]
        refine wpAnyH_take (i := 1) (oi := ⟨_, _, _, _, _, _⟩) (v := ?_) rfl (by kernel_rfl) (by kernel_rfl) (by kernel_rfl) (fun _ _ _ h => h) (Or.inl ⟨by rfl, ?_⟩) (by assumption) ?_
        rotate_left
        · intro u hSw
          go_simp
          try (with_reducible rfl)
        try simp only [Act.put, List.setIfInBounds_toArray, List.set_cons_zero, List.set_cons_succ]
        refine wpAnyH_take (i := 2) (oi := ⟨_, _, _, _, _, _⟩) (v := ?_) rfl (by kernel_rfl) (by kernel_rfl) (by kernel_rfl) (fun _ _ _ h => h) (Or.inl ⟨by rfl, ?_⟩) (by assumption) ?_
        rotate_left
        · intro u hSw
          go_simp
          try (with_reducible rfl)
        try simp only [Act.put, List.setIfInBounds_toArray, List.set_cons_zero, List.set_cons_succ]
        refine wpAnyH_take (i := 3) (oi := ⟨_, _, _, _, _, _⟩) (v := ?_) rfl (by kernel_rfl) (by kernel_rfl) (by kernel_rfl) (fun _ _ _ h => h) (Or.inl ⟨by rfl, ?_⟩) (by assumption) ?_
        rotate_left
        · intro u hSw
          go_simp
          try (with_reducible rfl)
        try simp only [Act.put, List.setIfInBounds_toArray, List.set_cons_zero, List.set_cons_succ]
        refine wpAnyH_take (i := 4) (oi := ⟨_, _, _, _, _, _⟩) (v := ?_) rfl (by kernel_rfl) (by kernel_rfl) (by kernel_rfl) (fun _ _ _ h => h) (Or.inl ⟨by rfl, ?_⟩) (by assumption) ?_
        rotate_left
        · intro u hSw
          go_simp
          try (with_reducible rfl)
        try simp only [Act.put, List.setIfInBounds_toArray, List.set_cons_zero, List.set_cons_succ]
        refine wpAnyH_take (i := 5) (oi := ⟨_, _, _, _, _, _⟩) rfl (by kernel_rfl) (by kernel_rfl) (by kernel_rfl) (fun _ _ _ h => h) (y24 (by rfl) (.tmp 126) rfl (w.heap.size + 1) (i * 32) rfl N hN32 (fun u hu => range_below hN8 hu (by omega))) (by assumption) ?_
        try simp only [Act.put, List.setIfInBounds_toArray, List.set_cons_zero, List.set_cons_succ]
        refine wpAnyH_take (i := 6) (oi := ⟨_, _, _, _, _, _⟩) rfl (by kernel_rfl) (by kernel_rfl) (by kernel_rfl) (fun _ _ _ h => h) (y24 (by rfl) (.tmp 15) rfl (u1.heap.size) (0) rfl X hX32 (fun u hu => (X8.below hu (by omega)).range)) (by assumption) ?_
        try simp only [Act.put, List.setIfInBounds_toArray, List.set_cons_zero, List.set_cons_succ]
        refine wpAnyH_take (i := 7) (oi := ⟨_, _, _, _, _, _⟩) (v := ?_) rfl (by kernel_rfl) (by kernel_rfl) (by kernel_rfl) (fun _ _ _ h => h) (Or.inl ⟨by rfl, ?_⟩) (by assumption) ?_
        rotate_left
        · intro u hSw
          go_simp
          try (with_reducible rfl)
        try simp only [Act.put, List.setIfInBounds_toArray, List.set_cons_zero, List.set_cons_succ]
        refine wpAnyH_ready (rs := [8, 12]) (by kernel_rfl) (by simp) ?_
        refine AllReadyH.cons (o := ⟨_, _, _, _, _, _⟩) rfl (fun K hK => ?_) (AllReadyH.cons (o := ⟨_, _, _, _, _, _⟩) rfl (fun K hK => ?_) AllReadyH.nil)
        · go_simp
          refine (cW2.out _ sq cq hP8d).mono ?_; rintro e u2 ⟨rfl, hu2⟩; have hsu2 := hu2.size; simp at hsu2; have hHu : Below V2.heap.size V2 u2 := ((Below.refl V2.heap.size V2).drew).trans (hu2.mono (by simp))
          go_wp2_with fail
          refine hK.out _ _ hHu (fun hHeld => ?_)
          clear hK K
          try simp only [Act.put, List.setIfInBounds_toArray, List.set_cons_zero, List.set_cons_succ]
          refine wpAnyH_take (i := 9) (oi := ⟨_, _, _, _, _, _⟩) (v := ?_) rfl (by kernel_rfl) (by kernel_rfl) (by kernel_rfl) (fun _ _ _ h => h) (Or.inl ⟨by rfl, ?_⟩) (by assumption) ?_
          rotate_left
          · intro u hSw
            go_simp
            try (with_reducible rfl)
          try simp only [Act.put, List.setIfInBounds_toArray, List.set_cons_zero, List.set_cons_succ]
          refine wpAnyH_take (i := 10) (oi := ⟨_, _, _, _, _, _⟩) (v := ?_) rfl (by kernel_rfl) (by kernel_rfl) (by kernel_rfl) (fun _ _ _ h => h) (Or.inl ⟨by rfl, ?_⟩) (by assumption) ?_
          rotate_left
          · intro u hSw
            go_simp
            try (with_reducible rfl)
          try simp only [Act.put, List.setIfInBounds_toArray, List.set_cons_zero, List.set_cons_succ]
          refine wpAnyH_take (i := 11) (oi := ⟨_, _, _, _, _, _⟩) (v := ?_) rfl (by kernel_rfl) (by kernel_rfl) (by kernel_rfl) (fun _ _ _ h => h) (Or.inl ⟨by rfl, ?_⟩) (by assumption) ?_
          rotate_left
          · intro u hSw
            go_simp
            try (with_reducible rfl)
          try simp only [Act.put, List.setIfInBounds_toArray, List.set_cons_zero, List.set_cons_succ]
          refine wpAnyH_ready (rs := [12]) (by kernel_rfl) (by simp) ?_
          refine AllReadyH.cons (o := ⟨_, _, _, _, _, _⟩) rfl (fun K hK => ?_) AllReadyH.nil
          go_simp
          go_wp2_with fail
          refine hK.out _ _ (hHu.alloc (by omega) _) (fun hHeld => ?_)
          clear hK K
          try simp only [Act.put, List.setIfInBounds_toArray, List.set_cons_zero, List.set_cons_succ]
          refine wpAnyH_ready (rs := [13]) (by kernel_rfl) (by simp) ?_
          refine AllReadyH.cons (o := ⟨_, _, _, _, _, _⟩) rfl (fun K hK => ?_) AllReadyH.nil
          refine step_want rfl (wp_store_row 24 (.tmp 20) (.tmp 131) rfl u2.heap.size (h8 R) rfl rfl 24 _ (Arr.new u2 24 _) (s24h8 hR32) (by rw [h8_size, hR32]; rfl) (h8_one R) ?_)
          refine hK.out _ _ (below_setRow (hHu.alloc (by omega) _) (by omega) _) (fun hHeld => ?_)
          clear hK K
          try simp only [Act.put, List.setIfInBounds_toArray, List.set_cons_zero, List.set_cons_succ]
          refine wpAnyH_take (i := 14) (oi := ⟨_, _, _, _, _, _⟩) (v := ?_) rfl (by kernel_rfl) (by kernel_rfl) (by kernel_rfl) (fun _ _ _ h => h) (Or.inl ⟨by rfl, ?_⟩) (by assumption) ?_
          rotate_left
          · intro u hSw
            go_simp
            try (with_reducible rfl)
          try simp only [Act.put, List.setIfInBounds_toArray, List.set_cons_zero, List.set_cons_succ]
          refine wpAnyH_done (by kernel_rfl) ?_ _
          go_wp2_with fail
          go_meet
          exact ⟨_, rfl, rfl, by omega, (Arr.new u2 24 _).setRow _, hHeld⟩
        · go_simp
          go_wp2_with fail
          refine hK.out _ _ (((Below.refl V2.heap.size V2).drew).alloc (by simp) _) (fun hHeld => ?_)
          clear hK K
          try simp only [Act.put, List.setIfInBounds_toArray, List.set_cons_zero, List.set_cons_succ]
          refine wpAnyH_ready (rs := [8]) (by kernel_rfl) (by simp) ?_
          refine AllReadyH.cons (o := ⟨_, _, _, _, _, _⟩) rfl (fun K hK => ?_) AllReadyH.nil
          go_simp
          refine (cW2.out _ sq cq (hP8a _)).mono ?_; rintro e u2 ⟨rfl, hu2⟩; have hsu2 := hu2.size; simp at hsu2; have hHu : Below V2.heap.size V2 u2 := (((Below.refl V2.heap.size V2).drew).alloc (by simp) _).trans (hu2.mono (by simp)); have hZu := (Arr.new V2.drew 24 _).below hu2 (by simp)
          go_wp2_with fail
          refine hK.out _ _ hHu (fun hHeld => ?_)
          clear hK K
          try simp only [Act.put, List.setIfInBounds_toArray, List.set_cons_zero, List.set_cons_succ]
          refine wpAnyH_take (i := 9) (oi := ⟨_, _, _, _, _, _⟩) (v := ?_) rfl (by kernel_rfl) (by kernel_rfl) (by kernel_rfl) (fun _ _ _ h => h) (Or.inl ⟨by rfl, ?_⟩) (by assumption) ?_
          rotate_left
          · intro u hSw
            go_simp
            try (with_reducible rfl)
          try simp only [Act.put, List.setIfInBounds_toArray, List.set_cons_zero, List.set_cons_succ]
          refine wpAnyH_take (i := 10) (oi := ⟨_, _, _, _, _, _⟩) (v := ?_) rfl (by kernel_rfl) (by kernel_rfl) (by kernel_rfl) (fun _ _ _ h => h) (Or.inl ⟨by rfl, ?_⟩) (by assumption) ?_
          rotate_left
          · intro u hSw
            go_simp
            try (with_reducible rfl)
          try simp only [Act.put, List.setIfInBounds_toArray, List.set_cons_zero, List.set_cons_succ]
          refine wpAnyH_take (i := 11) (oi := ⟨_, _, _, _, _, _⟩) (v := ?_) rfl (by kernel_rfl) (by kernel_rfl) (by kernel_rfl) (fun _ _ _ h => h) (Or.inl ⟨by rfl, ?_⟩) (by assumption) ?_
          rotate_left
          · intro u hSw
            go_simp
            try (with_reducible rfl)
          try simp only [Act.put, List.setIfInBounds_toArray, List.set_cons_zero, List.set_cons_succ]
          refine wpAnyH_ready (rs := [13]) (by kernel_rfl) (by simp) ?_
          refine AllReadyH.cons (o := ⟨_, _, _, _, _, _⟩) rfl (fun K hK => ?_) AllReadyH.nil
          refine step_want rfl (wp_store_row 24 (.tmp 20) (.tmp 131) rfl V2.heap.size (h8 R) rfl rfl 24 _ hZu (s24h8 hR32) (by rw [h8_size, hR32]; rfl) (h8_one R) ?_)
          refine hK.out _ _ (below_setRow hHu (by omega) _) (fun hHeld => ?_)
          clear hK K
          try simp only [Act.put, List.setIfInBounds_toArray, List.set_cons_zero, List.set_cons_succ]
          refine wpAnyH_take (i := 14) (oi := ⟨_, _, _, _, _, _⟩) (v := ?_) rfl (by kernel_rfl) (by kernel_rfl) (by kernel_rfl) (fun _ _ _ h => h) (Or.inl ⟨by rfl, ?_⟩) (by assumption) ?_
          rotate_left
          · intro u hSw
            go_simp
            try (with_reducible rfl)
          try simp only [Act.put, List.setIfInBounds_toArray, List.set_cons_zero, List.set_cons_succ]
          refine wpAnyH_done (by kernel_rfl) ?_ _
          go_wp2_with fail
          go_meet
          exact ⟨_, rfl, rfl, Nat.le_refl _, hZu.setRow _, hHeld⟩
      case rest =>
        obtain ⟨c, rfl, rfl, hcc, Q9, hV9⟩ := hcut
        have hs9 := hV9.size
        have hc9 := Q9.lt
        have E1 := run_eq24 hS32 hS32
        have E2 := run_eq24 hR32 hR32
        rw [decide_eq_true rfl] at E1 E2
        have R9 := R8.below hV9 (by omega)
        have S9 := S8.below hV9 (by omega)
        have T9 := T8.below hV9 (by omega)
        have bw9 := bw8.trans (hV9.mono (by omega))
        clear R8 X8 S8 T8 hN8 hP8 bw8 hP8d hP8a hV9
        go_wp2_with (first
          | (go_at_call 13; go_must (refine (anchored_any wc).mono ?_; rintro e w10 ⟨rfl, hb10⟩; have R10 := R9.below hb10 (by omega); have S10 := S9.below hb10 (by omega); have T10 := T9.below hb10 (by omega); have Q10 := Q9.below hb10 (by omega)))
          | (refine ld24g (by rfl) _ (by rfl) b 0 (by rfl) S hS32 S10.range ?_)
          | (refine ld24g (by rfl) _ (by rfl) w8.heap.size 0 (by rfl) S hS32 T10.range ?_)
          | (refine ld24g (by rfl) _ (by rfl) c 0 (by rfl) R hR32 Q10.range ?_)
          | (refine ld24g (by rfl) _ (by rfl) w2.heap.size 0 (by rfl) R hR32 R10.range ?_))
        go_ret
        exact ⟨rfl, bw9.trans (hb10.mono (by omega))⟩
end Go.Proofs.Ythpinikdkfiagaa
