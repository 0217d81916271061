/- Layer collide: the laws' anchor. -/
import Derived.Test.YtgjnbpimldjkpaaCj
import Derived.Test.YtgjnbpimldjkpaaCk0
namespace Go.Proofs.Ytgjnbpimldjkpaa
open Go.RowKit
set_option linter.unusedVariables false
set_option linter.unusedSimpArgs false

set_option maxRecDepth 100000 in
set_option maxHeartbeats 2000000 in
theorem anchored_any (w : World) : Calls Try.prog 9 #[] w fun e w' => e = .returned (.bool true) ∧ Below w.heap.size w w' := by
  obtain ⟨s, hs⟩ : ∃ s, s = shl [9] := ⟨_, rfl⟩
  have h9 := fun w g hg => sum1 9 w g hg
  rw [← hs] at h9
  have hs32 : s.length = 32 := by rw [hs]; exact shl_len _
  have bs : Bts s := by rw [hs]; exact shl_bts _
  have hsz : s ≠ Z32 := by rw [hs]; exact nine_ne
  clear hs
  replace h9 := Hid.mk' h9
  replace hsz := Hid.mk' hsz
  go_enter Try.func9, Try.ntmps9
  go_upto_region 2 with (first
    | (go_at_call 17; go_must (refine (h9.out w w.heap.size rfl).mono ?_; rintro e w1 ⟨rfl, hb1⟩))
    | (refine st24n (by rfl) _ _ (by rfl) w1 w1.heap.size rfl (by rfl) s (by rfl) (by rfl) hs32 ?_))
  have AS := Arr.new w1 29 (h8 s)
  have hB1 := hb1.alloc hb1.size (.cells (h8 s) 29)
  have hwl : w1.heap.size < (w1.alloc (.cells (h8 s) 29)).heap.size := by simp
  generalize w1.alloc (.cells (h8 s) 29) = W1 at *
  obtain ⟨e1, he1⟩ : ∃ e : En, e = ⟨some ⟨W1.heap.size, 0, none⟩, 1, 1, [1], s⟩ := ⟨_, rfl⟩
  obtain ⟨e2, he2⟩ : ∃ e : En, e = ⟨some ⟨W1.heap.size + 1, 0, none⟩, 1, 1, [2], Z32⟩ := ⟨_, rfl⟩
  obtain ⟨e3, he3⟩ : ∃ e : En, e = ⟨some ⟨W1.heap.size + 1 + 1, 0, none⟩, 1, 1, [3], s⟩ := ⟨_, rfl⟩
  have k1 := built54 (some ⟨W1.heap.size, 0, none⟩) 1 1 s hs32 [1]
  have k2 := built54z (some ⟨W1.heap.size + 1, 0, none⟩) 1 1 [2]
  have k3 := built54 (some ⟨W1.heap.size + 1 + 1, 0, none⟩) 1 1 s hs32 [3]
  rw [← he1] at k1
  rw [← he2] at k2
  rw [← he3] at k3
  have q1 : e1.sm.length = 32 := by rw [he1]; exact hs32
  have q2 : e2.sm.length = 32 := by rw [he2]; exact Z32_len
  have q3 : e3.sm.length = 32 := by rw [he3]; exact hs32
  have hes : Hid (∀ u : World, Below (W1.heap.size + 3) ((((W1.alloc (.cells #[.int .u8 1] 5)).alloc (.cells #[.int .u8 2] 5)).alloc (.cells #[.int .u8 3] 5))) u → ∀ e ∈ [e1, e2, e3], EnOK (W1.heap.size + 3) u e) := Hid.mk' (fun u hu e he => by
    have B1 := (((Arr.new W1 5 #[.int .u8 1]).alloc (.cells #[.int .u8 2] 5)).alloc (.cells #[.int .u8 3] 5))
    have B2 := (Arr.new (W1.alloc (.cells #[.int .u8 1] 5)) 5 #[.int .u8 2]).alloc (.cells #[.int .u8 3] 5)
    have B3 := Arr.new ((W1.alloc (.cells #[.int .u8 1] 5)).alloc (.cells #[.int .u8 2] 5)) 5 #[.int .u8 3]
    simp only [World.size_alloc] at B2 B3
    have hsz3 : (((W1.alloc (.cells #[.int .u8 1] 5)).alloc (.cells #[.int .u8 2] 5)).alloc (.cells #[.int .u8 3] 5)).heap.size = W1.heap.size + 3 := by simp
    have b1 := bs_lit B1 (by omega)
    have b2 := bs_lit B2 (by omega)
    have b3 := bs_lit B3 (by omega)
    rw [hsz3] at b1 b2 b3
    simp only [List.mem_cons, List.not_mem_nil, or_false] at he
    rcases he with rfl | rfl | rfl
    · exact ⟨by rw [he1]; exact b1.below hu, q1⟩
    · exact ⟨by rw [he2]; exact b2.below hu, q2⟩
    · exact ⟨by rw [he3]; exact b3.below hu, q3⟩)
  have hfa : Hid (∀ a b c, Fnd [e1, e2, e3] a b c → a = 0 ∧ b = 2 ∧ c = true) := Hid.mk' (fun a b c h => fnd_anchor (by rw [he1]; exact ⟨rfl, rfl⟩) (by rw [he2]; exact ⟨rfl, rfl⟩) (by rw [he3]; exact ⟨rfl, rfl⟩) hsz.out h)
  clear he1 he2 he3
  have hfind := Hid.mk' (find_any (some ⟨W1.heap.size + 1 + 1 + 1, 0, none⟩) 3 3 [e1, e2, e3] _ ((((W1.alloc (.cells #[.int .u8 1] 5)).alloc (.cells #[.int .u8 2] 5)).alloc (.cells #[.int .u8 3] 5)).alloc (.cells (flatE [e1, e2, e3]).toArray 54)) (es_lit (by simpa using Arr.new (((W1.alloc (.cells #[.int .u8 1] 5)).alloc (.cells #[.int .u8 2] 5)).alloc (.cells #[.int .u8 3] 5)) 54 (flatE [e1, e2, e3]).toArray) (fun e he => (hes.out _ ((Below.refl _ _).alloc (by simp) _) e he).mono (by simp)) rfl (by omega)))
  have A1 := (AS.alloc (.cells #[.int .u8 1] 5))
  have A2 := ((AS.alloc (.cells #[.int .u8 1] 5)).alloc (.cells #[.int .u8 2] 5)).alloc (.cells #[.int .u8 3] 5)
  go_upto_region 3 with (first
    | (refine ld24 (by rfl) (.tmp 1) (by rfl) w1.heap.size 0 (by rfl) s hs32 (by first | with_reducible exact A1.range | with_reducible exact A2.range) ?_)
    | (refine bdT (by rfl) 54 #[(0, .tmp 10), (1, .tmp 11)] (by rfl) (by rfl) k1 ?_)
    | (refine bdT (by rfl) 54 #[(0, .tmp 13)] (by rfl) (by rfl) k2 ?_)
    | (refine bdT (by rfl) 54 #[(0, .tmp 15), (1, .tmp 16)] (by rfl) (by rfl) k3 ?_)
    | (refine b3E (by rfl) (.tmp 12) (.tmp 14) (.tmp 17) (by rfl) e1 e2 e3 (by rfl) (by rfl) (by rfl) q1 q2 q3 ?_)
    | (go_at_call 7; go_must (refine hfind.out.mono ?_; rintro r w2 ⟨a, b, c, rfl, hfn, hb2⟩; obtain ⟨rfl, rfl, rfl⟩ := hfa.out a b c hfn)))
  have hbV := (((hB1.alloc hB1.size (.cells #[.int .u8 1] 5)).alloc (by simp; have := hB1.size; omega) (.cells #[.int .u8 2] 5)).alloc (by simp; have := hB1.size; omega) (.cells #[.int .u8 3] 5)).alloc (by simp; have := hB1.size; omega) (.cells (flatE [e1, e2, e3]).toArray 54)
  have hB2 := hbV.trans (hb2.mono hbV.size)
  have AS2 := (A2.alloc (.cells (flatE [e1, e2, e3]).toArray 54)).bel hb2
  clear hbV hb2 A1 A2 hfind hes hfa k1 k2 k3 q1 q2 q3 AS
  have HS1 := hs_one (Arr.new w2 29 (h8 s)) hs32
  have hpath := Hid.mk' (path_any 0 s _ _ 1 1 [s] _ hs32 bs HS1 (fun Y hY => by simp at hY; subst hY; exact bs))
  go_upto_region 4 with (first
    | (refine ld24 (by rfl) (.tmp 1) (by rfl) w1.heap.size 0 (by rfl) s hs32 AS2.range ?_)
    | (refine b1L (by rfl) (.tmp 25) (by rfl) s (by rfl) hs32 ?_)
    | (go_at_call 10; go_must (refine hpath.out.mono ?_; rintro r V ⟨sp, n, cap, es, rfl, hES, hbs, hsm, -, hb4⟩)))
  have hFo : FoOK 0 [s].length := ⟨by simp, by omega, by simp⟩
  have hE0 : foE 0 [s] = 0 := by unfold foE; rw [if_pos hFo]
  have hbs1 := hbs.out
  rw [if_pos hFo] at hbs1
  have hpe : pth (Int.toNat 0) s [s] = [1 :: (s ++ s)] := by simp [pth, pb]
  rw [hpe] at hbs1
  obtain ⟨e, rfl⟩ : ∃ e, es = [e] := by
    have hl1 : es.length = 1 := by simpa using congrArg List.length hbs1
    exact List.length_eq_one_iff.1 hl1
  obtain rfl : n = 1 := hES.len.out
  have hesm : e.sm = pr s s := by rw [hsm.out e (by simp)]; simp at hbs1; rw [hbs1]; rfl
  have he32 : e.sm.length = 32 := by rw [hesm]; exact pr_len _ _
  obtain ⟨gp, op, rfl, hgp, hR⟩ := hES.at0 (by omega)
  have rp := range_sm (hR 0 e rfl)
  rw [Nat.zero_mul, Nat.add_zero] at rp
  have heq := run_eq24 he32 (pr_len s s)
  rw [decide_eq_true hesm] at heq
  rw [hE0]
  have hB4 := (hB2.alloc hB2.size (.cells (h8 s) 29)).trans (hb4.mono (by simp; have := hB2.size; omega))
  have AS := (AS2.alloc (.cells (h8 s) 29)).bel hb4
  have hwV := AS.lt
  clear hesm hbs hbs1 hsm hpath HS1 AS2 hES hR hFo hE0 hpe hb4 hB2
  go_wp2_with fail
  refine wp_region_held_drew (S := fun u => Below V.heap.size V u) (by kernel_rfl) ((Below.refl _ _).drew) (fun hHeld => ?_)
  refine wpAnyH_take (i := 0) (oi := ⟨_, _, _, _, _, _⟩) (v := ?_) rfl (by kernel_rfl) (by kernel_rfl) (by kernel_rfl) (fun _ _ _ h => h) (Or.inl ⟨by rfl, ?_⟩) (by assumption) ?_
  rotate_left
  · intro u hSw
    go_simp
    try (with_reducible rfl)
  try simp only [Act.put, List.setIfInBounds_toArray, List.set_cons_zero, List.set_cons_succ]
  refine wpAnyH_take (i := 1) (oi := ⟨_, _, _, _, _, _⟩) (v := ?_) rfl (by kernel_rfl) (by kernel_rfl) (by kernel_rfl) (fun _ _ _ h => h) (Or.inl ⟨by rfl, ?_⟩) (by assumption) ?_
  rotate_left
  · intro u hSw
    go_simp
    try (with_reducible rfl)
  try simp only [Act.put, List.setIfInBounds_toArray, List.set_cons_zero, List.set_cons_succ]
  refine wpAnyH_take (i := 2) (oi := ⟨_, _, _, _, _, _⟩) (v := ?_) rfl (by kernel_rfl) (by kernel_rfl) (by kernel_rfl) (fun _ _ _ h => h) (Or.inl ⟨by rfl, ?_⟩) (by assumption) ?_
  rotate_left
  · intro u hSw
    go_simp
    try (with_reducible rfl)
  try simp only [Act.put, List.setIfInBounds_toArray, List.set_cons_zero, List.set_cons_succ]
  refine wpAnyH_take (i := 3) (oi := ⟨_, _, _, _, _, _⟩) (v := ?_) rfl (by kernel_rfl) (by kernel_rfl) (by kernel_rfl) (fun _ _ _ h => h) (Or.inl ⟨by rfl, ?_⟩) (by assumption) ?_
  rotate_left
  · intro u hSw
    go_simp
    try (with_reducible rfl)
  try simp only [Act.put, List.setIfInBounds_toArray, List.set_cons_zero, List.set_cons_succ]
  refine wpAnyH_take (i := 4) (oi := ⟨_, _, _, _, _, _⟩) (v := ?_) rfl (by kernel_rfl) (by kernel_rfl) (by kernel_rfl) (fun _ _ _ h => h) (Or.inl ⟨by rfl, ?_⟩) (by assumption) ?_
  rotate_left
  · intro u hSw
    go_simp
    try (with_reducible rfl)
  try simp only [Act.put, List.setIfInBounds_toArray, List.set_cons_zero, List.set_cons_succ]
  refine wpAnyH_take (i := 5) (oi := ⟨_, _, _, _, _, _⟩) (v := ?_) rfl (by kernel_rfl) (by kernel_rfl) (by kernel_rfl) (fun _ _ _ h => h) (Or.inl ⟨by rfl, ?_⟩) (by assumption) ?_
  rotate_left
  · intro u hSw
    go_simp
    try (with_reducible rfl)
  try simp only [Act.put, List.setIfInBounds_toArray, List.set_cons_zero, List.set_cons_succ]
  refine wpAnyH_take (i := 6) (oi := ⟨_, _, _, _, _, _⟩) (v := ?_) rfl (by kernel_rfl) (by kernel_rfl) (by kernel_rfl) (fun _ _ _ h => h) (Or.inl ⟨by rfl, ?_⟩) (by assumption) ?_
  rotate_left
  · intro u hSw
    go_simp
    try (with_reducible rfl)
  try simp only [Act.put, List.setIfInBounds_toArray, List.set_cons_zero, List.set_cons_succ]
  refine wpAnyH_take (i := 7) (oi := ⟨_, _, _, _, _, _⟩) (v := ?_) rfl (by kernel_rfl) (by kernel_rfl) (by kernel_rfl) (fun _ _ _ h => h) (Or.inl ⟨by rfl, ?_⟩) (by assumption) ?_
  rotate_left
  · intro u hSw
    go_simp
    try (with_reducible rfl)
  try simp only [Act.put, List.setIfInBounds_toArray, List.set_cons_zero, List.set_cons_succ]
  refine wpAnyH_take (i := 8) (oi := ⟨_, _, _, _, _, _⟩) (v := ?_) rfl (by kernel_rfl) (by kernel_rfl) (by kernel_rfl) (fun _ _ _ h => h) (Or.inl ⟨by rfl, ?_⟩) (by assumption) ?_
  rotate_left
  · intro u hSw
    go_simp
    try (with_reducible rfl)
  try simp only [Act.put, List.setIfInBounds_toArray, List.set_cons_zero, List.set_cons_succ]
  refine wpAnyH_take (i := 9) (oi := ⟨_, _, _, _, _, _⟩) (v := ?_) rfl (by kernel_rfl) (by kernel_rfl) (by kernel_rfl) (fun _ _ _ h => h) (Or.inl ⟨by rfl, ?_⟩) (by assumption) ?_
  rotate_left
  · intro u hSw
    go_simp
    try (with_reducible rfl)
  try simp only [Act.put, List.setIfInBounds_toArray, List.set_cons_zero, List.set_cons_succ]
  refine wpAnyH_take (i := 10) (oi := ⟨_, _, _, _, _, _⟩) (v := ?_) rfl (by kernel_rfl) (by kernel_rfl) (by kernel_rfl) (fun _ _ _ h => h) (Or.inl ⟨by rfl, ?_⟩) (by assumption) ?_
  rotate_left
  · intro u hSw
    go_simp
    try (with_reducible rfl)
  try simp only [Act.put, List.setIfInBounds_toArray, List.set_cons_zero, List.set_cons_succ]
  refine wpAnyH_take (i := 11) (oi := ⟨_, _, _, _, _, _⟩) (v := ?_) rfl (by kernel_rfl) (by kernel_rfl) (by kernel_rfl) (fun _ _ _ h => h) (Or.inl ⟨by rfl, ?_⟩) (by assumption) ?_
  rotate_left
  · intro u hSw
    go_simp
    try (with_reducible rfl)
  try simp only [Act.put, List.setIfInBounds_toArray, List.set_cons_zero, List.set_cons_succ]
  refine wpAnyH_take (i := 12) (oi := ⟨_, _, _, _, _, _⟩) (v := ?_) rfl (by kernel_rfl) (by kernel_rfl) (by kernel_rfl) (fun _ _ _ h => h) (Or.inl ⟨by rfl, ?_⟩) (by assumption) ?_
  rotate_left
  · intro u hSw
    go_simp
    try (with_reducible rfl)
  try simp only [Act.put, List.setIfInBounds_toArray, List.set_cons_zero, List.set_cons_succ]
  refine wpAnyH_take (i := 13) (oi := ⟨_, _, _, _, _, _⟩) (v := ?_) rfl (by kernel_rfl) (by kernel_rfl) (by kernel_rfl) (fun _ _ _ h => h) (Or.inl ⟨by rfl, ?_⟩) (by assumption) ?_
  rotate_left
  · intro u hSw
    go_simp
    try (with_reducible rfl)
  try simp only [Act.put, List.setIfInBounds_toArray, List.set_cons_zero, List.set_cons_succ]
  refine wpAnyH_take (i := 14) (oi := ⟨_, _, _, _, _, _⟩) (v := ?_) rfl (by kernel_rfl) (by kernel_rfl) (by kernel_rfl) (fun _ _ _ h => h) (Or.inl ⟨by rfl, ?_⟩) (by assumption) ?_
  rotate_left
  · intro u hSw
    go_simp
    try (with_reducible rfl)
  try simp only [Act.put, List.setIfInBounds_toArray, List.set_cons_zero, List.set_cons_succ]
  refine wpAnyH_take (i := 15) (oi := ⟨_, _, _, _, _, _⟩) (v := ?_) rfl (by kernel_rfl) (by kernel_rfl) (by kernel_rfl) (fun _ _ _ h => h) (Or.inl ⟨by rfl, ?_⟩) (by assumption) ?_
  rotate_left
  · intro u hSw
    go_simp
    try (with_reducible rfl)
  try simp only [Act.put, List.setIfInBounds_toArray, List.set_cons_zero, List.set_cons_succ]
  refine wpAnyH_take (i := 16) (oi := ⟨_, _, _, _, _, _⟩) (v := ?_) rfl (by kernel_rfl) (by kernel_rfl) (by kernel_rfl) (fun _ _ _ h => h) (Or.inl ⟨by rfl, ?_⟩) (by assumption) ?_
  rotate_left
  · intro u hSw
    go_simp
    try (with_reducible rfl)
  try simp only [Act.put, List.setIfInBounds_toArray, List.set_cons_zero, List.set_cons_succ]
  refine wpAnyH_take (i := 17) (oi := ⟨_, _, _, _, _, _⟩) (v := ?_) rfl (by kernel_rfl) (by kernel_rfl) (by kernel_rfl) (fun _ _ _ h => h) (Or.inl ⟨by rfl, ?_⟩) (by assumption) ?_
  rotate_left
  · intro u hSw
    go_simp
    try (with_reducible rfl)
  try simp only [Act.put, List.setIfInBounds_toArray, List.set_cons_zero, List.set_cons_succ]
  refine wpAnyH_take (i := 18) (oi := ⟨_, _, _, _, _, _⟩) (v := ?_) rfl (by kernel_rfl) (by kernel_rfl) (by kernel_rfl) (fun _ _ _ h => h) (Or.inl ⟨by rfl, ?_⟩) (by assumption) ?_
  rotate_left
  · intro u hSw
    go_simp
    try (with_reducible rfl)
  try simp only [Act.put, List.setIfInBounds_toArray, List.set_cons_zero, List.set_cons_succ]
  refine wpAnyH_take (i := 19) (oi := ⟨_, _, _, _, _, _⟩) (v := ?_) rfl (by kernel_rfl) (by kernel_rfl) (by kernel_rfl) (fun _ _ _ h => h) (Or.inl ⟨by rfl, ?_⟩) (by assumption) ?_
  rotate_left
  · intro u hSw
    go_simp
    try (with_reducible rfl)
  try simp only [Act.put, List.setIfInBounds_toArray, List.set_cons_zero, List.set_cons_succ]
  refine wpAnyH_take (i := 20) (oi := ⟨_, _, _, _, _, _⟩) (v := ?_) rfl (by kernel_rfl) (by kernel_rfl) (by kernel_rfl) (fun _ _ _ h => h) (Or.inl ⟨by rfl, ?_⟩) (by assumption) ?_
  rotate_left
  · intro u hSw
    go_simp
    try (with_reducible rfl)
  try simp only [Act.put, List.setIfInBounds_toArray, List.set_cons_zero, List.set_cons_succ]
  refine wpAnyH_take (i := 21) (oi := ⟨_, _, _, _, _, _⟩) (v := ?_) rfl (by kernel_rfl) (by kernel_rfl) (by kernel_rfl) (fun _ _ _ h => h) (Or.inl ⟨by rfl, ?_⟩) (by assumption) ?_
  rotate_left
  · intro u hSw
    go_simp
    try (with_reducible rfl)
  try simp only [Act.put, List.setIfInBounds_toArray, List.set_cons_zero, List.set_cons_succ]
  refine wpAnyH_take (i := 22) (oi := ⟨_, _, _, _, _, _⟩) rfl (by kernel_rfl) (by kernel_rfl) (by kernel_rfl) (fun _ _ _ h => h) (y24 (by rfl) (.tmp 51) rfl (gp) (op + 1) rfl e.sm he32 (fun u hu => range_below rp hu (by omega))) (by assumption) ?_
  try simp only [Act.put, List.setIfInBounds_toArray, List.set_cons_zero, List.set_cons_succ]
  refine wpAnyH_take (i := 23) (oi := ⟨_, _, _, _, _, _⟩) rfl (by kernel_rfl) (by kernel_rfl) (by kernel_rfl) (fun _ _ _ h => h) (y24 (by rfl) (.tmp 1) rfl (w1.heap.size) (0) rfl s hs32 (fun u hu => (AS.below hu hwV).range)) (by assumption) ?_
  try simp only [Act.put, List.setIfInBounds_toArray, List.set_cons_zero, List.set_cons_succ]
  refine wpAnyH_take (i := 24) (oi := ⟨_, _, _, _, _, _⟩) rfl (by kernel_rfl) (by kernel_rfl) (by kernel_rfl) (fun _ _ _ h => h) (y24 (by rfl) (.tmp 1) rfl (w1.heap.size) (0) rfl s hs32 (fun u hu => (AS.below hu hwV).range)) (by assumption) ?_
  try simp only [Act.put, List.setIfInBounds_toArray, List.set_cons_zero, List.set_cons_succ]
  refine wpAnyH_ready (rs := [25]) (by kernel_rfl) (by simp) ?_
  refine AllReadyH.cons (o := ⟨_, _, _, _, _, _⟩) rfl (fun K hK => ?_) AllReadyH.nil
  go_simp
  refine (refPair_h s s _ hs32 hs32).mono ?_; rintro q u1 ⟨rfl, hu1⟩; have hH1 : Below V.heap.size V u1 := ((Below.refl _ _).drew).trans (hu1.mono (by simp))
  go_wp2_with fail
  refine hK.out _ _ hH1 (fun hHeld => ?_)
  clear hK K
  try simp only [Act.put, List.setIfInBounds_toArray, List.set_cons_zero, List.set_cons_succ]
  refine wpAnyH_take (i := 26) (oi := ⟨_, _, _, _, _, _⟩) (v := ?_) rfl (by kernel_rfl) (by kernel_rfl) (by kernel_rfl) (fun _ _ _ h => h) (Or.inl ⟨by rfl, ?_⟩) (by assumption) ?_
  rotate_left
  · intro u hSw
    go_simp
    try (with_reducible rfl)
  try simp only [Act.put, List.setIfInBounds_toArray, List.set_cons_zero, List.set_cons_succ]
  refine wpAnyH_take (i := 27) (oi := ⟨_, _, _, _, _, _⟩) (v := ?_) rfl (by kernel_rfl) (by kernel_rfl) (by kernel_rfl) (fun _ _ _ h => h) (Or.inl ⟨by rfl, ?_⟩) (by assumption) ?_
  rotate_left
  · intro u hSw
    go_simp
    try (with_reducible rfl)
  try simp only [Act.put, List.setIfInBounds_toArray, List.set_cons_zero, List.set_cons_succ]
  refine wpAnyH_take (i := 28) (oi := ⟨_, _, _, _, _, _⟩) (v := ?_) rfl (by kernel_rfl) (by kernel_rfl) (by kernel_rfl) (fun _ _ _ h => h) (Or.inl ⟨by rfl, ?_⟩) (by assumption) ?_
  rotate_left
  · intro u hSw
    go_simp
    try (with_reducible rfl)
  try simp only [Act.put, List.setIfInBounds_toArray, List.set_cons_zero, List.set_cons_succ]
  refine wpAnyH_done (by kernel_rfl) ?_ _

  go_wp2_with fail
  go_ret
  exact ⟨rfl, hB4.trans (hH1.mono hB4.size)⟩
end Go.Proofs.Ytgjnbpimldjkpaa
