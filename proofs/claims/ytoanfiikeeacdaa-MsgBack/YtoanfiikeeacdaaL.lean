/- Layer msg, the document: Write. -/
import Derived.Test.YtoanfiikeeacdaaK
import Derived.Test.YtoanfiikeeacdaaF
namespace Go.Proofs.Ytoanfiikeeacdaa
set_option linter.unusedSectionVars false
set_option maxHeartbeats 1000000
open Go.RowKit
set_option maxRecDepth 100000
set_option linter.unusedVariables false
set_option linter.unusedSimpArgs false

variable [DecidableEq Mg]
theorem cat5 (m : Mg) : cat (w13 m) 5 ++ m.ky ++ m.nx = m.bytes := by simp [cat, w13, Mg.bytes]
theorem lit5 (m : Mg) {k : Nat} (h : k < 5) : (#[.int .u64 m.kd, .int .u64 m.fr, .int .u64 m.tw, .int .u64 m.am, .int .u64 m.no] : Array Value)[k]? = some (.int .u64 (w13 m k)) := by
  match k, h with
  | 0, _ => rfl
  | 1, _ => rfl
  | 2, _ => rfl
  | 3, _ => rfl
  | 4, _ => rfl
set_option maxHeartbeats 2000000 in
theorem refWrite_any (m : Mg) (w : World) (hm : MgOK m) : Calls Try.prog 7 #[.agg m.arr] w (WPost m w) := by
  have A0 := Arr.new w 27 m.arr
  have hB0 := alloc_bel' w (.cells m.arr 27)
  have hcat := Hid.mk' (cat5 m)
  have hkl := hm.kl
  have hnl := hm.nl
  go_enter Try.func7, Try.ntmps7
  cases hmay : m.may
  · go_wp2_with (first
      | (refine atL 27 (.tmp 1) ?_; refine ld27 (by rfl) (.tmp 1) (by rfl) w.heap.size 27 (by rfl) m hm A0 ?_)
      | (go_at_call 9; go_must (refine (refMay_any m _ hm).mono ?_; rintro e w1 ⟨rfl, hb1⟩; have A1 := A0.bel hb1; have B1 := hB0.trans (hb1.mono (by simp)); clear A0)))
    go_ret2
    exact WPost.no hmay B1
  · go_upto_region 3 with (first
      | (refine atL 27 (.tmp 1) ?_; refine ld27 (by rfl) (.tmp 1) (by rfl) w.heap.size 27 (by rfl) m hm A0 ?_)
      | (go_at_call 9; go_must (refine (refMay_any m _ hm).mono ?_; rintro e w1 ⟨rfl, hb1⟩; have A1 := A0.bel hb1; have B1 := hB0.trans (hb1.mono (by simp)); clear A0)))
    have c0 := mg_c0 A1
    have c1 := mg_c1 A1
    have c2 := mg_c2 A1
    have c3 := mg_c3 A1
    have c4 := mg_c4 A1
    have k0 := hm.k0
    have k1 := hm.k1
    have kw : IntKind.u64.wrap m.kd = m.kd := wrap64_of k0 (by omega)
    have km : m.kd % 18446744073709551616 = m.kd := by omega
    have A2 := A1.alloc (.cells #[.int .u64 m.kd, .int .u64 m.fr, .int .u64 m.tw, .int .u64 m.am, .int .u64 m.no] 23)
    have L2 := Arr.new w1 23 #[.int .u64 m.kd, .int .u64 m.fr, .int .u64 m.tw, .int .u64 m.am, .int .u64 m.no]
    have B2 := B1.alloc B1.size (.cells #[.int .u64 m.kd, .int .u64 m.fr, .int .u64 m.tw, .int .u64 m.am, .int .u64 m.no] 23)
    have hA1 := A1.lt
    go_upto_region 6 with fail
    generalize hG : w1.heap.size = G at L2 ⊢
    have hGw : w.heap.size < G := by omega
    generalize w1.alloc (.cells #[.int .u64 m.kd, .int .u64 m.fr, .int .u64 m.tw, .int .u64 m.am, .int .u64 m.no] 23) = V at A2 L2 B2 ⊢
    clear c0 c1 c2 c3 c4 A1 B1 hb1 hB0
    go_loopw [5, 6] (fun u q wr => ∃ k : Nat, k ≤ 5 ∧ q = .int .i64 k ∧ wr.ownsRow (G + 1) 5 1 u (8 * k) (by8 (cat (w13 m) k)) ∧ Arr wr w.heap.size 27 m.arr ∧ Arr wr G 23 #[.int .u64 m.kd, .int .u64 m.fr, .int .u64 m.tw, .int .u64 m.am, .int .u64 m.no] ∧ Below w.heap.size w wr) (fun _ q _ => 5 - (intOf q).toNat)
    case atStart => exact ⟨0, by omega, rfl, World.ownsRow_nil _ _ _ _, A2, L2, B2⟩
    case round =>
      obtain ⟨k, hk, rfl, hou, A3, L3, B3⟩ := hrel
      clear A2 L2 B2
      have hsz := L3.lt
      by_cases hlt : k < 5
      · have h3 : (k : Int) < 5 := by omega
        have h4 : (0 : Int) ≤ k := by omega
        have x1 : wr.cell? ⟨G, k, none⟩ = some (.int .u64 (w13 m k)) := (L3.cell k).trans (lit5 m hlt)
        obtain ⟨x, hx⟩ : ∃ x, x = w13 m k := ⟨_, rfl⟩
        rw [← hx] at x1
        replace hx := Hid.mk' hx
        have het : Hid (cat (w13 m) (k + 1) = cat (w13 m) k ++ e8 x) := Hid.mk' (by rw [hx.out]; rfl)
        go_wp2_with (first
          | (go_at_call 17; go_must (refine (eight_any x _).mono ?_; rintro e u2 ⟨v2, rfl, hown2, hb2⟩; have B4 := B3.trans (hb2.mono B3.size); have A4 := A3.below hb2 A3.lt; have L4 := L3.below hb2 L3.lt; obtain ⟨s2, q2, rfl, hS2, hsp2⟩ := own_bs hown2 (e8_bts _) (by omega); have hou' := own_same hou (fun k hk => hb2.block k (own_lt hou hk)); have hn2 := hS2.nil; have hl2 := hS2.len; have hz2 := hb2.size; clear hou A3 L3 B3))
          | (at_builtin; go_must (refine append_bytes (by rfl) (.tmp 26) (.tmp 31) (by rfl) (G + 1) _ (8 * k) (cat (w13 m) k) (by rfl) hou' s2 8 q2 (e8 x) (by rfl) hl2.out hn2 hS2.sl (by omega) (by omega) ?_; intro v3 u3 hown3 hg3; have B5 := B4.grown hg3 B4.size (fun k e => by have := own_ge hou' k e; omega); have A5 := A4.grown hg3 (ne_own hou' (by omega)); have L5 := L4.grown hg3 (ne_own hou' (by omega)))))
        go_roundw
        case rel => exact ⟨k + 1, by omega, by go_num, by rw [het.out]; exact hown3, A5, L5, B5⟩
        case measure => simp [intOf]; omega
      · obtain rfl : k = 5 := by omega
        have K3 := mg_ky A3
        have lk := range_sl K3
        go_upto_region 9 with fail
        refine wp_region_held_drew (S := fun _ => True) (by kernel_rfl) trivial (fun hHeld => ?_)
        refine wpAnyH_take (i := 0) (oi := ⟨_, _, _, _, _, _⟩) (v := ?_) rfl (by kernel_rfl) (by kernel_rfl) (by kernel_rfl) (fun _ _ _ h => h) (Or.inl ⟨by rfl, ?_⟩) (by assumption) ?_
        rotate_left
        · intro u hSw
          go_simp
          try (with_reducible rfl)
        try simp only [Act.put, List.setIfInBounds_toArray, List.set_cons_zero, List.set_cons_succ]
        refine wpAnyH_take (i := 1) (oi := ⟨_, _, _, _, _, _⟩) (v := ?_) rfl (by kernel_rfl) (by kernel_rfl) (by kernel_rfl) (fun _ _ _ h => h) (Or.inl ⟨by rfl, ?_⟩) (by assumption) ?_
        rotate_left
        · intro u hSw
          go_simp
          try (with_reducible rfl)
        try simp only [Act.put, List.setIfInBounds_toArray, List.set_cons_zero, List.set_cons_succ]
        refine wpAnyH_take (i := 2) (oi := ⟨_, _, _, _, _, _⟩) (v := ?_) rfl (by kernel_rfl) (by kernel_rfl) (by kernel_rfl) (fun _ _ _ h => h) (Or.inl ⟨by rfl, ?_⟩) (by assumption) ?_
        rotate_left
        · intro u hSw
          go_simp
          try (with_reducible rfl)
        try simp only [Act.put, List.setIfInBounds_toArray, List.set_cons_zero, List.set_cons_succ]
        refine wpAnyH_take (i := 4) (oi := ⟨_, _, _, _, _, _⟩) (v := ?_) rfl (by kernel_rfl) (by kernel_rfl) (by kernel_rfl) (fun _ _ _ h => h) (Or.inl ⟨by rfl, ?_⟩) (by assumption) ?_
        rotate_left
        · intro u hSw
          go_simp
          try (with_reducible rfl)
        try simp only [Act.put, List.setIfInBounds_toArray, List.set_cons_zero, List.set_cons_succ]
        refine wpAnyH_take (i := 5) (oi := ⟨_, _, _, _, _, _⟩) (v := ?_) rfl (by kernel_rfl) (by kernel_rfl) (by kernel_rfl) (fun _ _ _ h => h) (Or.inl ⟨by rfl, ?_⟩) (by assumption) ?_
        rotate_left
        · intro u hSw
          go_simp
          try (with_reducible rfl)
        try simp only [Act.put, List.setIfInBounds_toArray, List.set_cons_zero, List.set_cons_succ]
        have hd : w.heap.size < G := hGw
        refine wpAnyH_ready (rs := [3]) (by kernel_rfl) (by simp) ?_
        refine AllReadyH.cons (o := ⟨_, _, _, _, _, _⟩) rfl (fun K hK => ?_) AllReadyH.nil
        refine step_append_bytes rfl (.tmp 33) (.tmp 35) rfl (G + 1) _ (8 * 5) (cat (w13 m) 5) rfl (own_same hou (fun k hk => rfl)) (some ⟨w.heap.size, 5, none⟩) 32 32 m.ky rfl hkl.symm (fun h => by cases h) lk (by omega) (by first | omega | (show G + 1 ≤ wr.heap.size; omega)) ?_; intro v4 u4 hown4 hg4; have B4 := B3.drew.grown hg4 (by simpa using B3.size) (fun k e => by have := own_ge hou k e; omega); have A4 := A3.drew.grown hg4 (ne_own hou (by omega)); have ln := range_sl (mg_nx A4 hkl); have hz4 := A4.lt; have hzz : wr.heap.size ≤ u4.heap.size := hg4.size
        refine hK.out _ _ trivial (fun hHeld => ?_)
        clear hK K
        try simp only [Act.put, List.setIfInBounds_toArray, List.set_cons_zero, List.set_cons_succ]
        refine wpAnyH_ready (rs := [6]) (by kernel_rfl) (by simp) ?_
        refine AllReadyH.cons (o := ⟨_, _, _, _, _, _⟩) rfl (fun K hK => ?_) AllReadyH.nil
        refine step_append_bytes rfl (.tmp 36) (.tmp 38) rfl (G + 1) _ (8 * 5 + 32) (cat (w13 m) 5 ++ m.ky) rfl hown4 (some ⟨w.heap.size, 37, none⟩) 32 32 m.nx rfl hnl.symm (fun h => by cases h) ln (by omega) (by first | omega | (show G + 1 ≤ wr.heap.size; omega)) ?_; intro v5 u5 hown5 hg5; have B5 := B4.grown hg5 B4.size (fun k e => by have := own_ge hown4 k e; omega)
        refine hK.out _ _ trivial (fun hHeld => ?_)
        clear hK K
        try simp only [Act.put, List.setIfInBounds_toArray, List.set_cons_zero, List.set_cons_succ]
        refine wpAnyH_take (i := 7) (oi := ⟨_, _, _, _, _, _⟩) (v := ?_) rfl (by kernel_rfl) (by kernel_rfl) (by kernel_rfl) (fun _ _ _ h => h) (Or.inl ⟨by rfl, ?_⟩) (by assumption) ?_
        rotate_left
        · intro u hSw
          go_simp
          try (with_reducible rfl)
        try simp only [Act.put, List.setIfInBounds_toArray, List.set_cons_zero, List.set_cons_succ]
        refine wpAnyH_take (i := 8) (oi := ⟨_, _, _, _, _, _⟩) (v := ?_) rfl (by kernel_rfl) (by kernel_rfl) (by kernel_rfl) (fun _ _ _ h => h) (Or.inl ⟨by rfl, ?_⟩) (by assumption) ?_
        rotate_left
        · intro u hSw
          go_simp
          try (with_reducible rfl)
        try simp only [Act.put, List.setIfInBounds_toArray, List.set_cons_zero, List.set_cons_succ]
        refine wpAnyH_done (by kernel_rfl) ?_ _
        go_wp2_with fail
        go_ret2
        exact WPost.yes hm hmay (by rw [← hcat.out]; exact hown5) B5
end Go.Proofs.Ytoanfiikeeacdaa
