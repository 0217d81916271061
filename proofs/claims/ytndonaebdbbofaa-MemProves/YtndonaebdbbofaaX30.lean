/- The law MemProves. -/
import Derived.Test.YtndonaebdbbofaaX26
import Derived.Test.YtndonaebdbbofaaX29
namespace Go.Proofs.Ytndonaebdbbofaa
open Go.RowKit
set_option maxRecDepth 100000
set_option linter.unusedVariables false
set_option linter.unusedSimpArgs false


/-- A memory that a script sets. -/
structure QR (w : World) (g d n m : Nat) (L : List Int) (gt ct gl cl : Nat) (wr : World) : Prop where
  me : ME wr g d n m L gt ct gl cl
  bel : Below w.heap.size w wr
  u64 : ∀ k, U64 (L.getD k 0)
  h1 : w.heap.size ≤ g
  h2 : w.heap.size ≤ gt
  h3 : w.heap.size ≤ gl
theorem QR.keep {w : World} {g d n m : Nat} {L : List Int} {gt ct gl cl : Nat} {wr w' : World} (h : QR w g d n m L gt ct gl cl wr) (hb : Below wr.heap.size wr w') : QR w g d n m L gt ct gl cl w' :=
  { h with me := h.me.keep hb, bel := h.bel.trans (hb.mono h.bel.size) }
theorem QR.set {w : World} {g d n m i : Nat} {L : List Int} {gt ct gl cl : Nat} {wr w' : World} {y : Int} (h : QR w g d n m L gt ct gl cl wr) (hE : ME w' g d n m (L.set i y) gt ct gl cl) (hC : Chg (GS gt gl) wr w') (hy : U64 y) : QR w g d n m (L.set i y) gt ct gl cl w' := by
  refine { h with me := hE, bel := h.bel.trans (hC.below (fun k hk => ⟨by have := h.bel.size; omega, ?_⟩)), u64 := u64_set h.u64 i hy }
  rintro (e | e)
  · have := h.h2; omega
  · have := h.h3; omega
theorem ck_self {d n i : Nat} {L : List Int} (hd : d ≤ 12) (hn : n = 2 ^ d) (hL : L.length = n) (hi : i < n) : ckW (rW L) (i : Int) (L.getD i 0) (pv d L i) = true := by
  have e1 : pv d L (i : Int) = pf d (lvs L) i := by unfold pv; rw [if_pos (by rw [hL]; exact_mod_cast hi), Int.toNat_natCast]
  unfold ckW
  refine decide_eq_true ⟨by rw [e1, pf_len]; exact hd, by rw [e1, pf_len, ← hn]; exact_mod_cast hi, ?_⟩
  rw [e1, Int.toNat_natCast, fo_set d (lvs L) i _ (by rw [← hn]; exact hi) (by rw [lvs_len, hL]; exact hi), (rW_pow hd (by rw [hL, hn])).1]
  congr 1
  rw [← tat_lvs (by rw [hL]; exact hi)]
  apply List.ext_getElem?
  intro j
  by_cases e : i = j
  · subst e
    have hil : i < (lvs L).length := by rw [lvs_len, hL]; exact hi
    rw [List.getElem?_set_self hil, tat_get hil]
  · rw [List.getElem?_set_ne e]
set_option maxHeartbeats 1000000 in
theorem proves_no (sp : Option Addr) (n cap : Nat) (L : List Int) (sq : Option Addr) (k cq : Nat) (x : Int) (w : World) (hM : MS w.heap.size w sp n cap L) (hU : ∀ k, U64 (L.getD k 0)) (h : szB L.length = false) :
    Calls Try.prog 7 #[.slice sp n cap, .slice sq k cq, .int .u16 x] w fun e w' => e = .returned (.bool true) ∧ Below w.heap.size w w' := by
  have hnew := new_no sp n cap L w.heap.size w hM hU h
  have hsm := hM.small
  have hsz := fun U => refSize_any (n : Int) U (by omega)
  rw [szI_nat, show szB n = false by rw [hM.len.out]; exact h] at hsz
  clear h hM
  go_enter Try.func7, Try.ntmps7
  go_wp2_with (first
    | (go_at_call 9; go_must (refine hnew.mono ?_; rintro e w1 ⟨rfl, hb1⟩))
    | (go_at_call 10; go_must (refine (hsz _).mono ?_; rintro e w2 ⟨rfl, h⟩; replace h := h.symm; subst h))
    | (go_at_call 11; go_must (refine (anchored_anyM _).mono ?_; rintro e w3 ⟨rfl, hb3⟩)))
  go_ret
  exact ⟨rfl, hb1.trans (hb3.mono hb1.size)⟩
set_option maxHeartbeats 20000000 in
theorem proves_ok (sp : Option Addr) (n cap d m : Nat) (L : List Int) (sq : Option Addr) (k cq : Nat) (os : List Sc) (x : Int) (w : World) (hM : MS w.heap.size w sp n cap L) (hU : ∀ k, U64 (L.getD k 0)) (hSC : SC w.heap.size w sq k cq os) (hx : 0 ≤ x ∧ x ≤ 65535) (hd : d ≤ 12) (hn : Hid (n = 2 ^ d)) (hm : Hid (m + 1 = 2 * n)) :
    Calls Try.prog 7 #[.slice sp n cap, .slice sq k cq, .int .u16 x] w fun e w' => e = .returned (.bool true) ∧ Below w.heap.size w w' := by
  have hnew := new_ok sp n cap d m L w.heap.size w hM hU hd hn hm
  have hn4 : n ≤ 4096 := by rw [hn.out]; exact pow12 hd
  have hn0 : 0 < n := by rw [hn.out]; exact Nat.pow_pos (by omega)
  have hkb := hSC.small
  have hkc := hSC.le
  go_enter Try.func7, Try.ntmps7
  go_upto_region 4 with (go_at_call 9; go_must (refine hnew.mono ?_; rintro e w1 ⟨g, gt, ct, gl, cl, rfl, hME, hg, hgt, hgl, hb1⟩))
  have hQ1 : QR w g d n m L gt ct gl cl w1 := ⟨hME, hb1, hU, hg, hgt, hgl⟩
  clear hnew hME hb1 hU hM hg hgt hgl
  go_wp2_with fail
  go_loopw [9] (fun q wr => ∃ (j : Nat) (L' : List Int), q = .int .i64 (j : Int) ∧ j ≤ k ∧ QR w g d n m L' gt ct gl cl wr) (fun q _ => k - (intOf q).toNat)
  case atStart => exact ⟨0, L, rfl, by omega, hQ1⟩
  case round =>
    clear hQ1
    obtain ⟨j, L', rfl, hj, hQ⟩ := hrel
    by_cases hlt : j < k
    · have hI : (j : Int) < k := by omega
      obtain ⟨gs, offs, rfl, hgs, hRg⟩ := (hSC.below hQ.bel).at0 (by omega)
      obtain ⟨o, ho⟩ : ∃ o, os[j]? = some o := ⟨os[j]'(by rw [← hSC.len.out]; exact hlt), List.getElem?_eq_getElem _⟩
      have hro := hRg j o ho
      obtain ⟨hxu, hyu, -, -⟩ := hSC.ok o (List.mem_of_getElem? ho)
      clear hRg ho
      obtain ⟨c, a, y⟩ := o
      replace hxu : U64 a := hxu
      replace hyu : U64 y := hyu
      have o1 : wr.cell? ⟨gs, offs + j * 3 + 1, none⟩ = some (.int .u64 a) := hro 1 _ rfl
      have o2 : wr.cell? ⟨gs, offs + j * 3 + 2, none⟩ = some (.int .u64 y) := hro 2 _ rfl
      clear hro
      have hjcq : j < cq := by omega
      have hset := set_any g d n m L' gt ct gl cl a y hxu wr.drew (hQ.me.keep ((Below.refl _ _).drew))
      have hgsr : gs < wr.heap.size := by have := hQ.bel.size; omega
      have hne : gs ≠ gt ∧ gs ≠ gl := ⟨by have := hQ.h2; omega, by have := hQ.h3; omega⟩
      go_upto_region 7 with fail
      refine wp_region_held_drew (S := fun u => u.cell? ⟨gs, offs + j * 3 + 1, none⟩ = some (.int .u64 a) ∧ u.cell? ⟨gs, offs + j * 3 + 2, none⟩ = some (.int .u64 y)) (by kernel_rfl) ⟨o1, o2⟩ (fun hHeld => ?_)
      refine wpAnyH_take (i := 0) (oi := ⟨_, _, _, _, _, _⟩) (v := ?_) rfl (by kernel_rfl) (by kernel_rfl) (by kernel_rfl) (fun _ _ _ h => h) (Or.inl ⟨by rfl, ?_⟩) (by assumption) ?_
      rotate_left
      · intro u hSw
        go_simp
        try (with_reducible rfl)
      try simp only [Act.put, List.setIfInBounds_toArray, List.set_cons_zero, List.set_cons_succ]
      refine wpAnyH_take (i := 1) (oi := ⟨_, _, _, _, _, _⟩) (v := ?_) rfl (by kernel_rfl) (by kernel_rfl) (by kernel_rfl) (fun _ _ _ h => h) (Or.inl ⟨by rfl, ?_⟩) (by assumption) ?_
      rotate_left
      · intro u hSw
        go_simp
        try (with_reducible rfl)
      try simp only [Act.put, List.setIfInBounds_toArray, List.set_cons_zero, List.set_cons_succ]
      refine wpAnyH_take (i := 2) (oi := ⟨_, _, _, _, _, _⟩) (v := ?_) rfl (by kernel_rfl) (by kernel_rfl) (by kernel_rfl) (fun _ _ _ h => h) (Or.inl ⟨by rfl, ?_⟩) (by assumption) ?_
      rotate_left
      · intro u hSw
        go_simp
        try (with_reducible rfl)
      try simp only [Act.put, List.setIfInBounds_toArray, List.set_cons_zero, List.set_cons_succ]
      refine wpAnyH_take (i := 3) (oi := ⟨_, _, _, _, _, _⟩) (v := ?_) rfl (by kernel_rfl) (by kernel_rfl) (by kernel_rfl) (fun _ _ _ h => h) (Or.inl ⟨by rfl, ?_⟩) (by assumption) ?_
      rotate_left
      · intro u hSw
        go_simp
        try (with_reducible rfl)
      try simp only [Act.put, List.setIfInBounds_toArray, List.set_cons_zero, List.set_cons_succ]
      refine wpAnyH_take (i := 4) (oi := ⟨_, _, _, _, _, _⟩) (v := ?_) rfl (by kernel_rfl) (by kernel_rfl) (by kernel_rfl) (fun _ _ _ h => h) (Or.inl ⟨by rfl, ?_⟩) (by assumption) ?_
      rotate_left
      · intro u hSw
        go_simp
        try (with_reducible rfl)
      try simp only [Act.put, List.setIfInBounds_toArray, List.set_cons_zero, List.set_cons_succ]
      refine wpAnyH_take (i := 5) (oi := ⟨_, _, _, _, _, _⟩) (v := ?_) rfl (by kernel_rfl) (by kernel_rfl) (by kernel_rfl) (fun _ _ _ h => h) (Or.inl ⟨by rfl, ?_⟩) (by assumption) ?_
      rotate_left
      · intro u hSw
        obtain ⟨hc, -⟩ := hSw
        go_simp
        try (with_reducible rfl)
      try simp only [Act.put, List.setIfInBounds_toArray, List.set_cons_zero, List.set_cons_succ]
      refine wpAnyH_take (i := 6) (oi := ⟨_, _, _, _, _, _⟩) (v := ?_) rfl (by kernel_rfl) (by kernel_rfl) (by kernel_rfl) (fun _ _ _ h => h) (Or.inl ⟨by rfl, ?_⟩) (by assumption) ?_
      rotate_left
      · intro u hSw
        go_simp
        try (with_reducible rfl)
      try simp only [Act.put, List.setIfInBounds_toArray, List.set_cons_zero, List.set_cons_succ]
      refine wpAnyH_take (i := 7) (oi := ⟨_, _, _, _, _, _⟩) (v := ?_) rfl (by kernel_rfl) (by kernel_rfl) (by kernel_rfl) (fun _ _ _ h => h) (Or.inl ⟨by rfl, ?_⟩) (by assumption) ?_
      rotate_left
      · intro u hSw
        go_simp
        try (with_reducible rfl)
      try simp only [Act.put, List.setIfInBounds_toArray, List.set_cons_zero, List.set_cons_succ]
      refine wpAnyH_take (i := 8) (oi := ⟨_, _, _, _, _, _⟩) (v := ?_) rfl (by kernel_rfl) (by kernel_rfl) (by kernel_rfl) (fun _ _ _ h => h) (Or.inl ⟨by rfl, ?_⟩) (by assumption) ?_
      rotate_left
      · intro u hSw
        go_simp
        try (with_reducible rfl)
      try simp only [Act.put, List.setIfInBounds_toArray, List.set_cons_zero, List.set_cons_succ]
      refine wpAnyH_take (i := 9) (oi := ⟨_, _, _, _, _, _⟩) (v := ?_) rfl (by kernel_rfl) (by kernel_rfl) (by kernel_rfl) (fun _ _ _ h => h) (Or.inl ⟨by rfl, ?_⟩) (by assumption) ?_
      rotate_left
      · intro u hSw
        go_simp
        try (with_reducible rfl)
      try simp only [Act.put, List.setIfInBounds_toArray, List.set_cons_zero, List.set_cons_succ]
      refine wpAnyH_take (i := 10) (oi := ⟨_, _, _, _, _, _⟩) (v := ?_) rfl (by kernel_rfl) (by kernel_rfl) (by kernel_rfl) (fun _ _ _ h => h) (Or.inl ⟨by rfl, ?_⟩) (by assumption) ?_
      rotate_left
      · intro u hSw
        obtain ⟨-, hc⟩ := hSw
        go_simp
        try (with_reducible rfl)
      try simp only [Act.put, List.setIfInBounds_toArray, List.set_cons_zero, List.set_cons_succ]
      refine wpAnyH_ready (rs := [11]) (by kernel_rfl) (by simp) ?_
      refine AllReadyH.cons (o := ⟨_, _, _, _, _, _⟩) rfl (fun K hK => ?_) AllReadyH.nil
      go_simp
      refine hset.mono ?_; rintro e u1 ⟨rfl, hE1, hC1⟩; have hbk := hC1.block gs hgsr (by rintro (h | h); exact hne.1 h; exact hne.2 h)
      go_wp2_with fail
      refine hK.out _ _ ⟨(World.cell?_of_block (a := ⟨gs, offs + j * 3 + 1, none⟩) hbk).trans o1, (World.cell?_of_block (a := ⟨gs, offs + j * 3 + 2, none⟩) hbk).trans o2⟩ (fun hHeld => ?_)
      clear hK K
      try simp only [Act.put, List.setIfInBounds_toArray, List.set_cons_zero, List.set_cons_succ]
      refine wpAnyH_done (by kernel_rfl) ?_ _
      have hQ2 := (hQ.keep ((Below.refl _ _).drew)).set hE1 hC1 hyu
      go_wp2_with fail
      go_roundw
      case rel => exact ⟨j + 1, _, by go_num, by omega, hQ2⟩
      case measure => simp [intOf]; omega
    · obtain rfl : j = k := by omega
      have hI : ¬ (j : Int) < j := by omega
      have hB := hQ.bel
      have hE := hQ.me
      have hL' := hE.len
      have hU' := hQ.u64
      have hws := words_anyM g d n m L' gt ct gl cl wr hE
      have hrt := fun (gm cm : Nat) (U : World) (h : MS U.heap.size U (some ⟨gm, 0, none⟩) n cm L') => rootM_any (some ⟨gm, 0, none⟩) n cm L' U.heap.size U h hU'
      rw [(rW_pow (L := L') hd (by rw [hL', hn.out])).2] at hrt
      obtain ⟨i, hi⟩ : ∃ i : Nat, (i : Int) = x % (n : Int) := ⟨(x % (n : Int)).toNat, by have := Int.emod_nonneg x (show (n : Int) ≠ 0 by omega); omega⟩
      have hin : i < n := by have := Int.emod_lt_of_pos x (show (0 : Int) < n by omega); omega
      have hrem : x % (n : Int) = (i : Int) := hi.symm
      have hrem2 : Int.tmod x (n : Int) = (i : Int) := by rw [Int.tmod_eq_emod_of_nonneg hx.1]; exact hrem
      have hiu : U64 (i : Int) := ⟨by omega, by omega⟩
      have hnn : (n : Int) % 18446744073709551616 = n := by omega
      have hxx : x % 18446744073709551616 = x := by omega
      have hn0I : ¬ (n : Int) = 0 := by omega
      have hget := fun U hE => get_any g d n m L' gt ct gl cl (i : Int) hiu U hE
      have hpv := fun U hE => prove_any g d n m L' gt ct gl cl (i : Int) hiu U hE
      have hck := ck_self hd hn.out hL' hin
      have eA : aE (i : Int) n = 0 := if_pos (by omega)
      unfold PvPost at hpv
      rw [hL'] at hpv
      rw [eA] at hpv hget
      rw [Int.toNat_natCast] at hget
      have hmr := fun U hE => mroot_any g d n m L' gt ct gl cl U hE
      have hRl := rW_len L'
      obtain ⟨kk, hkk⟩ : ∃ kk, kk = (pv d L' (i : Int)).length := ⟨_, rfl⟩
      rw [← hkk] at hpv
      clear hkk hi
      obtain ⟨z, hz⟩ : ∃ z, z = L'.getD i 0 := ⟨_, rfl⟩
      rw [← hz] at hget hck
      generalize pv d L' (i : Int) = ps at *
      generalize rW L' = R at *
      have hEq := run_eq24 hRl hRl
      rw [decide_eq_true rfl] at hEq
      go_upto_region 10 with (first
        | (go_at_call 20; go_must (refine hws.mono ?_; rintro e w3 ⟨gm, cm, rfl, hgm, hcm1, hcm2, hMW3, hb3⟩; have hMS3 := MW.ms (n := n) (cap := cm) hMW3 hL'.symm (by omega) ⟨hcm1, hcm2⟩))
        | (go_at_call 21; go_must (refine (hrt gm cm w3 hMS3).mono ?_; rintro e w4 ⟨rfl, hb4⟩))
        | (refine atS 43 (.tmp 11) (.tmp 59) ?_; go_must (refine st24n (by rfl) (.tmp 11) (.tmp 59) (by rfl) w4 w4.heap.size rfl (by rfl) R (by rfl) (by rfl) hRl ?_)))
      have Q4 := Arr.new w4 43 (h8 R)
      have D4 : Below w3.heap.size w3 (w4.alloc (.cells (h8 R) 43)) := hb4.alloc hb4.size _
      have hc4 := (hMW3.below D4 hMW3.lt).cell (t := i) (by rw [hL']; exact hin)
      rw [← hz] at hc4
      have hE4 := hE.keep (hb3.trans (D4.mono hb3.size))
      have hB4 := hB.trans ((hb3.trans (D4.mono hb3.size)).mono hB.size)
      have hz2 : (z == z) = true := by simp
      have hicm : i < cm := by omega
      clear hz hMW3 hMS3 hE hws hrt hb3 hQ
      generalize hg4 : w4.alloc (.cells (h8 R) 43) = V at *
      clear hg4
      have hgV : gm < V.heap.size := block_lt_of_cell hc4
      generalize w4.heap.size = gR at *
      go_upto_region 13 with (first
        | (go_at_call 12; go_must (refine (hget _ hE4).mono ?_; rintro e w5 ⟨rfl, h⟩; replace h := h.symm; subst h))
        | (go_at_call 14; go_must (refine (hpv _ hE4).mono ?_; rintro e w6 ⟨s6, k6, c6, rfl, rfl, hH6, -, hb6⟩)))
      have Q6 := Q4.below hb6 Q4.lt
      have hc6 := (hb6.cell (p := ⟨gm, i, none⟩) hgV).trans hc4
      have hE6 := hE4.keep hb6
      have hB6 := hB4.trans (hb6.mono hB4.size)
      have hk1 := fun U hS => checkM_any R (i : Int) z w6.heap.size s6 k6 c6 ps U hRl hiu hS
      rw [hck] at hk1
      obtain ⟨z1, hz1⟩ : ∃ z1, z1 = IntKind.u64.wrap (z + 1) := ⟨_, rfl⟩
      have hz1' : (z + 1) % 18446744073709551616 = z1 := by rw [hz1]; simp [IntKind.wrap, IntKind.bits, IntKind.signed]
      have hk2 := fun U hS => checkM_any R (i : Int) z1 w6.heap.size s6 k6 c6 ps U hRl hiu hS
      have hk3 := fun U hS => refCheckM_any R (i : Int) z1 w6.heap.size s6 k6 c6 ps U hRl hiu hS
      generalize ckW R (i : Int) z1 ps = b at *
      have hbb : (b == b) = true := by cases b <;> rfl
      have hz1'' := hz1.symm
      clear hz1 Q4 hc4 hE4 hB4 hb6 hget hpv hck
      refine wp_region_held_drew (S := fun u => (Arr u gR 43 (h8 R) ∧ u.cell? ⟨gm, i, none⟩ = some (.int .u64 z)) ∧ Below w6.heap.size w6 u) (by kernel_rfl) ⟨⟨Q6, hc6⟩, (Below.refl _ _).drew⟩ (fun hHeld => ?_)
      refine wpAnyH_ready (rs := [0]) (by kernel_rfl) (by simp) ?_
      refine AllReadyH.cons (o := ⟨_, _, _, _, _, _⟩) rfl (fun K hK => ?_) AllReadyH.nil
      go_simp
      refine (anchored_anyM _).mono ?_; rintro e u1 ⟨rfl, hb1⟩; have D1 : Below w6.heap.size w6 u1 := ((Below.refl _ _).drew).trans (hb1.mono (by simp))
      go_wp2_with fail
      refine hK.out _ _ ⟨⟨Q6.below D1 Q6.lt, (D1.cell (p := ⟨gm, i, none⟩) (block_lt_of_cell hc6)).trans hc6⟩, D1⟩ (fun hHeld => ?_)
      clear hK K
      try simp only [Act.put, List.setIfInBounds_toArray, List.set_cons_zero, List.set_cons_succ]
      refine wpAnyH_take (i := 1) (oi := ⟨_, _, _, _, _, _⟩) (v := ?_) rfl (by kernel_rfl) (by kernel_rfl) (by kernel_rfl) (fun _ _ _ h => h) (Or.inl ⟨by rfl, ?_⟩) (by assumption) ?_
      rotate_left
      · intro u hSw
        go_simp
        try (with_reducible rfl)
      try simp only [Act.put, List.setIfInBounds_toArray, List.set_cons_zero, List.set_cons_succ]
      refine wpAnyH_take (i := 2) (oi := ⟨_, _, _, _, _, _⟩) (v := ?_) rfl (by kernel_rfl) (by kernel_rfl) (by kernel_rfl) (fun _ _ _ h => h) (Or.inl ⟨by rfl, ?_⟩) (by assumption) ?_
      rotate_left
      · intro u hSw
        go_simp
        try (with_reducible rfl)
      try simp only [Act.put, List.setIfInBounds_toArray, List.set_cons_zero, List.set_cons_succ]
      refine wpAnyH_take (i := 3) (oi := ⟨_, _, _, _, _, _⟩) (v := ?_) rfl (by kernel_rfl) (by kernel_rfl) (by kernel_rfl) (fun _ _ _ h => h) (Or.inl ⟨by rfl, ?_⟩) (by assumption) ?_
      rotate_left
      · intro u hSw
        go_simp
        try (with_reducible rfl)
      try simp only [Act.put, List.setIfInBounds_toArray, List.set_cons_zero, List.set_cons_succ]
      refine wpAnyH_take (i := 4) (oi := ⟨_, _, _, _, _, _⟩) (v := ?_) rfl (by kernel_rfl) (by kernel_rfl) (by kernel_rfl) (fun _ _ _ h => h) (Or.inl ⟨by rfl, ?_⟩) (by assumption) ?_
      rotate_left
      · intro u hSw
        go_simp
        try (with_reducible rfl)
      try simp only [Act.put, List.setIfInBounds_toArray, List.set_cons_zero, List.set_cons_succ]
      refine wpAnyH_take (i := 5) (oi := ⟨_, _, _, _, _, _⟩) (v := ?_) rfl (by kernel_rfl) (by kernel_rfl) (by kernel_rfl) (fun _ _ _ h => h) (Or.inl ⟨by rfl, ?_⟩) (by assumption) ?_
      rotate_left
      · intro u hSw
        go_simp
        try (with_reducible rfl)
      try simp only [Act.put, List.setIfInBounds_toArray, List.set_cons_zero, List.set_cons_succ]
      refine wpAnyH_take (i := 6) (oi := ⟨_, _, _, _, _, _⟩) (v := ?_) rfl (by kernel_rfl) (by kernel_rfl) (by kernel_rfl) (fun _ _ _ h => h) (Or.inl ⟨by rfl, ?_⟩) (by assumption) ?_
      rotate_left
      · intro u hSw
        go_simp
        try (with_reducible rfl)
      try simp only [Act.put, List.setIfInBounds_toArray, List.set_cons_zero, List.set_cons_succ]
      refine wpAnyH_take (i := 7) (oi := ⟨_, _, _, _, _, _⟩) (v := ?_) rfl (by kernel_rfl) (by kernel_rfl) (by kernel_rfl) (fun _ _ _ h => h) (Or.inl ⟨by rfl, ?_⟩) (by assumption) ?_
      rotate_left
      · intro u hSw
        go_simp
        try (with_reducible rfl)
      try simp only [Act.put, List.setIfInBounds_toArray, List.set_cons_zero, List.set_cons_succ]
      refine wpAnyH_take (i := 8) (oi := ⟨_, _, _, _, _, _⟩) (v := ?_) rfl (by kernel_rfl) (by kernel_rfl) (by kernel_rfl) (fun _ _ _ h => h) (Or.inl ⟨by rfl, ?_⟩) (by assumption) ?_
      rotate_left
      · intro u hSw
        go_simp
        try (with_reducible rfl)
      try simp only [Act.put, List.setIfInBounds_toArray, List.set_cons_zero, List.set_cons_succ]
      refine wpAnyH_take (i := 9) (oi := ⟨_, _, _, _, _, _⟩) (v := ?_) rfl (by kernel_rfl) (by kernel_rfl) (by kernel_rfl) (fun _ _ _ h => h) (Or.inl ⟨by rfl, ?_⟩) (by assumption) ?_
      rotate_left
      · intro u hSw
        go_simp
        try (with_reducible rfl)
      try simp only [Act.put, List.setIfInBounds_toArray, List.set_cons_zero, List.set_cons_succ]
      refine wpAnyH_take (i := 10) (oi := ⟨_, _, _, _, _, _⟩) (v := ?_) rfl (by kernel_rfl) (by kernel_rfl) (by kernel_rfl) (fun _ _ _ h => h) (Or.inl ⟨by rfl, ?_⟩) (by assumption) ?_
      rotate_left
      · intro u hSw
        go_simp
        try (with_reducible rfl)
      try simp only [Act.put, List.setIfInBounds_toArray, List.set_cons_zero, List.set_cons_succ]
      refine wpAnyH_take (i := 11) (oi := ⟨_, _, _, _, _, _⟩) (v := ?_) rfl (by kernel_rfl) (by kernel_rfl) (by kernel_rfl) (fun _ _ _ h => h) (Or.inl ⟨by rfl, ?_⟩) (by assumption) ?_
      rotate_left
      · intro u hSw
        go_simp
        try (with_reducible rfl)
      try simp only [Act.put, List.setIfInBounds_toArray, List.set_cons_zero, List.set_cons_succ]
      refine wpAnyH_take (i := 12) (oi := ⟨_, _, _, _, _, _⟩) (v := ?_) rfl (by kernel_rfl) (by kernel_rfl) (by kernel_rfl) (fun _ _ _ h => h) (Or.inl ⟨by rfl, ?_⟩) (by assumption) ?_
      rotate_left
      · intro u hSw
        go_simp
        try (with_reducible rfl)
      try simp only [Act.put, List.setIfInBounds_toArray, List.set_cons_zero, List.set_cons_succ]
      refine wpAnyH_take (i := 13) (oi := ⟨_, _, _, _, _, _⟩) (v := ?_) rfl (by kernel_rfl) (by kernel_rfl) (by kernel_rfl) (fun _ _ _ h => h) (Or.inl ⟨by rfl, ?_⟩) (by assumption) ?_
      rotate_left
      · intro u hSw
        go_simp
        try (with_reducible rfl)
      try simp only [Act.put, List.setIfInBounds_toArray, List.set_cons_zero, List.set_cons_succ]
      refine wpAnyH_take (i := 14) (oi := ⟨_, _, _, _, _, _⟩) rfl (by kernel_rfl) (by kernel_rfl) (by kernel_rfl) (fun _ _ _ h => h) (y24 (by rfl) (.tmp 11) rfl (gR) (0) rfl R hRl (fun u hu => hu.1.1.range)) (by assumption) ?_
      try simp only [Act.put, List.setIfInBounds_toArray, List.set_cons_zero, List.set_cons_succ]
      refine wpAnyH_take (i := 15) (oi := ⟨_, _, _, _, _, _⟩) (v := ?_) rfl (by kernel_rfl) (by kernel_rfl) (by kernel_rfl) (fun _ _ _ h => h) (Or.inl ⟨by rfl, ?_⟩) (by assumption) ?_
      rotate_left
      · intro u hSw
        go_simp
        try (with_reducible rfl)
      try simp only [Act.put, List.setIfInBounds_toArray, List.set_cons_zero, List.set_cons_succ]
      refine wpAnyH_ready (rs := [16]) (by kernel_rfl) (by simp) ?_
      refine AllReadyH.cons (o := ⟨_, _, _, _, _, _⟩) rfl (fun K hK => ?_) AllReadyH.nil
      go_simp
      refine (hmr _ (hE6.keep D1)).mono ?_; rintro e u2 ⟨rfl, hb2⟩; have D2 := D1.trans (hb2.mono D1.size)
      go_wp2_with fail
      refine hK.out _ _ ⟨⟨Q6.below D2 Q6.lt, (D2.cell (p := ⟨gm, i, none⟩) (block_lt_of_cell hc6)).trans hc6⟩, D2⟩ (fun hHeld => ?_)
      clear hK K
      try simp only [Act.put, List.setIfInBounds_toArray, List.set_cons_zero, List.set_cons_succ]
      refine wpAnyH_take (i := 17) (oi := ⟨_, _, _, _, _, _⟩) (v := ?_) rfl (by kernel_rfl) (by kernel_rfl) (by kernel_rfl) (fun _ _ _ h => h) (Or.inl ⟨by rfl, ?_⟩) (by assumption) ?_
      rotate_left
      · intro u hSw
        go_simp
        try (with_reducible rfl)
      try simp only [Act.put, List.setIfInBounds_toArray, List.set_cons_zero, List.set_cons_succ]
      refine wpAnyH_take (i := 18) (oi := ⟨_, _, _, _, _, _⟩) (v := ?_) rfl (by kernel_rfl) (by kernel_rfl) (by kernel_rfl) (fun _ _ _ h => h) (Or.inl ⟨by rfl, ?_⟩) (by assumption) ?_
      rotate_left
      · intro u hSw
        go_simp
        try (with_reducible rfl)
      try simp only [Act.put, List.setIfInBounds_toArray, List.set_cons_zero, List.set_cons_succ]
      refine wpAnyH_take (i := 19) (oi := ⟨_, _, _, _, _, _⟩) (v := ?_) rfl (by kernel_rfl) (by kernel_rfl) (by kernel_rfl) (fun _ _ _ h => h) (Or.inl ⟨by rfl, ?_⟩) (by assumption) ?_
      rotate_left
      · intro u hSw
        go_simp
        try (with_reducible rfl)
      try simp only [Act.put, List.setIfInBounds_toArray, List.set_cons_zero, List.set_cons_succ]
      refine wpAnyH_take (i := 20) (oi := ⟨_, _, _, _, _, _⟩) (v := ?_) rfl (by kernel_rfl) (by kernel_rfl) (by kernel_rfl) (fun _ _ _ h => h) (Or.inl ⟨by rfl, ?_⟩) (by assumption) ?_
      rotate_left
      · intro u hSw
        go_simp
        try (with_reducible rfl)
      try simp only [Act.put, List.setIfInBounds_toArray, List.set_cons_zero, List.set_cons_succ]
      refine wpAnyH_take (i := 21) (oi := ⟨_, _, _, _, _, _⟩) (v := ?_) rfl (by kernel_rfl) (by kernel_rfl) (by kernel_rfl) (fun _ _ _ h => h) (Or.inl ⟨by rfl, ?_⟩) (by assumption) ?_
      rotate_left
      · intro u hSw
        go_simp
        try (with_reducible rfl)
      try simp only [Act.put, List.setIfInBounds_toArray, List.set_cons_zero, List.set_cons_succ]
      refine wpAnyH_take (i := 22) (oi := ⟨_, _, _, _, _, _⟩) (v := ?_) rfl (by kernel_rfl) (by kernel_rfl) (by kernel_rfl) (fun _ _ _ h => h) (Or.inl ⟨by rfl, ?_⟩) (by assumption) ?_
      rotate_left
      · intro u hSw
        go_simp
        try (with_reducible rfl)
      try simp only [Act.put, List.setIfInBounds_toArray, List.set_cons_zero, List.set_cons_succ]
      refine wpAnyH_take (i := 23) (oi := ⟨_, _, _, _, _, _⟩) (v := ?_) rfl (by kernel_rfl) (by kernel_rfl) (by kernel_rfl) (fun _ _ _ h => h) (Or.inl ⟨by rfl, ?_⟩) (by assumption) ?_
      rotate_left
      · intro u hSw
        go_simp
        try (with_reducible rfl)
      try simp only [Act.put, List.setIfInBounds_toArray, List.set_cons_zero, List.set_cons_succ]
      refine wpAnyH_take (i := 24) (oi := ⟨_, _, _, _, _, _⟩) (v := ?_) rfl (by kernel_rfl) (by kernel_rfl) (by kernel_rfl) (fun _ _ _ h => h) (Or.inl ⟨by rfl, ?_⟩) (by assumption) ?_
      rotate_left
      · intro u hSw
        go_simp
        try (with_reducible rfl)
      try simp only [Act.put, List.setIfInBounds_toArray, List.set_cons_zero, List.set_cons_succ]
      refine wpAnyH_take (i := 25) (oi := ⟨_, _, _, _, _, _⟩) (v := ?_) rfl (by kernel_rfl) (by kernel_rfl) (by kernel_rfl) (fun _ _ _ h => h) (Or.inl ⟨by rfl, ?_⟩) (by assumption) ?_
      rotate_left
      · intro u hSw
        go_simp
        try (with_reducible rfl)
      try simp only [Act.put, List.setIfInBounds_toArray, List.set_cons_zero, List.set_cons_succ]
      refine wpAnyH_take (i := 26) (oi := ⟨_, _, _, _, _, _⟩) (v := ?_) rfl (by kernel_rfl) (by kernel_rfl) (by kernel_rfl) (fun _ _ _ h => h) (Or.inl ⟨by rfl, ?_⟩) (by assumption) ?_
      rotate_left
      · intro u hSw
        go_simp
        try (with_reducible rfl)
      try simp only [Act.put, List.setIfInBounds_toArray, List.set_cons_zero, List.set_cons_succ]
      refine wpAnyH_take (i := 27) (oi := ⟨_, _, _, _, _, _⟩) (v := ?_) rfl (by kernel_rfl) (by kernel_rfl) (by kernel_rfl) (fun _ _ _ h => h) (Or.inl ⟨by rfl, ?_⟩) (by assumption) ?_
      rotate_left
      · intro u hSw
        go_simp
        try (with_reducible rfl)
      try simp only [Act.put, List.setIfInBounds_toArray, List.set_cons_zero, List.set_cons_succ]
      refine wpAnyH_take (i := 28) (oi := ⟨_, _, _, _, _, _⟩) (v := ?_) rfl (by kernel_rfl) (by kernel_rfl) (by kernel_rfl) (fun _ _ _ h => h) (Or.inl ⟨by rfl, ?_⟩) (by assumption) ?_
      rotate_left
      · intro u hSw
        go_simp
        try (with_reducible rfl)
      try simp only [Act.put, List.setIfInBounds_toArray, List.set_cons_zero, List.set_cons_succ]
      refine wpAnyH_take (i := 29) (oi := ⟨_, _, _, _, _, _⟩) (v := ?_) rfl (by kernel_rfl) (by kernel_rfl) (by kernel_rfl) (fun _ _ _ h => h) (Or.inl ⟨by rfl, ?_⟩) (by assumption) ?_
      rotate_left
      · intro u hSw
        go_simp
        try (with_reducible rfl)
      try simp only [Act.put, List.setIfInBounds_toArray, List.set_cons_zero, List.set_cons_succ]
      refine wpAnyH_take (i := 30) (oi := ⟨_, _, _, _, _, _⟩) (v := ?_) rfl (by kernel_rfl) (by kernel_rfl) (by kernel_rfl) (fun _ _ _ h => h) (Or.inl ⟨by rfl, ?_⟩) (by assumption) ?_
      rotate_left
      · intro u hSw
        have hc := hSw.1.2
        go_simp
        try (with_reducible rfl)
      try simp only [Act.put, List.setIfInBounds_toArray, List.set_cons_zero, List.set_cons_succ]
      refine wpAnyH_take (i := 31) (oi := ⟨_, _, _, _, _, _⟩) (v := ?_) rfl (by kernel_rfl) (by kernel_rfl) (by kernel_rfl) (fun _ _ _ h => h) (Or.inl ⟨by rfl, ?_⟩) (by assumption) ?_
      rotate_left
      · intro u hSw
        go_simp
        try (with_reducible rfl)
      try simp only [Act.put, List.setIfInBounds_toArray, List.set_cons_zero, List.set_cons_succ]
      refine wpAnyH_take (i := 32) (oi := ⟨_, _, _, _, _, _⟩) (v := ?_) rfl (by kernel_rfl) (by kernel_rfl) (by kernel_rfl) (fun _ _ _ h => h) (Or.inl ⟨by rfl, ?_⟩) (by assumption) ?_
      rotate_left
      · intro u hSw
        go_simp
        try (with_reducible rfl)
      try simp only [Act.put, List.setIfInBounds_toArray, List.set_cons_zero, List.set_cons_succ]
      refine wpAnyH_take (i := 33) (oi := ⟨_, _, _, _, _, _⟩) (v := ?_) rfl (by kernel_rfl) (by kernel_rfl) (by kernel_rfl) (fun _ _ _ h => h) (Or.inl ⟨by rfl, ?_⟩) (by assumption) ?_
      rotate_left
      · intro u hSw
        go_simp
        try (with_reducible rfl)
      try simp only [Act.put, List.setIfInBounds_toArray, List.set_cons_zero, List.set_cons_succ]
      refine wpAnyH_take (i := 34) (oi := ⟨_, _, _, _, _, _⟩) (v := ?_) rfl (by kernel_rfl) (by kernel_rfl) (by kernel_rfl) (fun _ _ _ h => h) (Or.inl ⟨by rfl, ?_⟩) (by assumption) ?_
      rotate_left
      · intro u hSw
        go_simp
        try (with_reducible rfl)
      try simp only [Act.put, List.setIfInBounds_toArray, List.set_cons_zero, List.set_cons_succ]
      refine wpAnyH_take (i := 35) (oi := ⟨_, _, _, _, _, _⟩) rfl (by kernel_rfl) (by kernel_rfl) (by kernel_rfl) (fun _ _ _ h => h) (y24 (by rfl) (.tmp 11) rfl (gR) (0) rfl R hRl (fun u hu => hu.1.1.range)) (by assumption) ?_
      try simp only [Act.put, List.setIfInBounds_toArray, List.set_cons_zero, List.set_cons_succ]
      refine wpAnyH_take (i := 36) (oi := ⟨_, _, _, _, _, _⟩) (v := ?_) rfl (by kernel_rfl) (by kernel_rfl) (by kernel_rfl) (fun _ _ _ h => h) (Or.inl ⟨by rfl, ?_⟩) (by assumption) ?_
      rotate_left
      · intro u hSw
        go_simp
        try (with_reducible rfl)
      try simp only [Act.put, List.setIfInBounds_toArray, List.set_cons_zero, List.set_cons_succ]
      refine wpAnyH_take (i := 37) (oi := ⟨_, _, _, _, _, _⟩) (v := ?_) rfl (by kernel_rfl) (by kernel_rfl) (by kernel_rfl) (fun _ _ _ h => h) (Or.inl ⟨by rfl, ?_⟩) (by assumption) ?_
      rotate_left
      · intro u hSw
        go_simp
        try (with_reducible rfl)
      try simp only [Act.put, List.setIfInBounds_toArray, List.set_cons_zero, List.set_cons_succ]
      refine wpAnyH_take (i := 38) (oi := ⟨_, _, _, _, _, _⟩) (v := ?_) rfl (by kernel_rfl) (by kernel_rfl) (by kernel_rfl) (fun _ _ _ h => h) (Or.inl ⟨by rfl, ?_⟩) (by assumption) ?_
      rotate_left
      · intro u hSw
        go_simp
        try (with_reducible rfl)
      try simp only [Act.put, List.setIfInBounds_toArray, List.set_cons_zero, List.set_cons_succ]
      refine wpAnyH_ready (rs := [39]) (by kernel_rfl) (by simp) ?_
      refine AllReadyH.cons (o := ⟨_, _, _, _, _, _⟩) rfl (fun K hK => ?_) AllReadyH.nil
      go_simp
      refine (hk1 _ (hH6.below D2)).mono ?_; rintro e u3 ⟨rfl, hb3⟩; have D3 := D2.trans (hb3.mono D2.size)
      go_wp2_with fail
      refine hK.out _ _ ⟨⟨Q6.below D3 Q6.lt, (D3.cell (p := ⟨gm, i, none⟩) (block_lt_of_cell hc6)).trans hc6⟩, D3⟩ (fun hHeld => ?_)
      clear hK K
      try simp only [Act.put, List.setIfInBounds_toArray, List.set_cons_zero, List.set_cons_succ]
      refine wpAnyH_take (i := 40) (oi := ⟨_, _, _, _, _, _⟩) (v := ?_) rfl (by kernel_rfl) (by kernel_rfl) (by kernel_rfl) (fun _ _ _ h => h) (Or.inl ⟨by rfl, ?_⟩) (by assumption) ?_
      rotate_left
      · intro u hSw
        go_simp
        try (with_reducible rfl)
      try simp only [Act.put, List.setIfInBounds_toArray, List.set_cons_zero, List.set_cons_succ]
      refine wpAnyH_take (i := 41) (oi := ⟨_, _, _, _, _, _⟩) (v := ?_) rfl (by kernel_rfl) (by kernel_rfl) (by kernel_rfl) (fun _ _ _ h => h) (Or.inl ⟨by rfl, ?_⟩) (by assumption) ?_
      rotate_left
      · intro u hSw
        go_simp
        try (with_reducible rfl)
      try simp only [Act.put, List.setIfInBounds_toArray, List.set_cons_zero, List.set_cons_succ]
      refine wpAnyH_take (i := 42) (oi := ⟨_, _, _, _, _, _⟩) rfl (by kernel_rfl) (by kernel_rfl) (by kernel_rfl) (fun _ _ _ h => h) (y24 (by rfl) (.tmp 11) rfl (gR) (0) rfl R hRl (fun u hu => hu.1.1.range)) (by assumption) ?_
      try simp only [Act.put, List.setIfInBounds_toArray, List.set_cons_zero, List.set_cons_succ]
      refine wpAnyH_take (i := 43) (oi := ⟨_, _, _, _, _, _⟩) (v := ?_) rfl (by kernel_rfl) (by kernel_rfl) (by kernel_rfl) (fun _ _ _ h => h) (Or.inl ⟨by rfl, ?_⟩) (by assumption) ?_
      rotate_left
      · intro u hSw
        go_simp
        try (with_reducible rfl)
      try simp only [Act.put, List.setIfInBounds_toArray, List.set_cons_zero, List.set_cons_succ]
      refine wpAnyH_take (i := 44) (oi := ⟨_, _, _, _, _, _⟩) (v := ?_) rfl (by kernel_rfl) (by kernel_rfl) (by kernel_rfl) (fun _ _ _ h => h) (Or.inl ⟨by rfl, ?_⟩) (by assumption) ?_
      rotate_left
      · intro u hSw
        go_simp
        try (with_reducible rfl)
      try simp only [Act.put, List.setIfInBounds_toArray, List.set_cons_zero, List.set_cons_succ]
      refine wpAnyH_take (i := 45) (oi := ⟨_, _, _, _, _, _⟩) (v := ?_) rfl (by kernel_rfl) (by kernel_rfl) (by kernel_rfl) (fun _ _ _ h => h) (Or.inl ⟨by rfl, ?_⟩) (by assumption) ?_
      rotate_left
      · intro u hSw
        go_simp
        try (with_reducible rfl)
      try simp only [Act.put, List.setIfInBounds_toArray, List.set_cons_zero, List.set_cons_succ]
      refine wpAnyH_take (i := 46) (oi := ⟨_, _, _, _, _, _⟩) (v := ?_) rfl (by kernel_rfl) (by kernel_rfl) (by kernel_rfl) (fun _ _ _ h => h) (Or.inl ⟨by rfl, ?_⟩) (by assumption) ?_
      rotate_left
      · intro u hSw
        go_simp
        try (with_reducible rfl)
      try simp only [Act.put, List.setIfInBounds_toArray, List.set_cons_zero, List.set_cons_succ]
      refine wpAnyH_take (i := 48) (oi := ⟨_, _, _, _, _, _⟩) rfl (by kernel_rfl) (by kernel_rfl) (by kernel_rfl) (fun _ _ _ h => h) (y24 (by rfl) (.tmp 11) rfl (gR) (0) rfl R hRl (fun u hu => hu.1.1.range)) (by assumption) ?_
      try simp only [Act.put, List.setIfInBounds_toArray, List.set_cons_zero, List.set_cons_succ]
      refine wpAnyH_take (i := 49) (oi := ⟨_, _, _, _, _, _⟩) (v := ?_) rfl (by kernel_rfl) (by kernel_rfl) (by kernel_rfl) (fun _ _ _ h => h) (Or.inl ⟨by rfl, ?_⟩) (by assumption) ?_
      rotate_left
      · intro u hSw
        go_simp
        try (with_reducible rfl)
      try simp only [Act.put, List.setIfInBounds_toArray, List.set_cons_zero, List.set_cons_succ]
      refine wpAnyH_take (i := 50) (oi := ⟨_, _, _, _, _, _⟩) (v := ?_) rfl (by kernel_rfl) (by kernel_rfl) (by kernel_rfl) (fun _ _ _ h => h) (Or.inl ⟨by rfl, ?_⟩) (by assumption) ?_
      rotate_left
      · intro u hSw
        go_simp
        try (with_reducible rfl)
      try simp only [Act.put, List.setIfInBounds_toArray, List.set_cons_zero, List.set_cons_succ]
      refine wpAnyH_take (i := 51) (oi := ⟨_, _, _, _, _, _⟩) (v := ?_) rfl (by kernel_rfl) (by kernel_rfl) (by kernel_rfl) (fun _ _ _ h => h) (Or.inl ⟨by rfl, ?_⟩) (by assumption) ?_
      rotate_left
      · intro u hSw
        go_simp
        try (with_reducible rfl)
      try simp only [Act.put, List.setIfInBounds_toArray, List.set_cons_zero, List.set_cons_succ]
      refine wpAnyH_take (i := 52) (oi := ⟨_, _, _, _, _, _⟩) (v := ?_) rfl (by kernel_rfl) (by kernel_rfl) (by kernel_rfl) (fun _ _ _ h => h) (Or.inl ⟨by rfl, ?_⟩) (by assumption) ?_
      rotate_left
      · intro u hSw
        go_simp
        try (with_reducible rfl)
      try simp only [Act.put, List.setIfInBounds_toArray, List.set_cons_zero, List.set_cons_succ]
      refine wpAnyH_ready (rs := [47]) (by kernel_rfl) (by simp) ?_
      refine AllReadyH.cons (o := ⟨_, _, _, _, _, _⟩) rfl (fun K hK => ?_) AllReadyH.nil
      go_simp
      refine (hk2 _ (hH6.below D3)).mono ?_; rintro e u4 ⟨rfl, hb4⟩; have D4 := D3.trans (hb4.mono D3.size)
      go_wp2_with fail
      refine hK.out _ _ ⟨⟨Q6.below D4 Q6.lt, (D4.cell (p := ⟨gm, i, none⟩) (block_lt_of_cell hc6)).trans hc6⟩, D4⟩ (fun hHeld => ?_)
      clear hK K
      try simp only [Act.put, List.setIfInBounds_toArray, List.set_cons_zero, List.set_cons_succ]
      refine wpAnyH_ready (rs := [53]) (by kernel_rfl) (by simp) ?_
      refine AllReadyH.cons (o := ⟨_, _, _, _, _, _⟩) rfl (fun K hK => ?_) AllReadyH.nil
      go_simp
      refine (hk3 _ (hH6.below D4)).mono ?_; rintro e u5 ⟨rfl, hb5⟩; have D5 := D4.trans (hb5.mono D4.size)
      go_wp2_with fail
      refine hK.out _ _ ⟨⟨Q6.below D5 Q6.lt, (D5.cell (p := ⟨gm, i, none⟩) (block_lt_of_cell hc6)).trans hc6⟩, D5⟩ (fun hHeld => ?_)
      clear hK K
      try simp only [Act.put, List.setIfInBounds_toArray, List.set_cons_zero, List.set_cons_succ]
      refine wpAnyH_take (i := 54) (oi := ⟨_, _, _, _, _, _⟩) (v := ?_) rfl (by kernel_rfl) (by kernel_rfl) (by kernel_rfl) (fun _ _ _ h => h) (Or.inl ⟨by rfl, ?_⟩) (by assumption) ?_
      rotate_left
      · intro u hSw
        go_simp
        try (with_reducible rfl)
      try simp only [Act.put, List.setIfInBounds_toArray, List.set_cons_zero, List.set_cons_succ]
      refine wpAnyH_take (i := 55) (oi := ⟨_, _, _, _, _, _⟩) (v := ?_) rfl (by kernel_rfl) (by kernel_rfl) (by kernel_rfl) (fun _ _ _ h => h) (Or.inl ⟨by rfl, ?_⟩) (by assumption) ?_
      rotate_left
      · intro u hSw
        go_simp
        try (with_reducible rfl)
      try simp only [Act.put, List.setIfInBounds_toArray, List.set_cons_zero, List.set_cons_succ]
      refine wpAnyH_take (i := 56) (oi := ⟨_, _, _, _, _, _⟩) (v := ?_) rfl (by kernel_rfl) (by kernel_rfl) (by kernel_rfl) (fun _ _ _ h => h) (Or.inl ⟨by rfl, ?_⟩) (by assumption) ?_
      rotate_left
      · intro u hSw
        go_simp
        try (with_reducible rfl)
      try simp only [Act.put, List.setIfInBounds_toArray, List.set_cons_zero, List.set_cons_succ]
      refine wpAnyH_done (by kernel_rfl) ?_ _
      go_wp2_with fail
      go_ret
      exact ⟨rfl, hB6.trans (D5.mono hB6.size)⟩
theorem proves_walkM (sp : Option Addr) (n cap : Nat) (L : List Int) (sq : Option Addr) (k cq : Nat) (os : List Sc) (x : Int) (w : World) (hM : MS w.heap.size w sp n cap L) (hU : ∀ k, U64 (L.getD k 0)) (hSC : SC w.heap.size w sq k cq os) (hx : 0 ≤ x ∧ x ≤ 65535) :
    Calls Try.prog 7 #[.slice sp n cap, .slice sq k cq, .int .u16 x] w fun e w' => e = .returned (.bool true) ∧ Below w.heap.size w w' := by
  cases h : szB L.length with
  | true =>
    obtain ⟨d, hd, e⟩ := szB_pow h
    have hn : n = 2 ^ d := by rw [hM.len.out, e]
    have hp : 0 < 2 ^ d := Nat.pow_pos (by omega)
    exact proves_ok sp n cap d (2 * n - 1) L sq k cq os x w hM hU hSC hx hd (Hid.mk' hn) (Hid.mk' (by omega))
  | false => exact proves_no sp n cap L sq k cq x w hM hU h
end Go.Proofs.Ytndonaebdbbofaa
