/- Ae, Af, Ag0. -/
import Derived.Test.YtndonaebdbbofaaX17
import Derived.Test.YtndonaebdbbofaaX15
/- Layer mem: a path. -/
namespace Go.Proofs.Ytndonaebdbbofaa
open Go.RowKit
set_option maxRecDepth 100000
set_option linter.unusedVariables false
set_option linter.unusedSimpArgs false


/-- A sum is appended. -/
theorem wp_ag43 {o : Oper} {a : Act} {w : World} {K : Act → World → Prop} {Q : Exit → Act → World → Prop} (s x : Operand) (ho : o.op = .call { callee := .builtin .append, args := #[s, x], argTypes := #[36, 36] })
    (base k : Nat) (v : Value) (ls : List (List Int)) (X : List Int) (hs : a.eval s = v) (hown : w.ownsRow base 43 32 v k (flat32 ls))
    (gx c : Nat) (hx : a.eval x = .slice (some ⟨gx, 0, none⟩) 1 c) (hA : Arr w gx 43 (h8 X)) (hX : X.length = 32) (hk : k ≤ 100000) (hbase : base ≤ w.heap.size)
    (h : ∀ v' w', w'.ownsRow base 43 32 v' (k + 1) (flat32 (ls ++ [X])) → w.grownBy w' v.ownBlock → K (a.put o.dst v') w') : o.wp Try.prog a w K Q := by
  obtain ⟨i0, hi0, hz0, hz1, hz2⟩ := info_parts info24
  refine wp_append_own w s x 36 ho base 43 i0 (.agg (h8 Z32)) 32 32 Try.underlying36 hi0 hz0 hz1 hz2 (by show (h8 Z32).size = 32; rw [h8_size, Z32_len]) (by omega) v k _ hs hown ⟨gx, 0, none⟩ 1 c (by8 X) hx (by rw [by8_len, hX]) (fun j u hj => by
    rw [Addr.add_mid]; exact hA.range j u hj) (by8_one X) (by unfold maxLen; omega) (by omega) hbase (fun v' w' h1 h2 _ => h v' w' (by rw [flat32_app]; exact h1) h2)
theorem ag43 {ops : Array Oper} {rest : List Oper} {o : Oper} {a : Act} {w : World} {Q : Exit → Act → World → Prop} (hgd : o.guard = none) (s x : Operand) (ho : o.op = .call { callee := .builtin .append, args := #[s, x], argTypes := #[36, 36] })
    (base k : Nat) (v : Value) (ls : List (List Int)) (X : List Int) (hs : a.eval s = v) (hown : w.ownsRow base 43 32 v k (flat32 ls))
    (gx c : Nat) (hx : a.eval x = .slice (some ⟨gx, 0, none⟩) 1 c) (hA : Arr w gx 43 (h8 X)) (hX : X.length = 32) (hk : k ≤ 100000) (hbase : base ≤ w.heap.size)
    (h : ∀ v' w', w'.ownsRow base 43 32 v' (k + 1) (flat32 (ls ++ [X])) → w.grownBy w' v.ownBlock → wpList Try.prog ops Q rest (a.put o.dst v') w') : wpList Try.prog ops Q (o :: rest) a w :=
  wpList_plain hgd fun _ hK => wp_ag43 s x ho base k v ls X hs hown gx c hx hA hX hk hbase (fun v' w' h1 h2 => hK _ _ (h v' w' h1 h2))
theorem b43 {ops : Array Oper} {rest : List Oper} {o : Oper} {a : Act} {w : World} {Q : Exit → Act → World → Prop} (hgd : o.guard = none) (x : Operand) (ho : o.op = .buildSlice 36 1 #[(0, x)]) (X : List Int) (hx : a.eval x = .agg (h8 X)) (hX : X.length = 32)
    (h : wpList Try.prog ops Q rest (a.put o.dst (.slice (some ⟨w.heap.size, 0, none⟩) 1 1)) (w.alloc (.cells (h8 X) 43))) : wpList Try.prog ops Q (o :: rest) a w :=
  wpList_plain hgd fun _ hK => wp_bld1 x ho X hx hX (hK _ _ h)
set_option maxHeartbeats 2000000 in
theorem path_any (g d n m i : Nat) (L : List Int) (T : List (List Int)) (gt ct gl cl : Nat) (w : World) (hM : MF w g n m L T gt ct gl cl) (hTI : Hid (TI n (lvs L) T (fun _ => True))) (hd : d ≤ 12) (hn : Hid (n = 2 ^ d)) (hi : i < n) :
    Calls Try.prog 36 #[.pointer (some ⟨g, 0, none⟩), .int .i64 (i : Int)] w fun e w' => ∃ v, e = .returned v ∧ w'.ownsRow w.heap.size 43 32 v d (flat32 (pf d (lvs L) i)) ∧ Below w.heap.size w w' := by
  obtain ⟨i0, hi0, hz0, hz1, hz2⟩ := info_parts info24
  have c1 := hM.c1
  have hn0 := hM.n0
  have hn4 := hM.n4
  have hct := hM.ct1
  have hdep := fun w => depthOf_any d n hd hn w
  obtain ⟨t, ht⟩ : ∃ t, m = t + 1 := ⟨m - 1, by have := hM.hm.out; omega⟩
  replace ht := Hid.mk' ht
  have hmn : Hid (m + 1 = 2 * n) := hM.hm
  have hm10 : m ≤ 10000 := by have := hM.hm.out; omega
  have hwy0 : Hid ((i : Int) = ((wy d i 0 : Nat) : Int)) := Hid.mk' (by rw [wy_zero])
  have hzz : Hid (pf 0 (lvs L) i = []) := Hid.mk' (by simp [pf])
  go_enter Try.func36, Try.ntmps36
  go_upto_region 3 with (first
    | (go_at_call 44; go_must (refine (hdep _).mono ?_; rintro e w1 ⟨rfl, h⟩; replace h := h.symm; subst h))
    | (at_make; go_must (refine wpList_make_own _ (by rfl) (.const (.int .i64 0)) (.tmp 12) 36 (by rfl) w.heap.size 43 i0 (.agg (h8 Z32)) 32 Try.underlying36 hi0 hz0 hz1 .i64 .i64 _ d (by rfl) (by rfl) (by omega) (by rw [hz2]; omega) (by unfold maxLen; omega) (Nat.le_refl _) ?_; intro w3 hown3 hg3)))
  have hB3 := (Below.refl w.heap.size w).grown hg3 (Nat.le_refl _) (by simp)
  have hown3' : w3.ownsRow w.heap.size 43 32 (.slice (some ⟨w.heap.size, 0, none⟩) 0 d) 0 (flat32 []) := hown3
  clear hown3 hg3
  go_loopw [5, 6] (fun q1 q2 wr => ∃ (v : Value) (k a : Nat), q1 = v ∧ q2 = .int .i64 (a : Int) ∧ k ≤ d ∧ Hid (a = wy d i k) ∧ wr.ownsRow w.heap.size 43 32 v k (flat32 (pf k (lvs L) i)) ∧ Below w.heap.size w wr) (fun _ q _ => t - (intOf q).toNat)
  case atStart => exact ⟨_, 0, i, rfl, rfl, by omega, Hid.mk' (wy_zero d i).symm, by rw [hzz.out]; exact hown3', hB3⟩
  case round =>
    clear hown3' hB3 hzz hwy0 hi0 hz0 hz1 hz2 i0 c1
    obtain ⟨v, k, a, rfl, rfl, hk, hak, hown, hbl⟩ := hrel
    have hsz := hbl.size
    have hMr := hM.keep hbl
    have c1 := hMr.c1
    have c2 := hMr.c2
    have htop := top_any g m cl gl t wr c2 hm10 ht
    by_cases hlt : k < d
    · have hnn := hn.out
      have hlt1 := wy_lt (d := d) (i := i) (k := k) (by rw [← hnn]; exact hi) hlt
      rw [← hnn, ← hak.out] at hlt1
      have hat : (a : Int) < t := by have := ht.out; have := hmn.out; omega
      have hatN : a < t := by omega
      have ha10 : a ≤ 10000 := by have := ht.out; omega
      obtain ⟨b, hb⟩ : ∃ b, b = n + a / 2 := ⟨_, rfl⟩
      have hbk : Hid (b = wy d i (k + 1)) := Hid.mk' (by rw [wy_succ hk, ← hak.out, ← hnn, hb])
      have hba : Hid (a < b) := Hid.mk' (by have := hmn.out; have := ht.out; omega)
      replace hb := Hid.mk' hb
      have hab := fun w c1 => above_any g n ct gt a b w c1 (by omega) ha10 hb
      have hbs := (TI.beside (d := d) (i := i) (k := k) (l := lvs L) (T := T) (by rw [← hnn]; exact hTI.out) (by rw [hM.hT.out, ← hnn]; have := hmn.out; omega) (by rw [lvs_len, hM.hL.out, hnn]) (by rw [← hnn]; exact hi) hlt)
      rw [← hak.out, hM.hT.out] at hbs
      obtain ⟨hpf, hsm⟩ := hbs
      have hxor := i64_xor1 a (by omega)
      obtain ⟨s, hs⟩ : ∃ s, s = sib a := ⟨_, rfl⟩
      rw [← hs] at hpf hsm hxor
      have hX := hMr.sums.at (i := s) (by rw [hMr.hT.out]; exact hsm)
      have hX32 := tat_l32 hMr.sums.l32 (i := s) (by rw [hMr.hT.out]; exact hsm)
      generalize tat T s = X at *
      clear hs hlt1 hnn hdep
      have hsI : (s : Int) < m := by omega
      have hscl : s < cl := by have := hMr.cl1; omega
      have hk1 : k ≤ 100000 := by omega
      replace hpf := Hid.mk' hpf
      go_upto_region 4 with (first
        | (go_at_call 42; go_must (refine htop.mono ?_; rintro e w2 ⟨rfl, h⟩; replace h := h.symm; subst h))
        | (refine atL 43 (.tmp 29) ?_; go_must (refine ld24 (by rfl) (.tmp 29) (by rfl) gl (s * 32) (by rfl) X hX32 hX ?_))
        | (refine atA (.tmp 22) (.tmp 31) ?_; go_must (refine ag43 (by rfl) (.tmp 22) (.tmp 31) (by rfl) w.heap.size k _ (pf k (lvs L) i) X (by rfl) (hown.alloc _) wr.heap.size 1 (by rfl) (Arr.new wr 43 (h8 X)) hX32 hk1 (by simp; omega) ?_; intro v' w4 hown4 hg4))
        | (refine b43 (by rfl) (.tmp 30) (by rfl) X (by rfl) hX32 ?_))
      have hB4 : Below w.heap.size w w4 := grown_below (hbl.alloc (by omega) _) hg4 (fun k hk => (hown.lt k hk).1) (by simp; omega)
      have hM4 := hM.keep hB4
      have hab := hab w4 hM4.c1
      go_wp2_with (go_at_call 57; go_must (refine hab.mono ?_; rintro e w2 ⟨rfl, h⟩; replace h := h.symm; subst h))
      go_roundw
      case rel => exact ⟨_, k + 1, b, rfl, rfl, by omega, hbk, by rw [hpf.out]; exact hown4, hB4⟩
      case measure => have := hba.out; simp [intOf]; omega
    · obtain rfl : k = d := by omega
      have hend := wy_end (d := k) (i := i) (by rw [← hn.out]; exact hi)
      rw [← hak.out, ← hn.out] at hend
      have hat : ¬ (a : Int) < t := by have := ht.out; have := hmn.out; omega
      clear hend
      go_wp2_with (go_at_call 42; go_must (refine htop.mono ?_; rintro e w2 ⟨rfl, h⟩; replace h := h.symm; subst h))
      go_ret
      exact ⟨_, rfl, hown, hbl⟩
end Go.Proofs.Ytndonaebdbbofaa
/- Layer mem: put. -/
namespace Go.Proofs.Ytndonaebdbbofaa
open Go.RowKit
set_option maxRecDepth 100000
set_option linter.unusedVariables false
set_option linter.unusedSimpArgs false


/-- The blocks of a tree's lists. -/
def GS (gt gl : Nat) : Nat → Prop := fun k => k = gt ∨ k = gl
set_option maxHeartbeats 2000000 in
theorem put_anyM (g n m i : Nat) (x : Int) (L : List Int) (T : List (List Int)) (gt ct gl cl : Nat) (w : World) (hM : MF w g n m L T gt ct gl cl) (hTI : Hid (TI n (lvs L) T (fun _ => True))) (hi : i < n) :
    Calls Try.prog 35 #[.pointer (some ⟨g, 0, none⟩), .int .i64 (i : Int), .int .u64 x] w fun e w' => (∃ v, e = .returned v) ∧ (∃ T', MF w' g n m (L.set i x) T' gt ct gl cl ∧ TI n (lvs (L.set i x)) T' (fun _ => True)) ∧ Chg (GS gt gl) w w' := by
  have c1 := hM.c1
  have hct := hM.ct1
  have hn4 := hM.n4
  have hnm : n ≤ m := by have := hM.hm.out; have := hM.n0; omega
  have hm10 : m ≤ 10000 := by have := hM.hm.out; omega
  have hcl := hM.cl1
  have hiI : (i : Int) < n := by omega
  have hict : i < ct := by omega
  have hcell := hM.words.cell (t := i) (by rw [hM.hL.out]; exact hi)
  have hfrz := hM.words.frozen (i := i)
  have hM1 := hM.setWord hi x
  have hC1 : Chg (GS gt gl) w (w.setCell ⟨gt, i, none⟩ (.int .u64 x)) := (Chg.refl _ w).setCell' (.inl rfl) _
  have him : i < m := by omega
  have himI : (i : Int) < m := by omega
  have hicl : i < cl := by omega
  have hlen := lw_len x
  have hTL : n ≤ T.length := by rw [hM.hT.out]; exact hnm
  have hTI1 : Hid (TI n (lvs (L.set i x)) (T.set i (lw x)) (fun k => k ≠ i / 2)) := Hid.mk' (by rw [lvs_set]; exact hTI.out.setLeaf hi hTL (by rw [lvs_len, hM.hL.out]; exact Nat.le_refl _) hlen)
  have hleaf := fun w => leafOf_any x w
  have hmn : Hid (m + 1 = 2 * n) := hM.hm
  obtain ⟨t, ht⟩ : ∃ t, m = t + 1 := ⟨m - 1, by have := hM.hm.out; omega⟩
  replace ht := Hid.mk' ht
  generalize L.set i x = L1 at *
  generalize lw x = X at *
  go_enter Try.func35, Try.ntmps35
  go_upto_region 1 with fail
  generalize w.setCell ⟨gt, i, none⟩ (.int .u64 x) = V at *
  clear c1 hcell hfrz hM hTI
  have c0 := hM1.c0
  have c2 := hM1.c2
  refine wp_region_held_drew (S := fun u => u.cell? ⟨g, 0, none⟩ = some fL ∧ u.cell? ⟨g, 2, none⟩ = some (.slice (some ⟨gl, 0, none⟩) m cl)) (by kernel_rfl) ⟨c0, c2⟩ (fun hHeld => ?_)
  refine wpAnyH_take (i := 0) (oi := ⟨_, _, _, _, _, _⟩) (v := ?_) rfl (by kernel_rfl) (by kernel_rfl) (by kernel_rfl) (fun _ _ _ h => h) (Or.inl ⟨by rfl, ?_⟩) (by assumption) ?_
  rotate_left
  · intro u hSw
    go_simp
    try (with_reducible rfl)
  try simp only [Act.put, List.setIfInBounds_toArray, List.set_cons_zero, List.set_cons_succ]
  refine wpAnyH_take (i := 1) (oi := ⟨_, _, _, _, _, _⟩) (v := ?_) rfl (by kernel_rfl) (by kernel_rfl) (by kernel_rfl) (fun _ _ _ h => h) (Or.inl ⟨by rfl, ?_⟩) (by assumption) ?_
  rotate_left
  · intro u hSw
    go_simp
    try (with_reducible rfl)
  try simp only [Act.put, List.setIfInBounds_toArray, List.set_cons_zero, List.set_cons_succ]
  refine wpAnyH_take (i := 2) (oi := ⟨_, _, _, _, _, _⟩) (v := ?_) rfl (by kernel_rfl) (by kernel_rfl) (by kernel_rfl) (fun _ _ _ h => h) (Or.inl ⟨by rfl, ?_⟩) (by assumption) ?_
  rotate_left
  · intro u hSw
    go_simp
    try (with_reducible rfl)
  try simp only [Act.put, List.setIfInBounds_toArray, List.set_cons_zero, List.set_cons_succ]
  refine wpAnyH_take (i := 3) (oi := ⟨_, _, _, _, _, _⟩) (v := ?_) rfl (by kernel_rfl) (by kernel_rfl) (by kernel_rfl) (fun _ _ _ h => h) (Or.inl ⟨by rfl, ?_⟩) (by assumption) ?_
  rotate_left
  · intro u hSw
    obtain ⟨-, hc⟩ := hSw
    go_simp
    try (with_reducible rfl)
  try simp only [Act.put, List.setIfInBounds_toArray, List.set_cons_zero, List.set_cons_succ]
  refine wpAnyH_take (i := 4) (oi := ⟨_, _, _, _, _, _⟩) (v := ?_) rfl (by kernel_rfl) (by kernel_rfl) (by kernel_rfl) (fun _ _ _ h => h) (Or.inl ⟨by rfl, ?_⟩) (by assumption) ?_
  rotate_left
  · intro u hSw
    go_simp
    try (with_reducible rfl)
  try simp only [Act.put, List.setIfInBounds_toArray, List.set_cons_zero, List.set_cons_succ]
  refine wpAnyH_take (i := 5) (oi := ⟨_, _, _, _, _, _⟩) (v := ?_) rfl (by kernel_rfl) (by kernel_rfl) (by kernel_rfl) (fun _ _ _ h => h) (Or.inl ⟨by rfl, ?_⟩) (by assumption) ?_
  rotate_left
  · intro u hSw
    go_simp
    try (with_reducible rfl)
  try simp only [Act.put, List.setIfInBounds_toArray, List.set_cons_zero, List.set_cons_succ]
  refine wpAnyH_take (i := 6) (oi := ⟨_, _, _, _, _, _⟩) (v := ?_) rfl (by kernel_rfl) (by kernel_rfl) (by kernel_rfl) (fun _ _ _ h => h) (Or.inl ⟨by rfl, ?_⟩) (by assumption) ?_
  rotate_left
  · intro u hSw
    go_simp
    try (with_reducible rfl)
  try simp only [Act.put, List.setIfInBounds_toArray, List.set_cons_zero, List.set_cons_succ]
  refine wpAnyH_take (i := 7) (oi := ⟨_, _, _, _, _, _⟩) (v := ?_) rfl (by kernel_rfl) (by kernel_rfl) (by kernel_rfl) (fun _ _ _ h => h) (Or.inl ⟨by rfl, ?_⟩) (by assumption) ?_
  rotate_left
  · intro u hSw
    go_simp
    try (with_reducible rfl)
  try simp only [Act.put, List.setIfInBounds_toArray, List.set_cons_zero, List.set_cons_succ]
  refine wpAnyH_take (i := 8) (oi := ⟨_, _, _, _, _, _⟩) (v := ?_) rfl (by kernel_rfl) (by kernel_rfl) (by kernel_rfl) (fun _ _ _ h => h) (Or.inl ⟨by rfl, ?_⟩) (by assumption) ?_
  rotate_left
  · intro u hSw
    obtain ⟨hc, -⟩ := hSw
    unfold fL at hc
    go_simp
    try (with_reducible rfl)
  try simp only [Act.put, List.setIfInBounds_toArray, List.set_cons_zero, List.set_cons_succ]
  refine wpAnyH_take (i := 9) (oi := ⟨_, _, _, _, _, _⟩) (v := ?_) rfl (by kernel_rfl) (by kernel_rfl) (by kernel_rfl) (fun _ _ _ h => h) (Or.inl ⟨by rfl, ?_⟩) (by assumption) ?_
  rotate_left
  · intro u hSw
    go_simp
    try (with_reducible rfl)
  try simp only [Act.put, List.setIfInBounds_toArray, List.set_cons_zero, List.set_cons_succ]
  refine wpAnyH_ready (rs := [10]) (by kernel_rfl) (by simp) ?_
  refine AllReadyH.cons (o := ⟨_, _, _, _, _, _⟩) rfl (fun K hK => ?_) AllReadyH.nil
  go_simp
  refine (hleaf _).mono ?_; rintro e u1 ⟨rfl, hb1⟩; have hM2 := (hM1.block (w' := V.drew) (fun _ _ => rfl)).keep hb1
  go_wp2_with fail
  refine hK.out _ _ ⟨hM2.c0, hM2.c2⟩ (fun hHeld => ?_)
  clear hK K
  try simp only [Act.put, List.setIfInBounds_toArray, List.set_cons_zero, List.set_cons_succ]
  refine wpAnyH_take (i := 11) (oi := ⟨_, _, _, _, _, _⟩) (v := ?_) rfl (by kernel_rfl) (by kernel_rfl) (by kernel_rfl) (fun _ _ _ h => h) (Or.inl ⟨by rfl, ?_⟩) (by assumption) ?_
  rotate_left
  · intro u hSw
    go_simp
    try (with_reducible rfl)
  try simp only [Act.put, List.setIfInBounds_toArray, List.set_cons_zero, List.set_cons_succ]
  refine wpAnyH_ready (rs := [12]) (by kernel_rfl) (by simp) ?_
  refine AllReadyH.cons (o := ⟨_, _, _, _, _, _⟩) rfl (fun K hK => ?_) AllReadyH.nil
  refine step_want rfl (wp_store_mid 43 (.tmp 25) (.tmp 24) rfl gl (i * 32) (h8 X) rfl rfl (by rw [h8_size, hlen]; exact hM2.sums.there (by rw [hM2.hT.out]; exact him)) (s24h8 hlen) (h8_one X) ?_)
  have hM3 := hM2.setSum him hlen
  have hC3 : Chg (GS gt gl) w (u1.setCells gl (i * 32) (by8 X)) := ((hC1.trans (Chg.of_below ((Below.refl _ _).drew))).belowS hb1).setCells' (.inr rfl) _ _
  rw [h8_list]
  refine hK.out _ _ ⟨hM3.c0, hM3.c2⟩ (fun hHeld => ?_)
  clear hK K
  try simp only [Act.put, List.setIfInBounds_toArray, List.set_cons_zero, List.set_cons_succ]
  refine wpAnyH_done (by kernel_rfl) ?_ _
  generalize u1.setCells gl (i * 32) (by8 X) = V3 at *
  clear hM2 hM1 c0 c2 hC1 hHeld hb1 hleaf
  go_wp2_with fail
  go_loopw [6] (fun q wr => ∃ (a : Nat) (T' : List (List Int)), q = .int .i64 (a : Int) ∧ a ≤ t ∧ MF wr g n m L1 T' gt ct gl cl ∧ Hid (TI n (lvs L1) T' (fun k => k ≠ a / 2)) ∧ Chg (GS gt gl) w wr) (fun q _ => t - (intOf q).toNat)
  case atStart => exact ⟨i, _, rfl, by have := ht.out; omega, hM3, hTI1, hC3⟩
  case round =>
    clear hM3 hTI1 hC3
    obtain ⟨a, T', rfl, hat, hMr, hTr, hCr⟩ := hrel
    have c1 := hMr.c1
    have c2 := hMr.c2
    have htop := top_any g m cl gl t wr c2 hm10 ht
    by_cases hlt : a < t
    · have hltI : (a : Int) < t := by omega
      have ha10 : a ≤ 10000 := by have := ht.out; omega
      obtain ⟨b, hb⟩ : ∃ b, b = n + a / 2 := ⟨_, rfl⟩
      obtain ⟨q, hq⟩ : ∃ q, q = a / 2 := ⟨_, rfl⟩
      have hqn : q + 1 < n := by have := hmn.out; have := ht.out; omega
      have hbm : b < m := by have := hmn.out; omega
      have hbt : b ≤ t := by have := ht.out; omega
      have hab1 : Hid (a < b) := Hid.mk' (by have := hmn.out; have := ht.out; omega)
      have hTn : Hid (TI n (lvs L1) (T'.set b (pr (tat T' (2 * q)) (tat T' (2 * q + 1)))) (fun k => k ≠ b / 2)) := Hid.mk' (by
        rw [hb, hq]
        exact hTr.out.setNode (by omega) (by rw [hMr.hT.out]; have := hmn.out; omega) rfl)
      replace hb := Hid.mk' hb
      replace hq := Hid.mk' hq
      have hqm : 2 * q + 1 < m := by have := hmn.out; omega
      have hab := above_any g n ct gt a b wr.drew c1 (by omega) ha10 hb
      have hpair := fun w c2 hs => pair_anyM g m cl gl a q T' w c2 hs hMr.hT hm10 hcl hq hqm ha10
      have hR32 := pr_len (tat T' (2 * q)) (tat T' (2 * q + 1))
      generalize pr (tat T' (2 * q)) (tat T' (2 * q + 1)) = R at *
      have hbI : (b : Int) < m := by omega
      have hbcl : b < cl := by omega
      clear hqm
      go_upto_region 5 with (go_at_call 42; go_must (refine htop.mono ?_; rintro e w2 ⟨rfl, h⟩; replace h := h.symm; subst h))
      refine wp_region_held_drew (S := fun u => u.cell? ⟨g, 2, none⟩ = some (.slice (some ⟨gl, 0, none⟩) m cl)) (by kernel_rfl) c2 (fun hHeld => ?_)
      refine wpAnyH_take (i := 0) (oi := ⟨_, _, _, _, _, _⟩) (v := ?_) rfl (by kernel_rfl) (by kernel_rfl) (by kernel_rfl) (fun _ _ _ h => h) (Or.inl ⟨by rfl, ?_⟩) (by assumption) ?_
      rotate_left
      · intro u hSw
        go_simp
        try (with_reducible rfl)
      try simp only [Act.put, List.setIfInBounds_toArray, List.set_cons_zero, List.set_cons_succ]
      refine wpAnyH_take (i := 1) (oi := ⟨_, _, _, _, _, _⟩) (v := ?_) rfl (by kernel_rfl) (by kernel_rfl) (by kernel_rfl) (fun _ _ _ h => h) (Or.inl ⟨by rfl, ?_⟩) (by assumption) ?_
      rotate_left
      · intro u hSw
        go_simp
        try (with_reducible rfl)
      try simp only [Act.put, List.setIfInBounds_toArray, List.set_cons_zero, List.set_cons_succ]
      refine wpAnyH_take (i := 2) (oi := ⟨_, _, _, _, _, _⟩) (v := ?_) rfl (by kernel_rfl) (by kernel_rfl) (by kernel_rfl) (fun _ _ _ h => h) (Or.inl ⟨by rfl, ?_⟩) (by assumption) ?_
      rotate_left
      · intro u hSw
        go_simp
        try (with_reducible rfl)
      try simp only [Act.put, List.setIfInBounds_toArray, List.set_cons_zero, List.set_cons_succ]
      refine wpAnyH_take (i := 3) (oi := ⟨_, _, _, _, _, _⟩) (v := ?_) rfl (by kernel_rfl) (by kernel_rfl) (by kernel_rfl) (fun _ _ _ h => h) (Or.inl ⟨by rfl, ?_⟩) (by assumption) ?_
      rotate_left
      · intro u hSw
        have hc := hSw
        go_simp
        try (with_reducible rfl)
      try simp only [Act.put, List.setIfInBounds_toArray, List.set_cons_zero, List.set_cons_succ]
      refine wpAnyH_take (i := 4) (oi := ⟨_, _, _, _, _, _⟩) (v := ?_) rfl (by kernel_rfl) (by kernel_rfl) (by kernel_rfl) (fun _ _ _ h => h) (Or.inl ⟨by rfl, ?_⟩) (by assumption) ?_
      rotate_left
      · intro u hSw
        go_simp
        try (with_reducible rfl)
      try simp only [Act.put, List.setIfInBounds_toArray, List.set_cons_zero, List.set_cons_succ]
      refine wpAnyH_take (i := 5) (oi := ⟨_, _, _, _, _, _⟩) (v := ?_) rfl (by kernel_rfl) (by kernel_rfl) (by kernel_rfl) (fun _ _ _ h => h) (Or.inl ⟨by rfl, ?_⟩) (by assumption) ?_
      rotate_left
      · intro u hSw
        go_simp
        try (with_reducible rfl)
      try simp only [Act.put, List.setIfInBounds_toArray, List.set_cons_zero, List.set_cons_succ]
      refine wpAnyH_take (i := 7) (oi := ⟨_, _, _, _, _, _⟩) (v := ?_) rfl (by kernel_rfl) (by kernel_rfl) (by kernel_rfl) (fun _ _ _ h => h) (Or.inl ⟨by rfl, ?_⟩) (by assumption) ?_
      rotate_left
      · intro u hSw
        go_simp
        try (with_reducible rfl)
      try simp only [Act.put, List.setIfInBounds_toArray, List.set_cons_zero, List.set_cons_succ]
      refine wpAnyH_take (i := 8) (oi := ⟨_, _, _, _, _, _⟩) (v := ?_) rfl (by kernel_rfl) (by kernel_rfl) (by kernel_rfl) (fun _ _ _ h => h) (Or.inl ⟨by rfl, ?_⟩) (by assumption) ?_
      rotate_left
      · intro u hSw
        go_simp
        try (with_reducible rfl)
      try simp only [Act.put, List.setIfInBounds_toArray, List.set_cons_zero, List.set_cons_succ]
      refine wpAnyH_ready (rs := [6]) (by kernel_rfl) (by simp) ?_
      refine AllReadyH.cons (o := ⟨_, _, _, _, _, _⟩) rfl (fun K hK => ?_) AllReadyH.nil
      go_simp
      refine hab.mono ?_; rintro e u0 ⟨rfl, h⟩; replace h := h.symm; subst h
      go_wp2_with fail
      refine hK.out _ _ c2 (fun hHeld => ?_)
      clear hK K
      try simp only [Act.put, List.setIfInBounds_toArray, List.set_cons_zero, List.set_cons_succ]
      refine wpAnyH_ready (rs := [9]) (by kernel_rfl) (by simp) ?_
      refine AllReadyH.cons (o := ⟨_, _, _, _, _, _⟩) rfl (fun K hK => ?_) AllReadyH.nil
      go_simp
      refine (hpair wr.drew c2 (hMr.sums.block rfl)).mono ?_; rintro e u1 ⟨rfl, hb1⟩; have hM2 := (hMr.block (w' := wr.drew) (fun _ _ => rfl)).keep hb1
      go_wp2_with fail
      refine hK.out _ _ hM2.c2 (fun hHeld => ?_)
      clear hK K
      try simp only [Act.put, List.setIfInBounds_toArray, List.set_cons_zero, List.set_cons_succ]
      refine wpAnyH_take (i := 10) (oi := ⟨_, _, _, _, _, _⟩) (v := ?_) rfl (by kernel_rfl) (by kernel_rfl) (by kernel_rfl) (fun _ _ _ h => h) (Or.inl ⟨by rfl, ?_⟩) (by assumption) ?_
      rotate_left
      · intro u hSw
        go_simp
        try (with_reducible rfl)
      try simp only [Act.put, List.setIfInBounds_toArray, List.set_cons_zero, List.set_cons_succ]
      refine wpAnyH_ready (rs := [11]) (by kernel_rfl) (by simp) ?_
      refine AllReadyH.cons (o := ⟨_, _, _, _, _, _⟩) rfl (fun K hK => ?_) AllReadyH.nil
      refine step_want rfl (wp_store_mid 43 (.tmp 44) (.tmp 43) rfl gl (b * 32) (h8 R) rfl rfl (by rw [h8_size, hR32]; exact hM2.sums.there (by rw [hM2.hT.out]; exact hbm)) (s24h8 hR32) (h8_one R) ?_)
      have hM3 := hM2.setSum hbm hR32
      have hC3 : Chg (GS gt gl) w (u1.setCells gl (b * 32) (by8 R)) := ((hCr.trans (Chg.of_below ((Below.refl _ _).drew))).belowS hb1).setCells' (.inr rfl) _ _
      rw [h8_list]
      refine hK.out _ _ hM3.c2 (fun hHeld => ?_)
      clear hK K
      try simp only [Act.put, List.setIfInBounds_toArray, List.set_cons_zero, List.set_cons_succ]
      refine wpAnyH_done (by kernel_rfl) ?_ _
      generalize u1.setCells gl (b * 32) (by8 R) = V5 at *
      have hab5 := above_any g n ct gt a b V5 hM3.c1 (by omega) ha10 hb
      clear c1 c2 hM2 hHeld hb1
      go_wp2_with (go_at_call 57; go_must (refine hab5.mono ?_; rintro e w2 ⟨rfl, h⟩; replace h := h.symm; subst h))
      go_roundw
      case rel => exact ⟨b, _, rfl, hbt, hM3, hTn, hC3⟩
      case measure => have := hab1.out; simp [intOf]; omega
    · have hltI : ¬ (a : Int) < t := by omega
      have hTd := hTr.out.done (by have := hmn.out; have := ht.out; omega) (by rw [hMr.hT.out]; have := hmn.out; omega)
      go_wp2_with (go_at_call 42; go_must (refine htop.mono ?_; rintro e w2 ⟨rfl, h⟩; replace h := h.symm; subst h))
      go_end0
      exact ⟨⟨_, rfl⟩, ⟨T', hMr, hTd⟩, hCr⟩
end Go.Proofs.Ytndonaebdbbofaa
/- Layer mem: a tree is grown. -/
namespace Go.Proofs.Ytndonaebdbbofaa
open Go.RowKit
set_option maxRecDepth 100000
set_option linter.unusedVariables false
set_option linter.unusedSimpArgs false


theorem size72 : (Try.prog.info? 72).map (·.size) = some 3 := by kernel_rfl
theorem size76 : (Try.prog.info? 76).map (·.size) = some 3 := by kernel_rfl
/-- A tree, by value. -/
def tA (v u : Value) : Array Value := #[fL, v, u]
theorem tA_one {v u : Value} (hv : v.oneCell' = true) (hu : u.oneCell' = true) : (tA v u).all (·.oneCell') = true := by
  have hf : fL.oneCell' = true := rfl
  simp [tA, hf, hv, hu]
theorem ld72 {ops : Array Oper} {rest : List Oper} {o : Oper} {a : Act} {w : World} {Q : Exit → Act → World → Prop} (hgd : o.guard = none) (x : Operand) (ho : o.op = .load 72 x)
    (g : Nat) (hx : a.eval x = .pointer (some ⟨g, 0, none⟩)) (v u : Value) (hA : Arr w g 72 (tA v u))
    (h : wpList Try.prog ops Q rest (a.put o.dst (.agg (tA v u))) w) : wpList Try.prog ops Q (o :: rest) a w :=
  wpList_load_row hgd 72 x ho g hx 72 (tA v u) (0, 0) _ hA Try.underlying72 rfl size72 h
theorem st72 {ops : Array Oper} {rest : List Oper} {o : Oper} {a : Act} {w : World} {Q : Exit → Act → World → Prop} (hgd : o.guard = none) (x y : Operand) (ho : o.op = .store 72 x y)
    (g : Nat) (v u : Value) (hx : a.eval x = .pointer (some ⟨g, 0, none⟩)) (hy : a.eval y = .agg (tA v u)) (h1 : (tA v u).all (·.oneCell') = true) (D : Array Value) (hD : D.size = 3) (hA : Arr w g 72 D)
    (h : wpList Try.prog ops Q rest (a.put o.dst undef) (w.setRow g (tA v u))) : wpList Try.prog ops Q (o :: rest) a w :=
  wpList_store_arr hgd 72 x y ho g (tA v u) hx hy 72 D hA size72 (by rw [hD]; rfl) h1 h
theorem st72n {ops : Array Oper} {rest : List Oper} {o : Oper} {a : Act} {Q : Exit → Act → World → Prop} (hgd : o.guard = none) (x y : Operand) (ho : o.op = .store 72 x y) (W : World) (g : Nat) (hgW : W.heap.size = g) {z : Array Value} (hz : z.size = 3)
    (v u : Value) (hx : a.eval x = .pointer (some ⟨g, 0, none⟩)) (hy : a.eval y = .agg (tA v u)) (h1 : (tA v u).all (·.oneCell') = true)
    (h : wpList Try.prog ops Q rest (a.put o.dst undef) (W.alloc (.cells (tA v u) 72))) : wpList Try.prog ops Q (o :: rest) a (W.alloc (.cells z 72)) := by
  subst hgW
  exact wpList_store_new W z 72 hgd 72 x y ho (tA v u) hx hy size72 (by rw [hz]; rfl) h1 h
theorem res72 {f : Func} {w : World} {tmps : Array Value} {g t : Nat} {v u : Value} (hf : f.results = #[.cell t 72]) (hp : tmps.getD t undef = .pointer (some ⟨g, 0, none⟩)) (hA : Arr w g 72 (tA v u)) :
    (results f tmps).run Try.prog w = .ok (.agg (tA v u)) w := results_cell_row hf _ _ g 72 _ (0, 0) _ hp hA Try.underlying72 rfl size72
theorem own_ne {w : World} {base e s n g ty : Nat} {v : Value} {xs : List Value} {C : Array Value} (h : w.ownsRow base e s v n xs) (hA : Arr w g ty C) (hne : ty ≠ e) : some g ≠ v.ownBlock := by
  intro hv
  obtain ⟨-, ⟨rfl, -⟩ | ⟨b, cap, cur, rfl, -, hh, -⟩⟩ := h
  · cases hv
  · simp [Value.ownBlock] at hv
    subst hv
    unfold Arr at hA
    rw [hh] at hA
    simp at hA
    exact hne hA.2.symm
theorem own_one {w : World} {base e s n : Nat} {v : Value} {xs : List Value} (h : w.ownsRow base e s v n xs) : v.oneCell' = true := by
  obtain ⟨-, ⟨rfl, -⟩ | ⟨b, cap, cur, rfl, -, hh, -⟩⟩ := h <;> rfl
theorem own_hb {w : World} {base n : Nat} {v : Value} {T : List (List Int)} (h : w.ownsRow base 43 32 v n (flat32 T)) (hl : ∀ x ∈ T, x.length = 32) (hn : T.length = n) (h0 : 0 < n) :
    ∃ gl cl, v = .slice (some ⟨gl, 0, none⟩) n cl ∧ base ≤ gl ∧ n ≤ cl ∧ cl ≤ 9223372036854775807 ∧ HB w gl T := by
  obtain ⟨-, ⟨-, h⟩ | ⟨g, cap, cur, rfl, hg, hh, hnc, hcm, hc, ht⟩⟩ := h
  · omega
  · refine ⟨g, cap, rfl, hg, hnc, by unfold maxLen at hcm; omega, ⟨cur, hh⟩, fun i X hX j u hu => ?_, hl⟩
    have hi := (List.getElem?_eq_some_iff.1 hX).1
    have hj : j < 32 := by
      have := (List.getElem?_eq_some_iff.1 hu).1
      rw [by8_len, hl X (List.mem_of_getElem? hX)] at this; exact this
    rw [cell_of_row w g _ cur 43 (0, 0) hh, ← Array.getElem?_toList, ← List.getElem?_take_of_lt (show i * 32 + j < n * 32 by omega), ht]
    exact flat32_at hl hX hu
theorem own_sl43 {w : World} {base n e s : Nat} {v : Value} {xs : List Value} (h : w.ownsRow base e s v n xs) (h0 : 0 < n) : ∃ gl cl, v = .slice (some ⟨gl, 0, none⟩) n cl := by
  obtain ⟨-, ⟨-, h⟩ | ⟨g, cap, cur, rfl, -⟩⟩ := h
  · omega
  · exact ⟨g, cap, rfl⟩
theorem take_snoc {ls : List (List Int)} {j : Nat} (h : j < ls.length) : ls.take (j + 1) = ls.take j ++ [tat ls j] := by
  rw [List.take_add_one, tat_get h]; rfl
/-- What stays while a tree grows. -/
structure GI (w : World) (b0 gT : Nat) (v u : Value) (j : Nat) (T : List (List Int)) (wr : World) : Prop where
  a0 : Arr wr b0 72 #[.nilFunc, .slice none 0 0, .slice none 0 0]
  aT : Arr wr gT 72 (tA v u)
  own : wr.ownsRow (b0 + 1) 43 32 u j (flat32 T)
  bel : Below w.heap.size w wr
theorem GI.below {w : World} {b0 gT : Nat} {v u : Value} {j : Nat} {T : List (List Int)} {wr w' : World} (h : GI w b0 gT v u j T wr) (hb : Below wr.heap.size wr w') : GI w b0 gT v u j T w' :=
  ⟨h.a0.below hb h.a0.lt, h.aT.below hb h.aT.lt, own_same h.own (fun k hk => hb.block k (own_lt h.own hk)), h.bel.trans (hb.mono h.bel.size)⟩
theorem GI.c2 {w : World} {b0 gT : Nat} {v u : Value} {j : Nat} {T : List (List Int)} {wr : World} (h : GI w b0 gT v u j T wr) : wr.cell? ⟨gT, 2, none⟩ = some u := h.aT.cell 2
theorem GI.f2 {w : World} {b0 gT : Nat} {v u : Value} {j : Nat} {T : List (List Int)} {wr : World} (h : GI w b0 gT v u j T wr) : wr.frozen? ⟨gT, 2, none⟩ = false := h.aT.frozen 2
/-- One sum more: appended, and stored. -/
theorem GI.app {w : World} {b0 gT : Nat} {v u u' : Value} {j : Nat} {T : List (List Int)} {wr w' : World} {X : List Int} {o : Obj} (h : GI w b0 gT v u j T wr) (hb0 : b0 = w.heap.size) (hne : b0 < gT) (h1 : w'.ownsRow (b0 + 1) 43 32 u' (j + 1) (flat32 (T ++ [X]))) (hg : (wr.alloc o).grownBy w' u.ownBlock) :
    w'.cell? ⟨gT, 2, none⟩ = some u ∧ w'.frozen? ⟨gT, 2, none⟩ = false ∧ GI w b0 gT v u' (j + 1) (T ++ [X]) (w'.setCell ⟨gT, 2, none⟩ u') := by
  have e : ∀ k, k < wr.heap.size → some k ≠ u.ownBlock → w'.heap[k]? = wr.heap[k]? := fun k hk hn => (hg.block k (by simp; omega) hn).trans ((alloc_bel' wr o).block k hk)
  have aT' : Arr w' gT 72 (tA v u) := (e gT h.aT.lt (own_ne h.own h.aT (by decide))).trans h.aT
  have a0' : Arr w' b0 72 #[.nilFunc, .slice none 0 0, .slice none 0 0] := (e b0 h.a0.lt (own_ne h.own h.a0 (by decide))).trans h.a0
  have hsz := h.bel.size
  refine ⟨aT'.cell 2, aT'.frozen 2, a0'.setOther _ (show b0 ≠ gT by omega), ?_, ?_, ?_⟩
  · have := aT'.set 2 u'
    exact this
  · refine own_same h1 (fun k hk => Below.heap_setCell _ _ _ _ ?_)
    intro ek
    subst ek
    exact own_ne h1 aT' (by decide) hk.symm
  · have hb := (h.bel.alloc hsz o).grown hg (by simp; omega) (fun k e => by have := own_ge h.own k e; omega)
    have hgT : w.heap.size ≤ gT := by omega
    exact hb.setCell (p := ⟨gT, 2, none⟩) hgT _
end Go.Proofs.Ytndonaebdbbofaa
