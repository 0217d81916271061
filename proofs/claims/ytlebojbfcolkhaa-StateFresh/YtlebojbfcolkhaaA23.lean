/- Pj, Pk0. -/
import Derived.Test.YtlebojbfcolkhaaPi
import Derived.Lib.AppendZeros
/- Layer state: the way up; Check, CheckOut. -/
namespace Go.Proofs.Ytlebojbfcolkhaa
open Go.RowKit
set_option maxRecDepth 100000
set_option linter.unusedVariables false
set_option linter.unusedSimpArgs false

/-- append of sums to a slice of the call's own. -/
theorem apL {ops : Array Oper} {rest : List Oper} {o : Oper} {a : Act} {w : World} {Q : Exit → Act → World → Prop} (hgd : o.guard = none) (s x : Operand) (ho : o.op = .call { callee := .builtin .append, args := #[s, x], argTypes := #[42, 42] })
    (base N k : Nat) (v : Value) (l0 : List (List Int)) (hs : a.eval s = v) (hown : w.ownsRow base 24 32 v k (flat32 l0))
    (sp : Option Addr) (n cap : Nat) (ls : List (List Int)) (hx : a.eval x = .slice sp n cap) (hS : HS N w sp n cap ls) (hk : k ≤ 1000) (hb : n ≤ 1000) (hbase : base ≤ w.heap.size)
    (h : ∀ v' w', w'.ownsRow base 24 32 v' (k + n) (flat32 (l0 ++ ls)) → w.grownBy w' v.ownBlock → wpList Try.prog ops Q rest (a.put o.dst v') w') : wpList Try.prog ops Q (o :: rest) a w := by
  obtain ⟨i0, hi0, hz0, hz1, hz2⟩ := info_parts info24
  have hln := hS.len.out
  cases sp with
  | none =>
    obtain ⟨rfl, rfl⟩ := hS.nil rfl
    obtain rfl : ls = [] := List.eq_nil_of_length_eq_zero hln.symm
    have hrun := run_append_owned_none (P := Try.prog) (w := w) base 42 o.type 24 i0 32 Try.underlying42 hi0 v k _ hown
    refine wpList_plain hgd fun _ hK => ?_
    unfold Oper.wp
    simp [execOp, ho, resolve, invoke, builtin, hs, hx, hrun, Result.andThen]
    exact hK _ _ (h v w (by simpa using hown) ⟨rfl, rfl, rfl, Nat.le_refl _, fun _ _ _ => rfl⟩)
  | some ad =>
    refine wpList_append_own w hgd s x 42 ho base 24 i0 (.agg (h8 Z32)) 32 32 Try.underlying42 hi0 hz0 hz1 hz2 (by show (h8 Z32).size = 32; rw [h8_size, Z32_len]) (by omega) v k _ hs hown ad n cap (flat32 ls) hx (by rw [flat32_len hS.l32, hln]) (fun j u hj => ?_) (fun u hu => ?_) (by unfold maxLen; omega) (by omega) hbase (fun v' w' h1 h2 _ => h v' w' (by rw [flat32_append]; exact h1) h2)
    · obtain ⟨X, hX, hv'⟩ := flat32_of hS.l32 hj
      have hjn := (List.getElem?_eq_some_iff.1 hX).1
      obtain ⟨b, off, e, -, hR⟩ := hS.at0 (by omega)
      obtain rfl := Option.some.inj e
      have := hR _ X hX _ u hv'
      rw [Addr.add_mid]
      rwa [Nat.add_assoc, Nat.div_add_mod' j 32] at this
    · obtain ⟨L, hL, hv'⟩ := List.mem_flatten.1 hu
      obtain ⟨X, -, rfl⟩ := List.mem_map.1 hL
      exact by8_one X u hv'
set_option maxHeartbeats 1000000 in
theorem grow_any (m : Nat) (w : World) (h0 : 0 < m) (hm : m ≤ 1000) :
    Calls Try.prog 98 #[.slice none 0 0, .int .i64 m] w fun e w' => ∃ v, e = .returned v ∧ w'.ownsRow w.heap.size 24 32 v 0 (flat32 []) ∧ Below w.heap.size w w' := by
  obtain ⟨i0, hi0, hz0, hz1, hz2⟩ := info_parts info24
  have hr := Lib.run_append_nil_zeros (P := Try.prog) w 42 3 42 24 i0 (.agg (h8 Z32)) .i64 .i64 Try.underlying42 Try.underlying3 hi0 hz0 m h0 (by rw [hz1]; omega) (by omega) (by rw [hz2]; omega)
  have hge := grownCap_ge w m 0 24
  have hle := grownCap_le_maxLen w m 0 24 (by unfold maxLen; omega)
  have hsz : (Builtin.zeroCells (Value.agg (h8 Z32)).cells m ++ Builtin.zeroCells (Value.agg (h8 Z32)).cells (grownCap w m 0 24 - m)).size = grownCap w m 0 24 * 32 := by
    rw [Array.size_append, size_zeroCells, size_zeroCells, show (Value.agg (h8 Z32)).cells.size = 32 by show (h8 Z32).size = 32; rw [h8_size, Z32_len], ← Nat.add_mul]
    congr 1; omega
  generalize Builtin.zeroCells (Value.agg (h8 Z32)).cells m ++ Builtin.zeroCells (Value.agg (h8 Z32)).cells (grownCap w m 0 24 - m) = C at hr hsz
  generalize grownCap w m 0 24 = c at hr hsz hge hle
  have hm1 : ¬ (m : Int) < 0 := by omega
  have hm2 : (0 : Int) < m := by omega
  have hown : (w.drew.alloc (.cells C 24)).ownsRow w.heap.size 24 32 (.slice (some ⟨w.heap.size, 0, none⟩) 0 c) 0 (flat32 []) :=
    ⟨rfl, .inr ⟨w.heap.size, c, C, rfl, Nat.le_refl _, Arr.new w.drew 24 C, Nat.zero_le _, hle, hsz, by simp [flat32]⟩⟩
  have hb : Below w.heap.size w (w.drew.alloc (.cells C 24)) := (Below.refl _ _).drew.alloc (by simp) _
  replace hown := Hid.mk' hown
  have hcm : c ≤ 9223372036854775807 := by unfold maxLen at hle; omega
  go_enter Try.func98, Try.ntmps98
  go_wp2_with (at_builtin; go_must (refine Lib.wpList_append_run w (by rfl) (.tmp 20) (.tmp 21) 42 3 (by rfl) (.slice none 0 0) (.int .i64 m) (by rfl) (by rfl) _ _ hr ?_))
  go_ret
  exact ⟨_, rfl, hown.out, hb⟩
theorem cat32 {l1 l2 : List (List Int)} (h1 : ∀ x ∈ l1, x.length = 32) (h2 : ∀ x ∈ l2, x.length = 32) : ∀ x ∈ l1 ++ l2, x.length = 32 := by
  intro x hx
  rcases List.mem_append.1 hx with h | h
  · exact h1 x h
  · exact h2 x h
set_option maxHeartbeats 2000000 in
theorem concat_any (g N : Nat) (s1 s2 : Option Addr) (n1 c1 n2 c2 : Nat) (l1 l2 : List (List Int)) (w : World) (hA : Arr w g 42 #[.slice s1 n1 c1, .slice s2 n2 c2]) (hS1 : HS N w s1 n1 c1 l1) (hS2 : HS N w s2 n2 c2 l2) (h1 : n1 ≤ 100) (h2 : n2 ≤ 100) (h0 : 0 < n2) :
    Calls Try.prog 80 #[.slice (some ⟨g, 0, none⟩) 2 2] w fun e w' => ∃ sp cap, e = .returned (.slice sp (n1 + n2) cap) ∧ HS w'.heap.size w' sp (n1 + n2) cap (l1 ++ l2) ∧ Below w.heap.size w w' := by
  have hS1 := hS1.here
  have hS2 := hS2.here
  have k0 : w.cell? ⟨g, 0, none⟩ = some (.slice s1 n1 c1) := hA.cell 0
  have k1 : w.cell? ⟨g, 1, none⟩ = some (.slice s2 n2 c2) := hA.cell 1
  have hgl := hA.lt
  go_enter Try.func80, Try.ntmps80
  go_upto_region 3 with fail
  go_loopw [3, 11] (fun v q wr => wr = w ∧ ∃ (j m : Nat), q = .int .i64 (j : Int) ∧ v = .int .i64 (m : Int) ∧ ((j = 0 ∧ m = 0) ∨ (j = 1 ∧ m = n1) ∨ (j = 2 ∧ m = n1 + n2))) (fun _ q _ => 2 - (intOf q).toNat)
  case atStart => exact ⟨rfl, 0, 0, rfl, rfl, .inl ⟨rfl, rfl⟩⟩
  case round =>
    obtain ⟨hww, j, m, rfl, rfl, hc⟩ := hrel
    replace hww := hww.symm
    subst hww
    rcases hc with ⟨rfl, rfl⟩ | ⟨rfl, rfl⟩ | ⟨rfl, rfl⟩
    · have hw : ((0 : Nat) : Int) + n1 = n1 := by omega
      have hn : ¬ (n1 : Int) < 0 := by omega
      go_wp2_with fail
      go_roundw
      case rel => exact ⟨by first | rfl | trivial, 1, n1, by go_num, by go_num, .inr (.inl ⟨rfl, rfl⟩)⟩
      case measure => simp [intOf]
    · have hn : ¬ ((m : Int) + n2 < 0) := by omega
      go_wp2_with fail
      go_roundw
      case rel => exact ⟨by first | rfl | trivial, 2, m + n2, by go_num, by go_num, .inr (.inr ⟨rfl, rfl⟩)⟩
      case measure => simp [intOf]
    · go_upto_region 10 with (go_at_call 98; go_must (refine (grow_any (n1 + n2) _ (by omega) (by omega)).mono ?_; rintro e w1 ⟨v1, rfl, hO1, hb1⟩))
      have B1 := hb1
      go_upto_region 11 with fail
      go_loopw [6, 27] (fun v q wr => ∃ (j : Nat), q = .int .i64 (j : Int) ∧ Below w.heap.size w wr ∧ ((j = 0 ∧ wr.ownsRow w.heap.size 24 32 v 0 (flat32 [])) ∨ (j = 1 ∧ wr.ownsRow w.heap.size 24 32 v n1 (flat32 l1)) ∨ (j = 2 ∧ wr.ownsRow w.heap.size 24 32 v (n1 + n2) (flat32 (l1 ++ l2))))) (fun _ q _ => 2 - (intOf q).toNat)
      case atStart => exact ⟨0, rfl, B1, .inl ⟨rfl, hO1⟩⟩
      case round =>
        obtain ⟨j, rfl, hbl, hc⟩ := hrel
        have hs := hbl.size
        have hS1 := hS1.below hbl
        have hS2 := hS2.below hbl
        have k0 := (hbl.cell (p := ⟨g, 0, none⟩) hgl).trans k0
        have k1 := (hbl.cell (p := ⟨g, 1, none⟩) hgl).trans k1
        rcases hc with ⟨rfl, hO⟩ | ⟨rfl, hO⟩ | ⟨rfl, hO⟩
        · go_wp2_with (at_builtin; go_must (refine apL (by rfl) (.tmp 31) (.tmp 32) (by rfl) w.heap.size _ 0 _ [] (by rfl) hO s1 n1 c1 l1 (by rfl) hS1 (by omega) (by omega) hs ?_; intro v' w6 hO6 hG6; have hbl6 := hbl.grown hG6 hs (fun k e => own_ge hO k e)))
          go_roundw
          case rel => exact ⟨1, by go_num, hbl6, .inr (.inl ⟨rfl, by simpa using hO6⟩)⟩
          case measure => simp [intOf]
        · go_wp2_with (at_builtin; go_must (refine apL (by rfl) (.tmp 31) (.tmp 32) (by rfl) w.heap.size _ n1 _ l1 (by rfl) hO s2 n2 c2 l2 (by rfl) hS2 (by omega) (by omega) hs ?_; intro v' w6 hO6 hG6; have hbl6 := hbl.grown hG6 hs (fun k e => own_ge hO k e)))
          go_roundw
          case rel => exact ⟨2, by go_num, hbl6, .inr (.inr ⟨rfl, hO6⟩)⟩
          case measure => simp [intOf]
        · obtain ⟨sp6, cp6, rfl, hH, -⟩ := own_hs hO (cat32 hS1.l32 hS2.l32) (by rw [List.length_append, ← hS1.len.out, ← hS2.len.out]) (by omega)
          go_wp2_with fail
          go_ret
          exact ⟨sp6, cp6, rfl, hH, hbl⟩
end Go.Proofs.Ytlebojbfcolkhaa
/- Layer state: the way up; Check, CheckOut. -/
namespace Go.Proofs.Ytlebojbfcolkhaa
open Go.RowKit
set_option maxRecDepth 100000
set_option linter.unusedVariables false
set_option linter.unusedSimpArgs false

/-- Does the account check? -/
def ckA (R : List Int) (i : Int) (a : Ac) (ls : List (List Int)) (o : List Int) (c : Int) : Bool := decide ((ls.length = 5 ∧ c ≤ 32 ∧ 0 ≤ i ∧ i < 32) ∧ fo i.toNat (lf (acb a)) (ls ++ [o, cnt c]) = R)
def ckO (R : List Int) (i : Int) (b : Ou) (ls : List (List Int)) (o : List Int) (c : Int) : Bool := decide ((ls.length = 5 ∧ c ≤ 32 ∧ 0 ≤ i ∧ i < c) ∧ fo (32 + i.toNat) (lf (oub b)) (ls ++ [o, cnt c]) = R)
/-- A witness, its path in blocks below N. -/
structure WT (N : Nat) (w : World) (sp : Option Addr) (n cap : Nat) (ls : List (List Int)) (o : List Int) (c : Int) : Prop where
  path : HS N w sp n cap ls
  o32 : o.length = 32
  c0 : 0 ≤ c
  c1 : c < 18446744073709551616
theorem WT.below {N : Nat} {w w' : World} {sp : Option Addr} {n cap : Nat} {ls : List (List Int)} {o : List Int} {c : Int} (h : WT N w sp n cap ls o c) (hb : Below N w w') : WT N w' sp n cap ls o c := ⟨h.path.below hb, h.o32, h.c0, h.c1⟩
theorem WT.here {N : Nat} {w : World} {sp : Option Addr} {n cap : Nat} {ls : List (List Int)} {o : List Int} {c : Int} (h : WT N w sp n cap ls o c) : WT w.heap.size w sp n cap ls o c := ⟨h.path.here, h.o32, h.c0, h.c1⟩
theorem WT.mono {N N' : Nat} {w : World} {sp : Option Addr} {n cap : Nat} {ls : List (List Int)} {o : List Int} {c : Int} (h : WT N w sp n cap ls o c) (hN : N ≤ N') : WT N' w sp n cap ls o c := ⟨h.path.mono hN, h.o32, h.c0, h.c1⟩
theorem wt_c' {w : World} {g : Nat} {sp : Option Addr} {n cap : Nat} {o : List Int} {c : Int} (h : w.rangeAt g 0 (wtC sp n cap o c)) (ho : o.length = 32) : w.cell? ⟨g, 33, none⟩ = some (.int .u64 c) := by
  have := wt_c h ho
  rwa [Nat.zero_add] at this
set_option maxHeartbeats 1000000 in
theorem mayW_any (sp : Option Addr) (n cap : Nat) (o : List Int) (c : Int) (w : World) (ho : o.length = 32) (hn : n ≤ 140737488355328) :
    Calls Try.prog 55 #[.agg (wtA sp n cap o c)] w fun e w' => e = .returned (.bool (decide (n = 5 ∧ c ≤ 32))) ∧ Below w.heap.size w w' := by
  have A0 := Arr.new w 44 (wtA sp n cap o c)
  have hb0 := alloc_bel' w (.cells (wtA sp n cap o c) 44)
  have k0 := wt_c0 A0.wt
  have k1 := wt_c' A0.wt ho
  by_cases h5 : n = 5
  · subst h5
    by_cases hc : c ≤ 32
    · rw [decide_eq_true ⟨rfl, hc⟩]
      go_enter Try.func55, Try.ntmps55
      go_wp2_with fail
      go_ret
      exact ⟨by first | rfl | simp [hc], hb0⟩
    · rw [decide_eq_false (fun h => hc h.2)]
      go_enter Try.func55, Try.ntmps55
      go_wp2_with fail
      go_ret
      exact ⟨by first | rfl | simp [hc], hb0⟩
  · rw [decide_eq_false (fun h => h5 h.1)]
    have h5' : ¬ (n : Int) = 5 := by omega
    clear h5
    go_enter Try.func55, Try.ntmps55
    go_wp2_with fail
    go_ret
    exact ⟨by first | rfl | simp [h5'], hb0⟩
set_option maxHeartbeats 1000000 in
theorem wayUp_any (N : Nat) (sp : Option Addr) (n cap : Nat) (ls : List (List Int)) (o : List Int) (c : Int) (w : World) (hW : WT N w sp n cap ls o c) (hn : n ≤ 100) :
    Calls Try.prog 58 #[.agg (wtA sp n cap o c)] w fun e w' => ∃ s k, e = .returned (.slice s (n + 2) k) ∧ HS w'.heap.size w' s (n + 2) k (ls ++ [o, cnt c]) ∧ Below w.heap.size w w' := by
  have hW := hW.here
  have A0 := (Arr.new w 44 (wtA sp n cap o c)).drew
  have B0 := (alloc_bel' w (.cells (wtA sp n cap o c) 44)).drew
  go_enter Try.func58, Try.ntmps58
  go_upto_region 1 with fail
  refine wp_region_held_drew (S := fun u => Below w.heap.size w u ∧ Arr u w.heap.size 44 (wtA sp n cap o c)) (by kernel_rfl) (⟨B0, A0⟩) (fun hHeld => ?_)
  refine wpAnyH_take (i := 0) (oi := ⟨_, _, _, _, _, _⟩) (v := ?_) rfl (by kernel_rfl) (by kernel_rfl) (by kernel_rfl) (fun _ _ _ h => h) (Or.inl ⟨by rfl, ?_⟩) (by assumption) ?_
  rotate_left
  · intro u hSw
    go_simp
    try (with_reducible rfl)
  try simp only [Act.put, List.setIfInBounds_toArray, List.set_cons_zero, List.set_cons_succ]
  refine wpAnyH_take (i := 1) (oi := ⟨_, _, _, _, _, _⟩) (v := ?_) rfl (by kernel_rfl) (by kernel_rfl) (by kernel_rfl) (fun _ _ _ h => h) (Or.inl ⟨by rfl, ?_⟩) (by assumption) ?_
  rotate_left
  · intro u hSw
    have cc := wt_c0 hSw.2.wt
    go_simp
    try (with_reducible rfl)
  try simp only [Act.put, List.setIfInBounds_toArray, List.set_cons_zero, List.set_cons_succ]
  refine wpAnyH_take (i := 2) (oi := ⟨_, _, _, _, _, _⟩) (v := ?_) rfl (by kernel_rfl) (by kernel_rfl) (by kernel_rfl) (fun _ _ _ h => h) (Or.inl ⟨by rfl, ?_⟩) (by assumption) ?_
  rotate_left
  · intro u hSw
    go_simp
    try (with_reducible rfl)
  try simp only [Act.put, List.setIfInBounds_toArray, List.set_cons_zero, List.set_cons_succ]
  refine wpAnyH_take (i := 3) (oi := ⟨_, _, _, _, _, _⟩) rfl (by kernel_rfl) (by kernel_rfl) (by kernel_rfl) (fun _ _ _ h => h) (y24 (by rfl) (.tmp 5) rfl w.heap.size (0 + 1) rfl o hW.o32 (fun u hu => wt_o hu.2.wt)) (by assumption) ?_
  try simp only [Act.put, List.setIfInBounds_toArray, List.set_cons_zero, List.set_cons_succ]
  refine wpAnyH_take (i := 4) (oi := ⟨_, _, _, _, _, _⟩) (v := ?_) rfl (by kernel_rfl) (by kernel_rfl) (by kernel_rfl) (fun _ _ _ h => h) (Or.inl ⟨by rfl, ?_⟩) (by assumption) ?_
  rotate_left
  · intro u hSw
    go_simp
    try (with_reducible rfl)
  try simp only [Act.put, List.setIfInBounds_toArray, List.set_cons_zero, List.set_cons_succ]
  refine wpAnyH_take (i := 5) (oi := ⟨_, _, _, _, _, _⟩) (v := ?_) rfl (by kernel_rfl) (by kernel_rfl) (by kernel_rfl) (fun _ _ _ h => h) (Or.inl ⟨by rfl, ?_⟩) (by assumption) ?_
  rotate_left
  · intro u hSw
    have cc := wt_c' hSw.2.wt hW.o32
    go_simp
    try (with_reducible rfl)
  try simp only [Act.put, List.setIfInBounds_toArray, List.set_cons_zero, List.set_cons_succ]
  refine wpAnyH_ready (rs := [6]) (by kernel_rfl) (by simp) ?_
  refine AllReadyH.cons (o := ⟨_, _, _, _, _, _⟩) rfl (fun K hK => ?_) AllReadyH.nil
  go_simp
  refine (countSum_any c _).mono ?_; rintro e u1 ⟨rfl, hb1⟩; have B1 := B0.trans (hb1.mono B0.size); have A1 := A0.below hb1 A0.lt
  go_wp2_with fail
  refine hK.out _ _ ⟨B1, A1⟩ (fun hHeld => ?_)
  clear hK K
  try simp only [Act.put, List.setIfInBounds_toArray, List.set_cons_zero, List.set_cons_succ]
  refine wpAnyH_ready (rs := [7]) (by kernel_rfl) (by simp) ?_
  refine AllReadyH.cons (o := ⟨_, _, _, _, _, _⟩) rfl (fun K hK => ?_) AllReadyH.nil
  refine step_want rfl (wp_bld2 (.tmp 6) (.tmp 9) rfl o (cnt c) rfl rfl hW.o32 (cnt_len c) ?_)
  refine hK.out _ _ ⟨B1.alloc B1.size _, A1.alloc _⟩ (fun hHeld => ?_)
  clear hK K
  try simp only [Act.put, List.setIfInBounds_toArray, List.set_cons_zero, List.set_cons_succ]
  have hL2 := hs_lit (Arr.new u1 24 (flat32 [o, cnt c]).toArray) (two32 hW.o32 (cnt_len c)) (m := 2) rfl (by omega)
  have B2 := B1.alloc B1.size (.cells (flat32 [o, cnt c]).toArray 24)
  have A2 := A1.alloc (.cells (flat32 [o, cnt c]).toArray 24)
  generalize u1.alloc (.cells (flat32 [o, cnt c]).toArray 24) = u2 at *
  have hb3 := alloc_bel' u2 (.cells #[.slice sp n cap, .slice (some ⟨u1.heap.size, 0, none⟩) 2 2] 42)
  have hA3 := Arr.new u2 42 #[.slice sp n cap, .slice (some ⟨u1.heap.size, 0, none⟩) 2 2]
  have B3 := B2.alloc B2.size (.cells #[.slice sp n cap, .slice (some ⟨u1.heap.size, 0, none⟩) 2 2] 42)
  have A3 := A2.alloc (.cells #[.slice sp n cap, .slice (some ⟨u1.heap.size, 0, none⟩) 2 2] 42)
  refine wpAnyH_ready (rs := [8]) (by kernel_rfl) (by simp) ?_
  refine AllReadyH.cons (o := ⟨_, _, _, _, _, _⟩) rfl (fun K hK => ?_) AllReadyH.nil
  go_simp
  go_wp2_with fail
  refine hK.out _ _ ⟨B3, A3⟩ (fun hHeld => ?_)
  clear hK K
  try simp only [Act.put, List.setIfInBounds_toArray, List.set_cons_zero, List.set_cons_succ]
  have hP3 := (hW.path.below B3).mono B2.size
  have hL3 := hL2.below hb3
  have hC3 := concat_any _ _ _ _ _ _ _ _ _ _ _ hA3 hP3 hL3 hn (by omega) (by omega)
  refine wpAnyH_ready (rs := [9]) (by kernel_rfl) (by simp) ?_
  refine AllReadyH.cons (o := ⟨_, _, _, _, _, _⟩) rfl (fun K hK => ?_) AllReadyH.nil
  go_simp
  refine (hC3).mono ?_; rintro e u4 ⟨s4, c4, rfl, hH4, hb4⟩; have B4 := B3.trans (hb4.mono B3.size); have A4 := A3.below hb4 A3.lt
  go_wp2_with fail
  refine hK.out _ _ ⟨B4, A4⟩ (fun hHeld => ?_)
  clear hK K
  try simp only [Act.put, List.setIfInBounds_toArray, List.set_cons_zero, List.set_cons_succ]
  refine wpAnyH_take (i := 10) (oi := ⟨_, _, _, _, _, _⟩) (v := ?_) rfl (by kernel_rfl) (by kernel_rfl) (by kernel_rfl) (fun _ _ _ h => h) (Or.inl ⟨by rfl, ?_⟩) (by assumption) ?_
  rotate_left
  · intro u hSw
    go_simp
    try (with_reducible rfl)
  try simp only [Act.put, List.setIfInBounds_toArray, List.set_cons_zero, List.set_cons_succ]
  refine wpAnyH_done (by kernel_rfl) ?_ _

  go_wp2_with fail
  go_ret
  exact ⟨s4, c4, rfl, hH4, B4⟩
end Go.Proofs.Ytlebojbfcolkhaa
