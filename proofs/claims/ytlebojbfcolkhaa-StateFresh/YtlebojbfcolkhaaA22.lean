/- Pg, Ph. -/
import Derived.Test.YtlebojbfcolkhaaA21
/- Layer state: Root. -/
namespace Go.Proofs.Ytlebojbfcolkhaa
open Go.RowKit
set_option maxRecDepth 100000
set_option linter.unusedVariables false
set_option linter.unusedSimpArgs false

/-- What Root answers. -/
def rtV (ps : List Ac) (os : List Ou) : List Int := if may ps os.length = true then rtS ps os else Z32
def rtE (ps : List Ac) (os : List Ou) : Int := if may ps os.length = true then 0 else 2
theorem rtS_len (ps : List Ac) (os : List Ou) : (rtS ps os).length = 32 := jn_len _ _ _
theorem rtV_len (ps : List Ac) (os : List Ou) : (rtV ps os).length = 32 := by unfold rtV; split; exact rtS_len _ _; exact Z32_len
theorem may_le {ps : List Ac} {n : Nat} (h : may ps n = true) : n ≤ 32 := by
  unfold may at h; simp at h; exact h.2
theorem fo_two (a o c : List Int) : fo 0 a [o, c] = pr (pr a o) c := by simp [fo]
theorem al_map (ps : List Ac) : (ps.map fun a => 0 :: acb a).map shl = al ps := by simp [al, lf]
theorem ol_map (os : List Ou) : (os.map fun a => 0 :: oub a).map shl = ol os := by simp [ol, lf]
/-- A tree, as a slice of entries. -/
def TP (n : Nat) (bs : List (List Int)) (ls : List (List Int)) (w : World) (r : Ending) (w' : World) : Prop :=
  ∃ sp cap es, r = .returned (.slice sp n cap) ∧ ES w'.heap.size w' sp n cap es ∧ Hid (es.map En.sm = ls) ∧ TR w.heap.size w' (.slice sp n cap) es bs ∧ Below w.heap.size w w'
theorem TPost.tp {bs ls : List (List Int)} {n : Nat} {w w' : World} {r : Ending} (h : TPost bs w r w') (hn : n = bs.length) (h32 : n ≤ 32) (hl : bs.map shl = ls) : TP n bs ls w r w' := by
  obtain ⟨v, es, rfl, hR, hb⟩ := h
  obtain ⟨sp, cap, rfl, hE⟩ := hR.es (by omega)
  subst hn
  exact ⟨sp, cap, es, rfl, hE, Hid.mk' (by rw [hR.sums, hl]), hR, hb⟩
theorem accs_any (ps : List Ac) (sp : Option Addr) (n cap : Nat) (w : World) (h1 : ps.length = 32) (hok : ∀ a ∈ ps, AcOK a) :
    Calls Try.prog 45 #[.agg (stA ps sp n cap)] w (TP 32 (ps.map fun a => 0 :: acb a) (al ps) w) :=
  (accountsOf_any ps sp n cap w h1 hok).mono fun r w' h => h.tp (by simp [h1]) (by omega) (al_map ps)
theorem outs_any (ps : List Ac) (N : Nat) (sp : Option Addr) (n cap : Nat) (os : List Ou) (w : World) (hS : SS N w ps sp n cap os) (hn : n ≤ 32) :
    Calls Try.prog 47 #[.agg (stA ps sp n cap)] w (TP n (os.map fun a => 0 :: oub a) (ol os) w) :=
  (outsOf_any ps N sp n cap os w hS hn).mono fun r w' h => h.tp (by rw [List.length_map]; exact hS.outs.len.out) hn (ol_map os)
theorem troot_ls (N : Nat) (sp : Option Addr) (n cap : Nat) (es : List En) (ls : List (List Int)) (w : World) (hS : ES N w sp n cap es) (hl : Hid (es.map En.sm = ls)) (hn : n ≤ 32) :
    Calls Try.prog 46 #[.slice sp n cap] w fun e w' => e = .returned (.agg (h8 (tr 5 ls))) ∧ Below w.heap.size w w' := by
  have h := troot_any N sp n cap es w hS hn
  rw [hl.out] at h
  exact h
theorem two32 {A B : List Int} (hA : A.length = 32) (hB : B.length = 32) : ∀ x ∈ [A, B], x.length = 32 := by
  intro x hx
  simp only [List.mem_cons, List.mem_nil_iff, or_false] at hx
  rcases hx with rfl | rfl <;> assumption
set_option maxHeartbeats 2000000 in
theorem root_ok (ps : List Ac) (N : Nat) (sp : Option Addr) (n cap : Nat) (os : List Ou) (w : World) (hS : SS N w ps sp n cap os) (hm : may ps n = true) :
    Calls Try.prog 11 #[.agg (stA ps sp n cap)] w fun e w' => e = .returned (.tuple #[.agg (h8 (rtS ps os)), .int .i64 0]) ∧ Below w.heap.size w w' := by
  have h1 := hS.a32.out
  have h2 := hS.l32
  have hok := hS.ok.out
  have hn32 := may_le hm
  have hnl := hS.outs.len
  have hS := hS.here
  have A0 := (Arr.new w 30 (stA ps sp n cap)).alloc (.cells (h8 Z32) 24)
  have Z0 := Arr.new (w.alloc (.cells (stA ps sp n cap) 30)) 24 (h8 Z32)
  rw [World.size_alloc] at Z0
  have B0 := (alloc_bel' w (.cells (stA ps sp n cap) 30)).alloc (by simp) (.cells (h8 Z32) 24)
  have hM := may_any ps sp n cap ((w.alloc (.cells (stA ps sp n cap) 30)).alloc (.cells (h8 Z32) 24)) h1 hok (by omega)
  rw [hm] at hM
  have hA32 := tr5_len (al_32 ps)
  have hO32 := tr5_len (ol_32 os)
  have hC32 := cnt_len n
  have hRe : Hid (rtS ps os = pr (pr (tr 5 (al ps)) (tr 5 (ol os))) (cnt n)) := Hid.mk' (by unfold rtS jn; rw [hnl.out])
  obtain ⟨R, hRR⟩ : ∃ R, R = pr (pr (tr 5 (al ps)) (tr 5 (ol os))) (cnt n) := ⟨_, rfl⟩
  have hR : R.length = 32 := by rw [hRR]; exact pr_len _ _
  rw [hRe.out, ← hRR]
  replace hRR := Hid.mk' hRR
  replace hok := Hid.mk' hok
  go_enter Try.func11, Try.ntmps11
  go_upto_region 3 with (first
    | (refine ld30 (by rfl) _ (by rfl) w.heap.size 30 (by rfl) ps sp n cap h1 h2 A0 ?_)
    | (go_at_call 13; go_must (refine hM.mono ?_; rintro e w1 ⟨rfl, hbM⟩)))
  replace B0 := (B0.trans (hbM.mono B0.size)).drew
  replace A0 := (A0.below hbM A0.lt).drew
  replace Z0 := (Z0.below hbM Z0.lt).drew
  replace hok := hok.out
  clear hM
  refine wp_region_held_drew (S := fun u => Below w.heap.size w u ∧ Arr u w.heap.size 30 (stA ps sp n cap)) (by kernel_rfl) (⟨B0, A0⟩) (fun hHeld => ?_)
  refine wpAnyH_take (i := 0) (oi := ⟨_, _, _, _, _, _⟩) rfl (by kernel_rfl) (by kernel_rfl) (by kernel_rfl) (fun _ _ _ h => h) (y30 (by rfl) (.tmp 1) rfl w.heap.size 30 rfl ps sp n cap h1 h2 (fun u hu => hu.2)) (by assumption) ?_
  try simp only [Act.put, List.setIfInBounds_toArray, List.set_cons_zero, List.set_cons_succ]
  refine wpAnyH_take (i := 3) (oi := ⟨_, _, _, _, _, _⟩) rfl (by kernel_rfl) (by kernel_rfl) (by kernel_rfl) (fun _ _ _ h => h) (y30 (by rfl) (.tmp 1) rfl w.heap.size 30 rfl ps sp n cap h1 h2 (fun u hu => hu.2)) (by assumption) ?_
  try simp only [Act.put, List.setIfInBounds_toArray, List.set_cons_zero, List.set_cons_succ]
  refine wpAnyH_take (i := 6) (oi := ⟨_, _, _, _, _, _⟩) rfl (by kernel_rfl) (by kernel_rfl) (by kernel_rfl) (fun _ _ _ h => h) (y30 (by rfl) (.tmp 1) rfl w.heap.size 30 rfl ps sp n cap h1 h2 (fun u hu => hu.2)) (by assumption) ?_
  try simp only [Act.put, List.setIfInBounds_toArray, List.set_cons_zero, List.set_cons_succ]
  refine wpAnyH_ready (rs := [1]) (by kernel_rfl) (by simp) ?_
  refine AllReadyH.cons (o := ⟨_, _, _, _, _, _⟩) rfl (fun K hK => ?_) AllReadyH.nil
  go_simp
  refine (accs_any ps sp n cap _ h1 hok).mono ?_; rintro e u1 ⟨s1, c1, es1, rfl, hE1, hm1, -, hb1⟩; have B1 := B0.trans (hb1.mono B0.size); have A1 := A0.below hb1 A0.lt; have Z1 := Z0.below hb1 Z0.lt
  go_wp2_with fail
  refine hK.out _ _ ⟨B1, A1⟩ (fun hHeld => ?_)
  clear hK K
  try simp only [Act.put, List.setIfInBounds_toArray, List.set_cons_zero, List.set_cons_succ]
  refine wpAnyH_ready (rs := [2]) (by kernel_rfl) (by simp) ?_
  refine AllReadyH.cons (o := ⟨_, _, _, _, _, _⟩) rfl (fun K hK => ?_) AllReadyH.nil
  go_simp
  refine (troot_ls _ s1 32 c1 es1 _ _ hE1 hm1 (by omega)).mono ?_; rintro e u2 ⟨rfl, hb2⟩; have B2 := B1.trans (hb2.mono B1.size); have A2 := A1.below hb2 A1.lt; have Z2 := Z1.below hb2 Z1.lt
  go_wp2_with fail
  refine hK.out _ _ ⟨B2, A2⟩ (fun hHeld => ?_)
  clear hK K
  try simp only [Act.put, List.setIfInBounds_toArray, List.set_cons_zero, List.set_cons_succ]
  refine wpAnyH_ready (rs := [4]) (by kernel_rfl) (by simp) ?_
  refine AllReadyH.cons (o := ⟨_, _, _, _, _, _⟩) rfl (fun K hK => ?_) AllReadyH.nil
  go_simp
  refine (outs_any ps _ sp n cap os _ (hS.below B2) hn32).mono ?_; rintro e u3 ⟨s3, c3, es3, rfl, hE3, hm3, -, hb3⟩; have B3 := B2.trans (hb3.mono B2.size); have A3 := A2.below hb3 A2.lt; have Z3 := Z2.below hb3 Z2.lt
  go_wp2_with fail
  refine hK.out _ _ ⟨B3, A3⟩ (fun hHeld => ?_)
  clear hK K
  try simp only [Act.put, List.setIfInBounds_toArray, List.set_cons_zero, List.set_cons_succ]
  refine wpAnyH_ready (rs := [5]) (by kernel_rfl) (by simp) ?_
  refine AllReadyH.cons (o := ⟨_, _, _, _, _, _⟩) rfl (fun K hK => ?_) AllReadyH.nil
  go_simp
  refine (troot_ls _ s3 n c3 es3 _ _ hE3 hm3 hn32).mono ?_; rintro e u4 ⟨rfl, hb4⟩; have B4 := B3.trans (hb4.mono B3.size); have A4 := A3.below hb4 A3.lt; have Z4 := Z3.below hb4 Z3.lt
  go_wp2_with fail
  refine hK.out _ _ ⟨B4, A4⟩ (fun hHeld => ?_)
  clear hK K
  try simp only [Act.put, List.setIfInBounds_toArray, List.set_cons_zero, List.set_cons_succ]
  refine wpAnyH_ready (rs := [7]) (by kernel_rfl) (by simp) ?_
  refine AllReadyH.cons (o := ⟨_, _, _, _, _, _⟩) rfl (fun K hK => ?_) AllReadyH.nil
  go_simp
  refine (count_any ps sp n cap _ h1 h2 (by omega)).mono ?_; rintro e u5 ⟨rfl, hb5⟩; have B5 := B4.trans (hb5.mono B4.size); have A5 := A4.below hb5 A4.lt; have Z5 := Z4.below hb5 Z4.lt
  go_wp2_with fail
  refine hK.out _ _ ⟨B5, A5⟩ (fun hHeld => ?_)
  clear hK K
  try simp only [Act.put, List.setIfInBounds_toArray, List.set_cons_zero, List.set_cons_succ]
  refine wpAnyH_ready (rs := [8]) (by kernel_rfl) (by simp) ?_
  refine AllReadyH.cons (o := ⟨_, _, _, _, _, _⟩) rfl (fun K hK => ?_) AllReadyH.nil
  go_simp
  refine (countSum_any n _).mono ?_; rintro e u6 ⟨rfl, hb6⟩; have B6 := B5.trans (hb6.mono B5.size); have A6 := A5.below hb6 A5.lt; have Z6 := Z5.below hb6 Z5.lt
  go_wp2_with fail
  refine hK.out _ _ ⟨B6, A6⟩ (fun hHeld => ?_)
  clear hK K
  try simp only [Act.put, List.setIfInBounds_toArray, List.set_cons_zero, List.set_cons_succ]
  refine wpAnyH_ready (rs := [9]) (by kernel_rfl) (by simp) ?_
  refine AllReadyH.cons (o := ⟨_, _, _, _, _, _⟩) rfl (fun K hK => ?_) AllReadyH.nil
  refine step_want rfl (wp_bld2 (.tmp 13) (.tmp 16) rfl (tr 5 (ol os)) (cnt n) rfl rfl hO32 hC32 ?_)
  refine hK.out _ _ ⟨B6.alloc B6.size _, A6.alloc _⟩ (fun hHeld => ?_)
  clear hK K
  try simp only [Act.put, List.setIfInBounds_toArray, List.set_cons_zero, List.set_cons_succ]
  have hH7 := hs_lit (Arr.new u6 24 (flat32 [tr 5 (ol os), cnt n]).toArray) (two32 hO32 hC32) (m := 2) rfl (by omega)
  have hfo := fold_ok 0 (tr 5 (al ps)) _ _ 2 2 _ _ hA32 hH7 (by omega) (by decide)
  rw [fo_two, ← hRR.out, Int.natCast_zero] at hfo
  have B7 := B6.alloc B6.size (.cells (flat32 [tr 5 (ol os), cnt n]).toArray 24)
  have A7 := A6.alloc (.cells (flat32 [tr 5 (ol os), cnt n]).toArray 24)
  have Z7 := Z6.alloc (.cells (flat32 [tr 5 (ol os), cnt n]).toArray 24)
  refine wpAnyH_ready (rs := [10]) (by kernel_rfl) (by simp) ?_
  refine AllReadyH.cons (o := ⟨_, _, _, _, _, _⟩) rfl (fun K hK => ?_) AllReadyH.nil
  go_simp
  refine (hfo).mono ?_; rintro e u8 ⟨rfl, hb8⟩; have B8 := B7.trans (hb8.mono B7.size); have A8 := A7.below hb8 A7.lt; have Z8 := Z7.below hb8 Z7.lt
  go_wp2_with fail
  refine hK.out _ _ ⟨B8, A8⟩ (fun hHeld => ?_)
  clear hK K
  try simp only [Act.put, List.setIfInBounds_toArray, List.set_cons_zero, List.set_cons_succ]
  refine wpAnyH_take (i := 11) (oi := ⟨_, _, _, _, _, _⟩) (v := ?_) rfl (by kernel_rfl) (by kernel_rfl) (by kernel_rfl) (fun _ _ _ h => h) (Or.inl ⟨by rfl, ?_⟩) (by assumption) ?_
  rotate_left
  · intro u hSw
    go_simp
    try (with_reducible rfl)
  try simp only [Act.put, List.setIfInBounds_toArray, List.set_cons_zero, List.set_cons_succ]
  refine wpAnyH_take (i := 12) (oi := ⟨_, _, _, _, _, _⟩) (v := ?_) rfl (by kernel_rfl) (by kernel_rfl) (by kernel_rfl) (fun _ _ _ h => h) (Or.inl ⟨by rfl, ?_⟩) (by assumption) ?_
  rotate_left
  · intro u hSw
    go_simp
    try (with_reducible rfl)
  try simp only [Act.put, List.setIfInBounds_toArray, List.set_cons_zero, List.set_cons_succ]
  refine wpAnyH_ready (rs := [13]) (by kernel_rfl) (by simp) ?_
  refine AllReadyH.cons (o := ⟨_, _, _, _, _, _⟩) rfl (fun K hK => ?_) AllReadyH.nil
  refine step_want rfl (wp_store_row 24 (.tmp 2) (.tmp 19) rfl (w.heap.size + 1) (h8 R) rfl rfl 24 _ Z8 (s24h8 hR) (by rw [h8_size, h8_size, hR, Z32_len]) (h8_one _) ?_)
  refine hK.out _ _ ⟨below_setRow B8 (by omega) _, A8.setRowOther (k := w.heap.size + 1) _ (by omega)⟩ (fun hHeld => ?_)
  clear hK K
  try simp only [Act.put, List.setIfInBounds_toArray, List.set_cons_zero, List.set_cons_succ]
  refine wpAnyH_take (i := 14) (oi := ⟨_, _, _, _, _, _⟩) (v := ?_) rfl (by kernel_rfl) (by kernel_rfl) (by kernel_rfl) (fun _ _ _ h => h) (Or.inl ⟨by rfl, ?_⟩) (by assumption) ?_
  rotate_left
  · intro u hSw
    go_simp
    try (with_reducible rfl)
  try simp only [Act.put, List.setIfInBounds_toArray, List.set_cons_zero, List.set_cons_succ]
  refine wpAnyH_done (by kernel_rfl) ?_ _

  go_wp2_with fail
  exact bodyPost_ret (v := .tuple #[.agg (h8 R), .int .i64 0]) (resP Try.results11 rfl rfl hR (Z8.setRow _)) rfl ⟨rfl, below_setRow B8 (by omega) _⟩
set_option maxHeartbeats 1000000 in
theorem root_no (ps : List Ac) (sp : Option Addr) (n cap : Nat) (w : World) (h1 : ps.length = 32) (hok : ∀ a ∈ ps, AcOK a) (hn : n ≤ 140737488355328) (hm : may ps n = false) :
    Calls Try.prog 11 #[.agg (stA ps sp n cap)] w fun e w' => e = .returned (.tuple #[.agg (h8 Z32), .int .i64 2]) ∧ Below w.heap.size w w' := by
  have h2 : ∀ a ∈ ps, a.lk.length = 32 := fun a ha => (hok a ha).l32
  have A0 := (Arr.new w 30 (stA ps sp n cap)).alloc (.cells (h8 Z32) 24)
  have Z0 := Arr.new (w.alloc (.cells (stA ps sp n cap) 30)) 24 (h8 Z32)
  rw [World.size_alloc] at Z0
  have B0 := (alloc_bel' w (.cells (stA ps sp n cap) 30)).alloc (by simp) (.cells (h8 Z32) 24)
  have hM := may_any ps sp n cap ((w.alloc (.cells (stA ps sp n cap) 30)).alloc (.cells (h8 Z32) 24)) h1 hok hn
  rw [hm] at hM
  go_enter Try.func11, Try.ntmps11
  go_wp2_with (first
    | (refine ld30 (by rfl) _ (by rfl) w.heap.size 30 (by rfl) ps sp n cap h1 h2 A0 ?_)
    | (go_at_call 13; go_must (refine hM.mono ?_; rintro e w1 ⟨rfl, hbM⟩; have Z1 := Z0.below hbM Z0.lt))
    | (refine st24 (by rfl) _ _ (by rfl) (w.heap.size + 1) Z32 Z32 (by rfl) (by rfl) Z32_len Z32_len Z1 ?_))
  exact bodyPost_ret (v := .tuple #[.agg (h8 Z32), .int .i64 2]) (resP Try.results11 rfl rfl Z32_len (Z1.setRow _)) rfl ⟨rfl, below_setRow (B0.trans (hbM.mono B0.size)) (by omega) _⟩
theorem sroot_any (ps : List Ac) (N : Nat) (sp : Option Addr) (n cap : Nat) (os : List Ou) (w : World) (hS : SS N w ps sp n cap os) :
    Calls Try.prog 11 #[.agg (stA ps sp n cap)] w fun e w' => e = .returned (.tuple #[.agg (h8 (rtV ps os)), .int .i64 (rtE ps os)]) ∧ Below w.heap.size w w' := by
  have hl := hS.outs.len.out
  cases hm : may ps n with
  | true =>
    have e1 : rtV ps os = rtS ps os := by unfold rtV; rw [← hl, if_pos hm]
    have e2 : rtE ps os = 0 := by unfold rtE; rw [← hl, if_pos hm]
    rw [e1, e2]; exact root_ok ps N sp n cap os w hS hm
  | false =>
    have e1 : rtV ps os = Z32 := by unfold rtV; rw [← hl, hm]; rfl
    have e2 : rtE ps os = 2 := by unfold rtE; rw [← hl, hm]; rfl
    rw [e1, e2]; exact root_no ps sp n cap w hS.a32.out hS.ok.out hS.outs.small hm
end Go.Proofs.Ytlebojbfcolkhaa
/- Layer state: witnesses. -/
namespace Go.Proofs.Ytlebojbfcolkhaa
open Go.RowKit
set_option maxRecDepth 100000
set_option linter.unusedVariables false
set_option linter.unusedSimpArgs false

/-- A witness' cells. -/
def wtC (sp : Option Addr) (n cap : Nat) (o : List Int) (c : Int) : List Value := .slice sp n cap :: (by8 o ++ [.int .u64 c])
def wtA (sp : Option Addr) (n cap : Nat) (o : List Int) (c : Int) : Array Value := (wtC sp n cap o c).toArray
theorem wtC_len {sp : Option Addr} {n cap : Nat} {o : List Int} {c : Int} (h : o.length = 32) : (wtC sp n cap o c).length = 34 := by simp [wtC, by8_len, h]
theorem wtA_size {sp : Option Addr} {n cap : Nat} {o : List Int} {c : Int} (h : o.length = 32) : (wtA sp n cap o c).size = 34 := by simp [wtA, wtC_len h]
theorem wtC_one (sp : Option Addr) (n cap : Nat) (o : List Int) (c : Int) : ∀ v ∈ wtC sp n cap o c, v.oneCell' = true := by
  intro v hv
  rcases List.mem_cons.1 hv with rfl | hv
  · rfl
  rcases List.mem_append.1 hv with hv | hv
  · exact by8_one _ v hv
  · simp at hv; subst hv; rfl
theorem wtA_one (sp : Option Addr) (n cap : Nat) (o : List Int) (c : Int) : (wtA sp n cap o c).all (·.oneCell') = true := all_oneCell_toArray (wtC_one sp n cap o c)
theorem size44 : (Try.prog.info? 44).map (·.size) = some 34 := by kernel_rfl
theorem s44 {sp : Option Addr} {n cap : Nat} {o : List Int} {c : Int} (h : o.length = 32) : (Try.prog.info? 44).map (·.size) = some (wtA sp n cap o c).size := by rw [wtA_size h]; exact size44
theorem built44 (sp : Option Addr) (n cap : Nat) (c : Int) (X : List Int) (hX : X.length = 32) : Try.prog.built 44 [(0, .slice sp n cap), (1, .agg (h8 X)), (2, .int .u64 c)] = some (wtA sp n cap X c) :=
  list32 (P := fun X => Try.prog.built 44 [(0, .slice sp n cap), (1, .agg (h8 X)), (2, .int .u64 c)] = some (wtA sp n cap X c)) (fun x0 x1 x2 x3 x4 x5 x6 x7 x8 x9 x10 x11 x12 x13 x14 x15 x16 x17 x18 x19 x20 x21 x22 x23 x24 x25 x26 x27 x28 x29 x30 x31 => by kernel_rfl) X hX
theorem built44z : Try.prog.built 44 [] = some (wtA none 0 0 Z32 0) := by kernel_rfl
theorem Arr.wt {w : World} {g ty : Nat} {sp : Option Addr} {n cap : Nat} {o : List Int} {c : Int} (h : Arr w g ty (wtA sp n cap o c)) : w.rangeAt g 0 (wtC sp n cap o c) := fun j v hv => by
  rw [Nat.zero_add, h.cell]; simpa [wtA] using hv
theorem wt_c0 {w : World} {g a : Nat} {sp : Option Addr} {n cap : Nat} {o : List Int} {c : Int} (h : w.rangeAt g a (wtC sp n cap o c)) : w.cell? ⟨g, a, none⟩ = some (.slice sp n cap) := by simpa using h 0 _ rfl
theorem wt_o {w : World} {g a : Nat} {sp : Option Addr} {n cap : Nat} {o : List Int} {c : Int} (h : w.rangeAt g a (wtC sp n cap o c)) : w.rangeAt g (a + 1) (by8 o) := fun j v hv => by
  have hj := (List.getElem?_eq_some_iff.1 hv).1
  rw [Nat.add_assoc, Nat.add_comm 1 j]
  exact h (j + 1) v (by simp only [wtC, List.getElem?_cons_succ]; rw [List.getElem?_append_left hj]; exact hv)
theorem wt_c {w : World} {g a : Nat} {sp : Option Addr} {n cap : Nat} {o : List Int} {c : Int} (h : w.rangeAt g a (wtC sp n cap o c)) (ho : o.length = 32) : w.cell? ⟨g, a + 33, none⟩ = some (.int .u64 c) :=
  h 33 _ (by simp only [wtC, List.getElem?_cons_succ]; rw [List.getElem?_append_right (by rw [by8_len, ho]; omega), by8_len, ho]; rfl)
theorem ld44 {ops : Array Oper} {rest : List Oper} {q : Oper} {a : Act} {w : World} {Q : Exit → Act → World → Prop} (hgd : q.guard = none) (x : Operand) (ho : q.op = .load 44 x)
    (b off : Nat) (hx : a.eval x = .pointer (some ⟨b, off, none⟩)) (sp : Option Addr) (n cap : Nat) (o : List Int) (c : Int) (he : o.length = 32) (hc : w.rangeAt b off (wtC sp n cap o c))
    (h : wpList Try.prog ops Q rest (a.put q.dst (.agg (wtA sp n cap o c))) w) : wpList Try.prog ops Q (q :: rest) a w :=
  wpList_load_mid hgd 44 x ho b off hx (wtC sp n cap o c) _ hc Try.underlying44 rfl (by rw [wtC_len he]; exact size44) h
theorem y44 {ops : Array Oper} {S : World → Prop} {op : Oper} {a : Act} (hw : Region.wanted op (yielded ops a.tmps) = true) (x : Operand) (ho : op.op = .load 44 x)
    (b off : Nat) (hx : a.eval x = .pointer (some ⟨b, off, none⟩)) (sp : Option Addr) (n cap : Nat) (o : List Int) (c : Int) (he : o.length = 32) (hS : ∀ w, S w → w.rangeAt b off (wtC sp n cap o c)) : YieldsIf Try.prog ops S op (.agg (wtA sp n cap o c)) a :=
  yieldsIf_load_mid hw 44 x ho b off hx (wtC sp n cap o c) _ hS Try.underlying44 rfl (by rw [wtC_len he]; exact size44)
theorem st44n {ops : Array Oper} {rest : List Oper} {q : Oper} {a : Act} {Q : Exit → Act → World → Prop} (hgd : q.guard = none) (x y : Operand) (ho : q.op = .store 44 x y) (W : World) (g : Nat) (hgW : W.heap.size = g) {z : Array Value} (hz : z.size = 34)
    (sp : Option Addr) (n cap : Nat) (o : List Int) (c : Int) (hx : a.eval x = .pointer (some ⟨g, 0, none⟩)) (hy : a.eval y = .agg (wtA sp n cap o c)) (he : o.length = 32)
    (h : wpList Try.prog ops Q rest (a.put q.dst undef) (W.alloc (.cells (wtA sp n cap o c) 44))) : wpList Try.prog ops Q (q :: rest) a (W.alloc (.cells z 44)) := by
  subst hgW
  exact wpList_store_new W z 44 hgd 44 x y ho (wtA sp n cap o c) hx hy (s44 he) (by rw [hz, wtA_size he]) (wtA_one _ _ _ _ _) h
theorem st44 {ops : Array Oper} {rest : List Oper} {q : Oper} {a : Act} {w : World} {Q : Exit → Act → World → Prop} (hgd : q.guard = none) (x y : Operand) (ho : q.op = .store 44 x y)
    (g : Nat) (sp : Option Addr) (n cap : Nat) (o : List Int) (c : Int) {z : Array Value} (hz : z.size = 34) (hx : a.eval x = .pointer (some ⟨g, 0, none⟩)) (hy : a.eval y = .agg (wtA sp n cap o c)) (he : o.length = 32) (hg : Arr w g 44 z)
    (h : wpList Try.prog ops Q rest (a.put q.dst undef) (w.setRow g (wtA sp n cap o c))) : wpList Try.prog ops Q (q :: rest) a w :=
  wpList_store_arr hgd 44 x y ho g (wtA sp n cap o c) hx hy 44 _ hg (s44 he) (by rw [hz, wtA_size he]) (wtA_one _ _ _ _ _) h
theorem res44 {f : Func} {w : World} {tmps : Array Value} {g t k : Nat} {sp : Option Addr} {n cap : Nat} {o : List Int} {c : Int} {v : Value} (hf : f.results = #[.cell t 44, .tmp k]) (hp : tmps.getD t undef = .pointer (some ⟨g, 0, none⟩)) (hk : tmps.getD k undef = v) (ho : o.length = 32) (hA : Arr w g 44 (wtA sp n cap o c)) :
    (results f tmps).run Try.prog w = .ok (.tuple #[.agg (wtA sp n cap o c), v]) w := by
  have hl := run_loadVar_mid (P := Try.prog) w g 0 44 (wtC sp n cap o c) _ hA.wt Try.underlying44 rfl (by rw [wtC_len ho]; exact size44)
  have hp' : tmps[t]?.getD undef = .pointer (some ⟨g, 0, none⟩) := by simpa using hp
  have hk' : tmps[k]?.getD undef = v := by simpa using hk
  simp [results, hf, hp', hk', asAddr, hl, wtA]
/-- What is told of a witness. -/
def WP (m : Nat) (path : List (List Int)) (o : List Int) (k code : Int) (w : World) (e : Ending) (w' : World) : Prop :=
  ∃ sp cap, e = .returned (.tuple #[.agg (wtA sp m cap o k), .int .i64 code]) ∧ HS w'.heap.size w' sp m cap path ∧ w'.ownsRow w.heap.size 24 32 (.slice sp m cap) m (flat32 path) ∧ Below w.heap.size w w'
theorem pf5 {i : Nat} (hi : i < 32) {ls : List (List Int)} (hl : ls.length ≤ 32) : pE 5 (i : Int) ls.length = 0 ∧ pF 5 (i : Int) ls = pf 5 ls i := by
  have e : pE 5 (i : Int) ls.length = 0 := by
    unfold pE
    rw [if_pos ⟨by omega, by omega, by show (i : Int) < (2 ^ 5 : Nat); omega⟩, if_pos (show ls.length ≤ 2 ^ Int.toNat 5 from hl)]
  refine ⟨e, ?_⟩
  unfold pF
  rw [if_pos e]; rfl
theorem proof5 (i : Nat) (hi : i < 32) (N : Nat) (sp : Option Addr) (n cap : Nat) (ls : List (List Int)) (w : World) (hS : HS N w sp n cap ls) (hn : n ≤ 32) :
    Calls Try.prog 77 #[.int .i64 5, .slice sp n cap, .int .i64 i] w fun e w' => ∃ s c, e = .returned (.tuple #[.slice s 5 c, .int .i64 0]) ∧ HS w'.heap.size w' s 5 c (pf 5 ls i) ∧ w'.ownsRow w.heap.size 24 32 (.slice s 5 c) 5 (flat32 (pf 5 ls i)) ∧ Below w.heap.size w w' := by
  have h := proof_any 5 i N sp n cap ls w hS
  have hp := pf5 hi (ls := ls) (by rw [← hS.len.out]; exact hn)
  unfold PPost at h
  rw [hp.1, hp.2, pf_len] at h
  exact h
theorem refProof5 (i : Nat) (hi : i < 32) (N : Nat) (sp : Option Addr) (n cap : Nat) (ls : List (List Int)) (w : World) (hS : HS N w sp n cap ls) (hn : n ≤ 32) :
    Calls Try.prog 54 #[.int .i64 5, .slice sp n cap, .int .i64 i] w fun e w' => ∃ s c, e = .returned (.tuple #[.slice s 5 c, .int .i64 0]) ∧ HS w'.heap.size w' s 5 c (pf 5 ls i) ∧ w'.ownsRow w.heap.size 24 32 (.slice s 5 c) 5 (flat32 (pf 5 ls i)) ∧ Below w.heap.size w w' := by
  have h := refProof_any 5 i N sp n cap ls w hS
  have hp := pf5 hi (ls := ls) (by rw [← hS.len.out]; exact hn)
  unfold PPost at h
  rw [hp.1, hp.2, pf_len] at h
  exact h
theorem leaves_ls (N : Nat) (sp : Option Addr) (n cap : Nat) (es : List En) (ls : List (List Int)) (w : World) (hS : ES N w sp n cap es) (hl : Hid (es.map En.sm = ls)) (hn : n ≤ 32) :
    Calls Try.prog 72 #[.slice sp n cap] w (LPost n ls w) := by
  have h := leaves_any N sp n cap es w hS hn
  rw [hl.out] at h
  exact h
theorem ES.s32' {N : Nat} {w : World} {sp : Option Addr} {n cap : Nat} {es : List En} {ls : List (List Int)} (h : ES N w sp n cap es) (hl : Hid (es.map En.sm = ls)) : ∀ x ∈ ls, x.length = 32 := by
  intro x hx
  rw [← hl.out] at hx
  obtain ⟨e, he, rfl⟩ := List.mem_map.1 hx
  exact (h.ok e he).s32
theorem hs_row {N : Nat} {w : World} {sp : Option Addr} {n cap g : Nat} {ls : List (List Int)} (h : HS N w sp n cap ls) (D : Array Value) (hne : ∀ b off, sp = some ⟨b, off, none⟩ → b ≠ g) : HS N (w.setRow g D) sp n cap ls :=
  ⟨h.len, h.nil, h.le, h.big, h.small, fun h0 => let ⟨b, off, e, hbN, hB⟩ := h.at0 h0; ⟨b, off, e, hbN, fun i X hX j v hv => (World.cell?_of_block (w := w) (a := ⟨b, off + i * 32 + j, none⟩) (setRow_other w g b D (hne b off e))).trans (hB i X hX j v hv)⟩, h.l32⟩
set_option maxHeartbeats 2000000 in
theorem witness_ok (ps : List Ac) (sp : Option Addr) (n cap : Nat) (s1 s2 : Option Addr) (m1 c1 m2 c2 : Nat) (es1 es2 : List En) (ls1 ls2 : List (List Int)) (i : Nat) (N : Nat) (w : World) (h1 : ps.length = 32) (h2 : ∀ a ∈ ps, a.lk.length = 32) (hn : n ≤ 140737488355328)
    (hE1 : ES N w s1 m1 c1 es1) (hl1 : Hid (es1.map En.sm = ls1)) (hm1 : m1 ≤ 32) (hE2 : ES N w s2 m2 c2 es2) (hl2 : Hid (es2.map En.sm = ls2)) (hm2 : m2 ≤ 32) (hi : i < 32) :
    Calls Try.prog 53 #[.agg (stA ps sp n cap), .slice s1 m1 c1, .int .i64 i, .slice s2 m2 c2] w (WP 5 (pf 5 ls1 i) (tr 5 ls2) n 0 w) := by
  have hE1 := hE1.here
  have hE2 := hE2.here
  have hT32 := tr5_len (hE2.s32' hl2)
  have A0 := (Arr.new w 30 (stA ps sp n cap)).alloc (.cells (wtA none 0 0 Z32 0) 44)
  have Z0 := Arr.new (w.alloc (.cells (stA ps sp n cap) 30)) 44 (wtA none 0 0 Z32 0)
  rw [World.size_alloc] at Z0
  have hzs : (wtA none 0 0 Z32 0).size = 34 := wtA_size Z32_len
  have B0 := (alloc_bel' w (.cells (stA ps sp n cap) 30)).alloc (by simp) (.cells (wtA none 0 0 Z32 0) 44)
  go_enter Try.func53, Try.ntmps53
  go_upto_region 2 with (first
    | (go_at_call 72; go_must (refine (leaves_ls _ s1 m1 c1 es1 ls1 _ (hE1.below B0) hl1 hm1).mono ?_; rintro e w1 ⟨s0, c0, rfl, hH, -, hbL⟩))
    | (go_at_call 77; go_must (refine (proof5 i hi _ s0 m1 c0 ls1 _ hH hm1).mono ?_; rintro e w2 ⟨s3, c3, rfl, hHp, hOp, hbP⟩)))
  have hbLP := hbL.trans (hbP.mono hbL.size)
  replace B0 := (B0.trans (hbLP.mono B0.size)).drew
  replace A0 := (A0.below hbLP A0.lt).drew
  replace Z0 := (Z0.below hbLP Z0.lt).drew
  have hH0 := hHp.below (Below.refl w2.heap.size w2).drew
  have hH0s : w2.heap.size ≤ w2.drew.heap.size := (Below.refl w2.heap.size w2).drew.size
  have hbd : Below w2.heap.size w2 w2.drew := (Below.refl w2.heap.size w2).drew
  have hOb : w.heap.size + 2 ≤ w1.heap.size := by have := hbL.size; simpa using this
  clear hH hE1 hbLP
  go_upto_region 4 with fail
  refine wp_region_held_drew (S := fun u => Below w.heap.size w u ∧ Arr u w.heap.size 30 (stA ps sp n cap)) (by kernel_rfl) (⟨B0, A0⟩) (fun hHeld => ?_)
  refine wpAnyH_take (i := 0) (oi := ⟨_, _, _, _, _, _⟩) (v := ?_) rfl (by kernel_rfl) (by kernel_rfl) (by kernel_rfl) (fun _ _ _ h => h) (Or.inl ⟨by rfl, ?_⟩) (by assumption) ?_
  rotate_left
  · intro u hSw
    go_simp
    try (with_reducible rfl)
  try simp only [Act.put, List.setIfInBounds_toArray, List.set_cons_zero, List.set_cons_succ]
  refine wpAnyH_take (i := 1) (oi := ⟨_, _, _, _, _, _⟩) (v := ?_) rfl (by kernel_rfl) (by kernel_rfl) (by kernel_rfl) (fun _ _ _ h => h) (Or.inl ⟨by rfl, ?_⟩) (by assumption) ?_
  rotate_left
  · intro u hSw
    go_simp
    try (with_reducible rfl)
  try simp only [Act.put, List.setIfInBounds_toArray, List.set_cons_zero, List.set_cons_succ]
  refine wpAnyH_take (i := 3) (oi := ⟨_, _, _, _, _, _⟩) rfl (by kernel_rfl) (by kernel_rfl) (by kernel_rfl) (fun _ _ _ h => h) (y30 (by rfl) (.tmp 4) rfl w.heap.size 30 rfl ps sp n cap h1 h2 (fun u hu => hu.2)) (by assumption) ?_
  try simp only [Act.put, List.setIfInBounds_toArray, List.set_cons_zero, List.set_cons_succ]
  refine wpAnyH_ready (rs := [2]) (by kernel_rfl) (by simp) ?_
  refine AllReadyH.cons (o := ⟨_, _, _, _, _, _⟩) rfl (fun K hK => ?_) AllReadyH.nil
  go_simp
  refine (troot_ls _ s2 m2 c2 es2 _ _ (hE2.below B0) hl2 hm2).mono ?_; rintro e u1 ⟨rfl, hb1⟩; have B1 := B0.trans (hb1.mono B0.size); have A1 := A0.below hb1 A0.lt; have Z1 := Z0.below hb1 Z0.lt; have hH1 := hH0.below (hb1.mono hH0s)
  go_wp2_with fail
  refine hK.out _ _ ⟨B1, A1⟩ (fun hHeld => ?_)
  clear hK K
  try simp only [Act.put, List.setIfInBounds_toArray, List.set_cons_zero, List.set_cons_succ]
  refine wpAnyH_ready (rs := [4]) (by kernel_rfl) (by simp) ?_
  refine AllReadyH.cons (o := ⟨_, _, _, _, _, _⟩) rfl (fun K hK => ?_) AllReadyH.nil
  go_simp
  refine (count_any ps sp n cap _ h1 h2 hn).mono ?_; rintro e u2 ⟨rfl, hb2⟩; have B2 := B1.trans (hb2.mono B1.size); have A2 := A1.below hb2 A1.lt; have Z2 := Z1.below hb2 Z1.lt; have hH2 := hH1.below (hb2.mono (Nat.le_trans hH0s hb1.size))
  go_wp2_with fail
  refine hK.out _ _ ⟨B2, A2⟩ (fun hHeld => ?_)
  clear hK K
  try simp only [Act.put, List.setIfInBounds_toArray, List.set_cons_zero, List.set_cons_succ]
  refine wpAnyH_ready (rs := [5]) (by kernel_rfl) (by simp) ?_
  refine AllReadyH.cons (o := ⟨_, _, _, _, _, _⟩) rfl (fun K hK => ?_) AllReadyH.nil
  refine step_want rfl (wp_bdT 44 _ rfl rfl (built44 s3 5 c3 n (tr 5 ls2) hT32) ?_)
  refine hK.out _ _ ⟨B2, A2⟩ (fun hHeld => ?_)
  clear hK K
  try simp only [Act.put, List.setIfInBounds_toArray, List.set_cons_zero, List.set_cons_succ]
  refine wpAnyH_ready (rs := [6]) (by kernel_rfl) (by simp) ?_
  refine AllReadyH.cons (o := ⟨_, _, _, _, _, _⟩) rfl (fun K hK => ?_) AllReadyH.nil
  refine step_want rfl (wp_store_row 44 (.tmp 8) (.tmp 28) rfl (w.heap.size + 1) (wtA s3 5 c3 (tr 5 ls2) n) rfl rfl 44 _ Z2 (s44 hT32) (by rw [wtA_size hT32]; exact hzs) (wtA_one _ _ _ _ _) ?_)
  refine hK.out _ _ ⟨below_setRow B2 (by omega) _, A2.setRowOther (k := w.heap.size + 1) _ (by omega)⟩ (fun hHeld => ?_)
  clear hK K
  try simp only [Act.put, List.setIfInBounds_toArray, List.set_cons_zero, List.set_cons_succ]
  refine wpAnyH_take (i := 7) (oi := ⟨_, _, _, _, _, _⟩) (v := ?_) rfl (by kernel_rfl) (by kernel_rfl) (by kernel_rfl) (fun _ _ _ h => h) (Or.inl ⟨by rfl, ?_⟩) (by assumption) ?_
  rotate_left
  · intro u hSw
    go_simp
    try (with_reducible rfl)
  try simp only [Act.put, List.setIfInBounds_toArray, List.set_cons_zero, List.set_cons_succ]
  refine wpAnyH_done (by kernel_rfl) ?_ _

  go_wp2_with fail
  have hbf : Below w2.heap.size w2 u2 := (hbd.trans (hb1.mono hbd.size)).trans (hb2.mono (Nat.le_trans hbd.size hb1.size))
  have hs2 := hbf.size
  refine bodyPost_ret (v := .tuple #[.agg (wtA s3 5 c3 (tr 5 ls2) n), .int .i64 0]) (res44 Try.results53 rfl rfl hT32 (Z2.setRow _)) rfl ⟨s3, c3, rfl, ?_, ?_, below_setRow B2 (by omega) _⟩
  · have hne : ∀ b off, s3 = some ⟨b, off, none⟩ → w1.heap.size ≤ b := fun b off e => own_ge hOp b (by rw [e]; rfl)
    have := hs_row hH2 (wtA s3 5 c3 (tr 5 ls2) n) (g := w.heap.size + 1) (fun b off e => by have := hne b off e; omega)
    exact this.mono (by simpa using hs2)
  · refine own_mono (own_same hOp (fun k hk => ?_)) (by omega)
    have hk1 := own_lt hOp hk
    have hk2 := own_ge hOp k hk
    exact (setRow_other u2 (w.heap.size + 1) k _ (by omega)).trans (hbf.block k hk1)
end Go.Proofs.Ytlebojbfcolkhaa
