/- NkA, NmA. -/
import Derived.Test.YtbhhbkoikocjgaaX32
import Derived.Test.YtbhhbkoikocjgaaX24
import Derived.Test.YtbhhbkoikocjgaaX34
/- Layer spec: After. -/
namespace Go.Proofs.Ytbhhbkoikocjgaa
set_option linter.unusedSectionVars false
set_option maxHeartbeats 1000000
open Go.RowKit Go.Shelf
set_option maxRecDepth 100000
set_option linter.unusedVariables false
set_option linter.unusedSimpArgs false


variable [DecidableEq Ac] [DecidableEq Ou] [DecidableEq Mg]
theorem resE {f : Func} {w : World} {tmps : Array Value} {g t k : Nat} {ps : List Ac} {sp : Option Addr} {n cap : Nat} {v : Value} (hf : f.results = #[.cell t 30, .tmp k]) (hp : tmps.getD t undef = .pointer (some ⟨g, 0, none⟩)) (hk : tmps.getD k undef = v) (h1 : ps.length = 32) (h2 : ∀ a ∈ ps, a.lk.length = 32) (hA : Arr w g 30 (stA ps sp n cap)) :
    (results f tmps).run Try.prog w = .ok (.tuple #[.agg (stA ps sp n cap), v]) w := by
  have hl' := run_loadVar_mid (P := Try.prog) w g 0 30 (stC ps sp n cap) _ hA.st Try.underlying30 rfl (by rw [stC_len h1 h2]; exact size30)
  have hp' : tmps[t]?.getD undef = .pointer (some ⟨g, 0, none⟩) := by simpa using hp
  have hk' : tmps[k]?.getD undef = v := by simpa using hk
  simp [results, hf, hp', hk', asAddr, hl', stA]
/-- Which n there are. -/
def okN (ps : List Ac) (os : List Ou) (nl : Nat) (m : Int) : Bool := may ps os.length && (decide (0 ≤ m) && decide (m ≤ nl))
def aR (ps : List Ac) (os : List Ou) (Ls : List (List Int)) (nl : Nat) (m : Int) : Rn := if okN ps os nl m = true then rnA ps os Ls m.toNat else ⟨zs, [], [], 0, 0⟩
def aE (ps : List Ac) (os : List Ou) (nl : Nat) (m : Int) : Int := if okN ps os nl m = true then 0 else 2
def AfterPost (R : Rn) (e : Int) (w : World) (r : Ending) (w' : World) : Prop :=
  ∃ s n c, r = .returned (.tuple #[.agg (stA R.P s n c), .int .i64 e]) ∧ NwS w w' R.P R.O s n c ∧ Below w.heap.size w w'
theorem AfterPost.no {ps : List Ac} {os : List Ou} {Ls : List (List Int)} {nl : Nat} {m : Int} {w w' : World} (h : okN ps os nl m = false) (hb : Below w.heap.size w w') : AfterPost (aR ps os Ls nl m) (aE ps os nl m) w (.returned (.tuple #[.agg (stA zs none 0 0), .int .i64 2])) w' := by
  have e1 : aR ps os Ls nl m = ⟨zs, [], [], 0, 0⟩ := by unfold aR; rw [h]; rfl
  have e2 : aE ps os nl m = 2 := by unfold aE; rw [h]; rfl
  rw [e1, e2]
  exact ⟨none, 0, 0, rfl, NwS.zero _ _, hb⟩
theorem aR_yes {ps : List Ac} {os : List Ou} {Ls : List (List Int)} {nl k : Nat} (h : may ps os.length = true) (hk : k ≤ nl) : okN ps os nl (k : Int) = true ∧ aR ps os Ls nl (k : Int) = rnA ps os Ls k ∧ aE ps os nl (k : Int) = 0 := by
  have h0 : okN ps os nl (k : Int) = true := by simp [okN, h]; exact hk
  refine ⟨h0, ?_, ?_⟩
  · unfold aR; rw [if_pos h0]; simp
  · unfold aE; rw [if_pos h0]

set_option maxHeartbeats 2000000 in
theorem after_any (ps : List Ac) (N : Nat) (sp : Option Addr) (n cap : Nat) (os : List Ou) (sl : Option Addr) (nl cl Nl : Nat) (es : List Bz) (m : Int) (w : World) (hS : SS N w ps sp n cap os) (hL : BL Nl w sl nl cl es) (hNl : Nl ≤ w.heap.size) :
    Calls Try.prog 11 #[.agg (stA ps sp n cap), .int .i64 m, .slice sl nl cl] w (AfterPost (aR ps os (bzs es) nl m) (aE ps os nl m) w) := by
  have hL := hL.mono hNl
  have hS := hS.here
  have h1 := hS.a32.out
  have h2 := hS.l32
  have hok := hS.ok
  have hnn := hS.outs.len
  have hns := hS.outs.small
  have A0 := (Arr.new w 30 (stA ps sp n cap)).alloc (.cells (stA zs none 0 0) 30)
  have R0 : Arr ((w.alloc (.cells (stA ps sp n cap) 30)).alloc (.cells (stA zs none 0 0) 30)) (w.heap.size + 1) 30 (stA zs none 0 0) := by simpa using Arr.new (w.alloc (.cells (stA ps sp n cap) 30)) 30 (stA zs none 0 0)
  have B0 := (alloc_bel' w (.cells (stA ps sp n cap) 30)).alloc (by simp) (.cells (stA zs none 0 0) 30)
  have hz30 := zeroValue30
  have hzsz : (stA zs none 0 0).size = 1089 := stA_size zs_len zs_l32
  have hbz := built30z
  have hsz0 : (Try.prog.info? 30).map (·.size) = some (stA zs none 0 0).size := by rw [hzsz]; exact size30
  have hone := stA_one zs none 0 0
  have hmay := fun u => may_any ps sp n cap u h1 hok.out hns
  by_cases hcase : may ps n = false ∨ m < 0 ∨ (nl : Int) < m
  · have hno : okN ps os nl m = false := by
      unfold okN
      rw [← hnn.out]
      rcases hcase with h | h | h
      · rw [h]; rfl
      · simp; intro _ h0; omega
      · simp; intro _ h0; omega
    replace hno := Hid.mk' hno
    generalize hZe : stA zs none 0 0 = Z at A0 R0 B0 hz30 hzsz hbz hsz0 hone
    replace hZe := Hid.mk' hZe
    go_enter Try.func11, Try.ntmps11
    go_upto_region 1 with fail
    generalize (w.alloc (.cells (stA ps sp n cap) 30)).alloc (.cells Z 30) = V at A0 R0 B0 ⊢
    have fin : ∀ u, Below w.heap.size w u → Arr u (w.heap.size + 1) 30 Z → AfterPost (aR ps os (bzs es) nl m) (aE ps os nl m) w (.returned (.tuple #[.agg (stA zs none 0 0), .int .i64 2])) (u.setRow (w.heap.size + 1) Z) := fun u hb _ => AfterPost.no hno.out (below_setRow hb (by omega) _)
    cases hm : may ps n with
    | false =>
      rw [hm] at hmay
      clear hcase
      go_wp2_with (first
        | (refine atL 30 (.tmp 3) ?_; refine ld30 (by rfl) _ (by rfl) w.heap.size 30 (by rfl) ps sp n cap h1 h2 A0 ?_)
        | (go_at_call 24; go_must (refine (hmay _).mono ?_; rintro r w1 ⟨rfl, hb1⟩; have R1 := R0.below hb1 R0.lt; have B1 := B0.trans (hb1.mono B0.size)))
        | (refine atB 30 ?_; refine bdT (by rfl) 30 #[] (by rfl) (by rfl) hbz ?_)
        | (refine atS 30 (.tmp 6) (.tmp 21) ?_; refine wpList_store_arr (by rfl) 30 (.tmp 6) (.tmp 21) (by rfl) (w.heap.size + 1) Z (by rfl) (by rfl) 30 _ R1 hsz0 rfl hone ?_))
      have hZ0 := hZe.out
      have hf := fin w1 B1 R1
      subst hZ0
      exact bodyPost_ret (resE Try.results11 rfl rfl zs_len zs_l32 (R1.setRow _)) rfl hf
    | true =>
      rw [hm] at hmay
      by_cases hlt : m < 0
      · clear hcase
        go_wp2_with (first
          | (refine atL 30 (.tmp 3) ?_; refine ld30 (by rfl) _ (by rfl) w.heap.size 30 (by rfl) ps sp n cap h1 h2 A0 ?_)
          | (go_at_call 24; go_must (refine (hmay _).mono ?_; rintro r w1 ⟨rfl, hb1⟩; have R1 := R0.below hb1 R0.lt; have B1 := B0.trans (hb1.mono B0.size)))
          | (refine atB 30 ?_; refine bdT (by rfl) 30 #[] (by rfl) (by rfl) hbz ?_)
          | (refine atS 30 (.tmp 6) (.tmp 21) ?_; refine wpList_store_arr (by rfl) 30 (.tmp 6) (.tmp 21) (by rfl) (w.heap.size + 1) Z (by rfl) (by rfl) 30 _ R1 hsz0 rfl hone ?_))
        have hZ0 := hZe.out
        have hf := fin w1 B1 R1
        subst hZ0
        exact bodyPost_ret (resE Try.results11 rfl rfl zs_len zs_l32 (R1.setRow _)) rfl hf
      · have hgt : (nl : Int) < m := by
          rcases hcase with h | h | h
          · rw [hm] at h; cases h
          · exact absurd h hlt
          · exact h
        clear hcase
        go_wp2_with (first
          | (refine atL 30 (.tmp 3) ?_; refine ld30 (by rfl) _ (by rfl) w.heap.size 30 (by rfl) ps sp n cap h1 h2 A0 ?_)
          | (go_at_call 24; go_must (refine (hmay _).mono ?_; rintro r w1 ⟨rfl, hb1⟩; have R1 := R0.below hb1 R0.lt; have B1 := B0.trans (hb1.mono B0.size)))
          | (refine atB 30 ?_; refine bdT (by rfl) 30 #[] (by rfl) (by rfl) hbz ?_)
          | (refine atS 30 (.tmp 6) (.tmp 21) ?_; refine wpList_store_arr (by rfl) 30 (.tmp 6) (.tmp 21) (by rfl) (w.heap.size + 1) Z (by rfl) (by rfl) 30 _ R1 hsz0 rfl hone ?_))
        have hZ0 := hZe.out
        have hf := fin w1 B1 R1
        subst hZ0
        exact bodyPost_ret (resE Try.results11 rfl rfl zs_len zs_l32 (R1.setRow _)) rfl hf
  · obtain ⟨hm, hge, hle⟩ : may ps n = true ∧ 0 ≤ m ∧ m ≤ nl := ⟨by cases h : may ps n <;> simp_all, by omega, by omega⟩
    clear hcase
    obtain ⟨k, rfl⟩ : ∃ k : Nat, m = (k : Int) := ⟨m.toNat, by omega⟩
    have hkn : k ≤ nl := by omega
    rw [hm] at hmay
    have hm' : may ps os.length = true := by rw [← hnn.out]; exact hm
    have hn32 : n ≤ 32 := (may_sum hok.out).1 hm |>.2
    obtain ⟨-, ea, ee⟩ := aR_yes (Ls := bzs es) hm' hkn
    rw [ea, ee]
    have hrok := rnA_ok (Ls := bzs es) h1 hok.out hS.outs.ok hL.bts
    have hnl0 : ¬ (k : Int) < 0 := by omega
    have hnl1 : ¬ (nl : Int) < k := by omega
    have hLk := hL.take hkn (Nat.le_trans hkn hL.le) (Nat.le_refl _) (fun e => (hL.nil e).2)
    have hcut := Hid.mk' (fun u => run_cut sl nl cl k u hkn hL.le)
    clear hbz hsz0 hone hle hge
    generalize stA zs none 0 0 = Z at A0 R0 B0 hz30 hzsz
    go_enter Try.func11, Try.ntmps11
    go_upto_region 1 with fail
    generalize (w.alloc (.cells (stA ps sp n cap) 30)).alloc (.cells Z 30) = V at A0 R0 B0 ⊢
    go_upto_region 3 with (first
      | (refine atL 30 (.tmp 3) ?_; refine ld30 (by rfl) _ (by rfl) w.heap.size 30 (by rfl) ps sp n cap h1 h2 A0 ?_)
      | (go_at_call 24; go_must (refine (hmay _).mono ?_; rintro r w1 ⟨rfl, hb1⟩)))
    have A1 := (A0.below hb1 A0.lt).drew
    have R1 := (R0.below hb1 R0.lt).drew
    have B1 := (B0.trans (hb1.mono B0.size)).drew
    have hV := B0.size
    have hz1 : V.heap.size ≤ w1.drew.heap.size := hb1.size
    clear A0 R0 B0 hb1
    refine wp_region_held_drew (S := fun u => Arr u w.heap.size 30 (stA ps sp n cap)) (by kernel_rfl) A1 (fun hHeld => ?_)
    generalize w1.drew = W1 at *
    have hown := own_any ps w.heap.size sp n cap os W1 (hS.below B1) (by omega)
    refine wpAnyH_take (i := 0) (oi := ⟨_, _, _, _, _, _⟩) (v := ?_) rfl (by kernel_rfl) (by kernel_rfl) (by kernel_rfl) (fun _ _ _ h => h) (Or.inl ⟨by rfl, ?_⟩) (by assumption) ?_
    rotate_left
    · intro u hSw
      go_simp
      try (with_reducible rfl)
    try simp only [Act.put, List.setIfInBounds_toArray, List.set_cons_zero, List.set_cons_succ]
    refine wpAnyH_take (i := 1) (oi := ⟨_, _, _, _, _, _⟩) (v := ?_) rfl (by kernel_rfl) (by kernel_rfl) (by kernel_rfl) (fun _ _ _ h => h) (Or.inl ⟨by rfl, ?_⟩) (by assumption) ?_
    rotate_left
    · intro u hSw
      go_simp
      try (with_reducible rfl)
    try simp only [Act.put, List.setIfInBounds_toArray, List.set_cons_zero, List.set_cons_succ]
    refine wpAnyH_take (i := 2) (oi := ⟨_, _, _, _, _, _⟩) (v := .slice sl k cl) rfl (by kernel_rfl) (by kernel_rfl) (by kernel_rfl) (fun _ _ _ h => h) (Or.inl ⟨by rfl, fun u hSw => by simp [execOp, Act.eval, hcut.out]⟩) (by assumption) ?_
    try simp only [Act.put, List.setIfInBounds_toArray, List.set_cons_zero, List.set_cons_succ]
    refine wpAnyH_take (i := 3) (oi := ⟨_, _, _, _, _, _⟩) rfl (by kernel_rfl) (by kernel_rfl) (by kernel_rfl) (fun _ _ _ h => h) (y30 (by rfl) (.tmp 3) rfl w.heap.size 30 rfl ps sp n cap h1 h2 (fun u hu => hu)) (by assumption) ?_
    try simp only [Act.put, List.setIfInBounds_toArray, List.set_cons_zero, List.set_cons_succ]
    refine wpAnyH_ready (rs := [4]) (by kernel_rfl) (by simp) ?_
    refine AllReadyH.cons (o := ⟨_, _, _, _, _, _⟩) rfl (fun K hK => ?_) AllReadyH.nil
    go_simp
    refine hown.mono ?_
    rintro r w2 ⟨s2, c2, rfl, own2, hb2⟩
    have S2 : SS w2.heap.size w2 ps s2 n c2 os := ⟨hS.a32, hS.ok, os_own own2 hnn.out hns hS.outs.ok⟩
    have B2 := B1.trans (hb2.mono B1.size)
    have hfin := finS ps s2 n c2 os sl k cl (es.take k) w2 S2 ((hLk.below B2).mono B2.size)
    have A2 := A1.below hb2 A1.lt
    have R2 := R1.below hb2 R1.lt
    have hz2 := hb2.size
    have hR1lt := R1.lt
    go_wp2_with fail
    refine hK.out _ _ A2 (fun hHeld => ?_)
    clear hK K
    try simp only [Act.put, List.setIfInBounds_toArray, List.set_cons_zero, List.set_cons_succ]
    refine wpAnyH_ready (rs := [5]) (by kernel_rfl) (by simp) ?_
    refine AllReadyH.cons (o := ⟨_, _, _, _, _, _⟩) rfl (fun K hK => ?_) AllReadyH.nil
    go_simp
    refine (fold31_any sl k cl (stA ps s2 n c2) w2).mono ?_
    rintro r w3 ⟨rfl, he3⟩
    have hb3 : Below w2.heap.size w2 w3 := by rw [he3]; exact ((alloc_bel' w2 _).alloc (by simp) _).alloc (by simp; omega) _
    rw [← he3] at hfin
    have A3 := A2.below hb3 A2.lt
    have R3 := R2.below hb3 R2.lt
    clear he3
    go_wp2_with fail
    refine hK.out _ _ A3 (fun hHeld => ?_)
    clear hK K
    try simp only [Act.put, List.setIfInBounds_toArray, List.set_cons_zero, List.set_cons_succ]
    refine wpAnyH_ready (rs := [6]) (by kernel_rfl) (by simp) ?_
    refine AllReadyH.cons (o := ⟨_, _, _, _, _, _⟩) rfl (fun K hK => ?_) AllReadyH.nil
    go_simp
    refine hfin.mono ?_
    rintro r w4 ⟨C4, rfl, hT4, hb4⟩
    obtain ⟨s4, n4, c4, rfl, hR4⟩ := hT4
    have A4 := A2.below hb4 A2.lt
    have R4 := R2.below hb4 R2.lt
    have B4 := B2.trans (hb4.mono B2.size)
    have own4 := own_same own2 (fun b hb => hb4.block b (own_lt own2 hb))
    have hz4 := hb4.size
    rw [bzs_take, rnA_take ps os (bzs es) (Nat.le_refl k)] at hR4 ⊢
    go_wp2_with fail
    refine hK.out _ _ A4 (fun hHeld => ?_)
    clear hK K
    try simp only [Act.put, List.setIfInBounds_toArray, List.set_cons_zero, List.set_cons_succ]
    have hrn := hrok k
    have hq1 := (hrok k).a32
    have hq2 : ∀ a ∈ (rnA ps os (bzs es) k).P, a.lk.length = 32 := fun a ha => ((hrok k).ok a ha).l32
    refine wpAnyH_ready (rs := [7]) (by kernel_rfl) (by simp) ?_
    refine AllReadyH.cons (o := ⟨_, _, _, _, _, _⟩) rfl (fun K hK => ?_) AllReadyH.nil
    refine step_want rfl (wp_store_row 30 (.tmp 6) (.tmp 28) rfl (w.heap.size + 1) (stA (rnA ps os (bzs es) k).P s4 n4 c4) rfl rfl 30 _ R4 (by rw [stA_size hq1 hq2]; exact size30) (by rw [hzsz, stA_size hq1 hq2]) (stA_one _ _ _ _) ?_)
    refine hK.out _ _ (A4.setRowOther _ (by omega)) (fun hHeld => ?_)
    clear hK K
    try simp only [Act.put, List.setIfInBounds_toArray, List.set_cons_zero, List.set_cons_succ]
    refine wpAnyH_take (i := 8) (oi := ⟨_, _, _, _, _, _⟩) (v := ?_) rfl (by kernel_rfl) (by kernel_rfl) (by kernel_rfl) (fun _ _ _ h => h) (Or.inl ⟨by rfl, ?_⟩) (by assumption) ?_
    rotate_left
    · intro u hSw
      go_simp
      try (with_reducible rfl)
    try simp only [Act.put, List.setIfInBounds_toArray, List.set_cons_zero, List.set_cons_succ]
    refine wpAnyH_done (by kernel_rfl) ?_ _
    go_wp2_with fail
    have R6 := R4.setRow (stA (rnA ps os (bzs es) k).P s4 n4 c4)
    have hR6 := hR4.same (W' := w4.setRow (w.heap.size + 1) (stA (rnA ps os (bzs es) k).P s4 n4 c4)) (fun b hb _ => setRow_other _ _ _ _ (by omega))
    have own6 := own_same own4 (w' := w4.setRow (w.heap.size + 1) (stA (rnA ps os (bzs es) k).P s4 n4 c4)) (fun b hb => setRow_other _ _ _ _ (by have := own_ge own4 b hb; omega))
    have hst := SR.st (w := w) hR6 (by omega) hnn.out (by omega) (own_mono own6 (by omega)) hrn
    exact bodyPost_ret (resE Try.results11 rfl rfl hq1 hq2 R6) rfl ⟨s4, n4, c4, rfl, hst, below_setRow B4 (by omega) _⟩
end Go.Proofs.Ytbhhbkoikocjgaa
/- Layer spec: the After of the document. -/
namespace Go.Proofs.Ytbhhbkoikocjgaa
set_option linter.unusedSectionVars false
set_option maxHeartbeats 1000000
open Go.RowKit Go.Shelf
set_option maxRecDepth 100000
set_option linter.unusedVariables false
set_option linter.unusedSimpArgs false


variable [DecidableEq Ac] [DecidableEq Ou] [DecidableEq Mg]
set_option maxHeartbeats 4000000 in
theorem refAfter_any (ps : List Ac) (N : Nat) (sp : Option Addr) (n cap : Nat) (os : List Ou) (sl : Option Addr) (nl cl Nl : Nat) (es : List Bz) (m : Int) (w : World) (hS : SS N w ps sp n cap os) (hL : BL Nl w sl nl cl es) (hNl : Nl ≤ w.heap.size) :
    Calls Try.prog 12 #[.agg (stA ps sp n cap), .int .i64 m, .slice sl nl cl] w (AfterPost (aR ps os (bzs es) nl m) (aE ps os nl m) w) := by
  have hL := hL.mono hNl
  have hS := hS.here
  have h1 := hS.a32.out
  have h2 := hS.l32
  have hok := hS.ok
  have hnn := hS.outs.len
  have hns := hS.outs.small
  have A0 := (Arr.new w 30 (stA ps sp n cap)).alloc (.cells (stA zs none 0 0) 30)
  have R0 : Arr ((w.alloc (.cells (stA ps sp n cap) 30)).alloc (.cells (stA zs none 0 0) 30)) (w.heap.size + 1) 30 (stA zs none 0 0) := by simpa using Arr.new (w.alloc (.cells (stA ps sp n cap) 30)) 30 (stA zs none 0 0)
  have B0 := (alloc_bel' w (.cells (stA ps sp n cap) 30)).alloc (by simp) (.cells (stA zs none 0 0) 30)
  have hz30 := zeroValue30
  have hzsz : (stA zs none 0 0).size = 1089 := stA_size zs_len zs_l32
  have hbz := built30z
  have hsz0 : (Try.prog.info? 30).map (·.size) = some (stA zs none 0 0).size := by rw [hzsz]; exact size30
  have hone := stA_one zs none 0 0
  by_cases hcase : m < 0 ∨ (nl : Int) < m
  · have hno : okN ps os nl m = false := by
      unfold okN
      rcases hcase with h | h
      · simp; intro _ h0; omega
      · simp; intro _ h0; omega
    replace hno := Hid.mk' hno
    generalize hZe : stA zs none 0 0 = Z at A0 R0 B0 hz30 hzsz hbz hsz0 hone
    replace hZe := Hid.mk' hZe
    go_enter Try.func12, Try.ntmps12
    go_upto_region 1 with fail
    generalize (w.alloc (.cells (stA ps sp n cap) 30)).alloc (.cells Z 30) = V at A0 R0 B0 ⊢
    have fin : ∀ u, Below w.heap.size w u → Arr u (w.heap.size + 1) 30 Z → AfterPost (aR ps os (bzs es) nl m) (aE ps os nl m) w (.returned (.tuple #[.agg (stA zs none 0 0), .int .i64 2])) (u.setRow (w.heap.size + 1) Z) := fun u hb _ => AfterPost.no hno.out (below_setRow hb (by omega) _)
    by_cases hlt : m < 0
    · clear hcase
      go_wp2_with (first
        | (refine atB 30 ?_; refine bdT (by rfl) 30 #[] (by rfl) (by rfl) hbz ?_)
        | (refine atS 30 (.tmp 6) (.tmp 19) ?_; refine wpList_store_arr (by rfl) 30 (.tmp 6) (.tmp 19) (by rfl) (w.heap.size + 1) Z (by rfl) (by rfl) 30 _ R0 hsz0 rfl hone ?_))
      have hZ0 := hZe.out
      have hf := fin V B0 R0
      subst hZ0
      exact bodyPost_ret (resE Try.results12 rfl rfl zs_len zs_l32 (R0.setRow _)) rfl hf
    · have hgt : (nl : Int) < m := by
        rcases hcase with h | h
        · exact absurd h hlt
        · exact h
      clear hcase
      go_wp2_with (first
        | (refine atB 30 ?_; refine bdT (by rfl) 30 #[] (by rfl) (by rfl) hbz ?_)
        | (refine atS 30 (.tmp 6) (.tmp 19) ?_; refine wpList_store_arr (by rfl) 30 (.tmp 6) (.tmp 19) (by rfl) (w.heap.size + 1) Z (by rfl) (by rfl) 30 _ R0 hsz0 rfl hone ?_))
      have hZ0 := hZe.out
      have hf := fin V B0 R0
      subst hZ0
      exact bodyPost_ret (resE Try.results12 rfl rfl zs_len zs_l32 (R0.setRow _)) rfl hf
  · obtain ⟨hge, hle⟩ : 0 ≤ m ∧ m ≤ nl := ⟨by omega, by omega⟩
    clear hcase
    obtain ⟨k, rfl⟩ : ∃ k : Nat, m = (k : Int) := ⟨m.toNat, by omega⟩
    have hkn : k ≤ nl := by omega
    have hyy : aR ps os (bzs es) nl (k : Int) = yR ps os (bzs (es.take k)) k ∧ aE ps os nl (k : Int) = xE ps os := by
      cases hmm : may ps os.length with
      | true =>
        obtain ⟨-, ea, ee⟩ := aR_yes (Ls := bzs es) hmm hkn
        rw [ea, ee, yR_yes hmm, xE_yes hmm, bzs_take, rnA_take ps os (bzs es) (Nat.le_refl k)]
        exact ⟨rfl, rfl⟩
      | false =>
        have h0 : okN ps os nl (k : Int) = false := by simp [okN, hmm]
        unfold aR aE yR xE
        rw [h0, hmm]
        exact ⟨rfl, rfl⟩
    rw [hyy.1, hyy.2]
    clear hyy
    have hnl0 : ¬ (k : Int) < 0 := by omega
    have hnl1 : ¬ (nl : Int) < k := by omega
    have hLk := hL.take hkn (Nat.le_trans hkn hL.le) (Nat.le_refl _) (fun e => (hL.nil e).2)
    have hcut := Hid.mk' (fun u => run_cut sl nl cl k u hkn hL.le)
    have hR := Hid.mk' (fun u h h' h'' => refRun_any ps w.heap.size sp n cap os sl k cl w.heap.size (es.take k) u h h' h'')
    unfold RunPost at hR
    have hrok := rnA_ok (Ls := bzs (es.take k)) h1 hok.out hS.outs.ok hLk.bts k
    have hyok : (yR ps os (bzs (es.take k)) k).P.length = 32 ∧ ∀ a ∈ (yR ps os (bzs (es.take k)) k).P, AcOK a := by
      unfold yR
      split
      · exact ⟨hrok.a32, hrok.ok⟩
      · exact ⟨zs_len, zs_ok⟩
    have hyou : Hid (∀ o ∈ (yR ps os (bzs (es.take k)) k).O, OuOK o) := Hid.mk' (by
      unfold yR
      split
      · exact hrok.ou
      · intro o ho; cases ho)
    obtain ⟨hq1, hq3⟩ := hyok
    have hq2 : ∀ a ∈ (yR ps os (bzs (es.take k)) k).P, a.lk.length = 32 := fun a ha => (hq3 a ha).l32
    replace hq3 := Hid.mk' hq3
    clear hbz hsz0 hone hle hge hrok
    generalize hye : yR ps os (bzs (es.take k)) k = R at *
    replace hye := Hid.mk' hye
    generalize hxe : xE ps os = ee at *
    replace hxe := Hid.mk' hxe
    generalize stA zs none 0 0 = Z at A0 R0 B0 hz30 hzsz
    go_enter Try.func12, Try.ntmps12
    go_upto_region 1 with fail
    generalize (w.alloc (.cells (stA ps sp n cap) 30)).alloc (.cells Z 30) = V at A0 R0 B0 ⊢
    have B1 := B0
    go_upto_region 3 with fail
    go_cut [8, 9, 10] from 11 to 30 (fun x y z wc => ∃ gt s1 n1 c1, (x = .pointer (some ⟨gt, 0, none⟩) ∧ (∃ sd kk cd, y = .slice sd kk cd) ∧ z = .int .i64 ee ∧ n1 ≤ 33) ∧ V.heap.size ≤ gt ∧ Arr wc gt 30 (stA R.P s1 n1 c1) ∧ Hid (n1 = R.O.length) ∧ wc.ownsRow V.heap.size 66 2 (.slice s1 n1 c1) n1 (ouF R.O) ∧ Below V.heap.size V wc)
    case first =>
      refine wp_region_held_drew (S := fun u => Below V.heap.size V u) (by kernel_rfl) ((Below.refl _ _).drew) (fun hHeld => ?_)
      refine wpAnyH_take (i := 0) (oi := ⟨_, _, _, _, _, _⟩) rfl (by kernel_rfl) (by kernel_rfl) (by kernel_rfl) (fun _ _ _ h => h) (y30 (by rfl) (.tmp 3) rfl w.heap.size 30 rfl ps sp n cap h1 h2 (fun u hu => A0.below hu A0.lt)) (by assumption) ?_
      try simp only [Act.put, List.setIfInBounds_toArray, List.set_cons_zero, List.set_cons_succ]
      refine wpAnyH_take (i := 1) (oi := ⟨_, _, _, _, _, _⟩) (v := ?_) rfl (by kernel_rfl) (by kernel_rfl) (by kernel_rfl) (fun _ _ _ h => h) (Or.inl ⟨by rfl, ?_⟩) (by assumption) ?_
      rotate_left
      · intro u hSw
        go_simp
        try (with_reducible rfl)
      try simp only [Act.put, List.setIfInBounds_toArray, List.set_cons_zero, List.set_cons_succ]
      refine wpAnyH_take (i := 2) (oi := ⟨_, _, _, _, _, _⟩) (v := ?_) rfl (by kernel_rfl) (by kernel_rfl) (by kernel_rfl) (fun _ _ _ h => h) (Or.inl ⟨by rfl, ?_⟩) (by assumption) ?_
      rotate_left
      · intro u hSw
        go_simp
        try (with_reducible rfl)
      try simp only [Act.put, List.setIfInBounds_toArray, List.set_cons_zero, List.set_cons_succ]
      refine wpAnyH_take (i := 3) (oi := ⟨_, _, _, _, _, _⟩) (v := .slice sl k cl) rfl (by kernel_rfl) (by kernel_rfl) (by kernel_rfl) (fun _ _ _ h => h) (Or.inl ⟨by rfl, fun u hSw => by simp [execOp, Act.eval, hcut.out]⟩) (by assumption) ?_
      try simp only [Act.put, List.setIfInBounds_toArray, List.set_cons_zero, List.set_cons_succ]
      refine wpAnyH_ready (rs := [4, 9]) (by kernel_rfl) (by simp) ?_
      refine AllReadyH.cons (o := ⟨_, _, _, _, _, _⟩) rfl (fun K hK => ?_) (AllReadyH.cons (o := ⟨_, _, _, _, _, _⟩) rfl (fun K hK => ?_) AllReadyH.nil)
      · go_simp
        have hB0 : Below V.heap.size V V.drew := (Below.refl _ _).drew
        refine (hR.out V.drew (hS.below (B1.trans (hB0.mono B1.size))) (hLk.below (B1.trans (hB0.mono B1.size))) (Nat.le_trans B1.size hB0.size)).mono ?_
        rintro r u1 ⟨s1, n1, c1, sd, kk, cd, rfl, hst1, -, -, hb1⟩
        have hn1 := hst1.len
        have hle1 := hst1.le
        have own1 := hst1.own
        have hB1 := hB0.trans (hb1.mono hB0.size)
        go_wp2_with fail
        refine hK.out _ _ hB1 (fun hHeld => ?_)
        clear hK K
        try simp only [Act.put, List.setIfInBounds_toArray, List.set_cons_zero, List.set_cons_succ]
        refine wpAnyH_take (i := 5) (oi := ⟨_, _, _, _, _, _⟩) (v := ?_) rfl (by kernel_rfl) (by kernel_rfl) (by kernel_rfl) (fun _ _ _ h => h) (Or.inl ⟨by rfl, ?_⟩) (by assumption) ?_
        rotate_left
        · intro u hSw
          go_simp
          try (with_reducible rfl)
        try simp only [Act.put, List.setIfInBounds_toArray, List.set_cons_zero, List.set_cons_succ]
        refine wpAnyH_take (i := 6) (oi := ⟨_, _, _, _, _, _⟩) (v := ?_) rfl (by kernel_rfl) (by kernel_rfl) (by kernel_rfl) (fun _ _ _ h => h) (Or.inl ⟨by rfl, ?_⟩) (by assumption) ?_
        rotate_left
        · intro u hSw
          go_simp
          try (with_reducible rfl)
        try simp only [Act.put, List.setIfInBounds_toArray, List.set_cons_zero, List.set_cons_succ]
        refine wpAnyH_take (i := 7) (oi := ⟨_, _, _, _, _, _⟩) (v := ?_) rfl (by kernel_rfl) (by kernel_rfl) (by kernel_rfl) (fun _ _ _ h => h) (Or.inl ⟨by rfl, ?_⟩) (by assumption) ?_
        rotate_left
        · intro u hSw
          go_simp
          try (with_reducible rfl)
        try simp only [Act.put, List.setIfInBounds_toArray, List.set_cons_zero, List.set_cons_succ]
        refine wpAnyH_take (i := 8) (oi := ⟨_, _, _, _, _, _⟩) (v := ?_) rfl (by kernel_rfl) (by kernel_rfl) (by kernel_rfl) (fun _ _ _ h => h) (Or.inl ⟨by rfl, ?_⟩) (by assumption) ?_
        rotate_left
        · intro u hSw
          go_simp
          try (with_reducible rfl)
        try simp only [Act.put, List.setIfInBounds_toArray, List.set_cons_zero, List.set_cons_succ]
        refine wpAnyH_ready (rs := [9]) (by kernel_rfl) (by simp) ?_
        refine AllReadyH.cons (o := ⟨_, _, _, _, _, _⟩) rfl (fun K hK => ?_) AllReadyH.nil
        have hB2 := hB1.alloc hB1.size (.cells Z 30)
        have hA2 := Arr.new u1 30 Z
        have hw2 := own1.alloc (.cells Z 30)
        go_simp
        go_wp2_with fail
        refine hK.out _ _ hB2 (fun hHeld => ?_)
        clear hK K
        try simp only [Act.put, List.setIfInBounds_toArray, List.set_cons_zero, List.set_cons_succ]
        refine wpAnyH_ready (rs := [10]) (by kernel_rfl) (by simp) ?_
        refine AllReadyH.cons (o := ⟨_, _, _, _, _, _⟩) rfl (fun K hK => ?_) AllReadyH.nil
        refine step_want rfl (wp_store_row 30 (.tmp 8) (.tmp 26) rfl u1.heap.size (stA R.P s1 n1 c1) rfl rfl 30 _ hA2 (by rw [stA_size hq1 hq2]; exact size30) (by rw [hzsz, stA_size hq1 hq2]) (stA_one _ _ _ _) ?_)
        have hB3 := below_setRow hB2 hB1.size (stA R.P s1 n1 c1)
        have hA3 := hA2.setRow (stA R.P s1 n1 c1)
        have hw3 := own_same hw2 (w' := (u1.alloc (.cells Z 30)).setRow u1.heap.size (stA R.P s1 n1 c1)) (fun b hb => setRow_other _ _ _ _ (by have := own_lt own1 hb; omega))
        refine hK.out _ _ hB3 (fun hHeld => ?_)
        clear hK K
        try simp only [Act.put, List.setIfInBounds_toArray, List.set_cons_zero, List.set_cons_succ]
        refine wpAnyH_take (i := 11) (oi := ⟨_, _, _, _, _, _⟩) (v := ?_) rfl (by kernel_rfl) (by kernel_rfl) (by kernel_rfl) (fun _ _ _ h => h) (Or.inl ⟨by rfl, ?_⟩) (by assumption) ?_
        rotate_left
        · intro u hSw
          go_simp
          try (with_reducible rfl)
        try simp only [Act.put, List.setIfInBounds_toArray, List.set_cons_zero, List.set_cons_succ]
        refine wpAnyH_take (i := 12) (oi := ⟨_, _, _, _, _, _⟩) (v := ?_) rfl (by kernel_rfl) (by kernel_rfl) (by kernel_rfl) (fun _ _ _ h => h) (Or.inl ⟨by rfl, ?_⟩) (by assumption) ?_
        rotate_left
        · intro u hSw
          go_simp
          try (with_reducible rfl)
        try simp only [Act.put, List.setIfInBounds_toArray, List.set_cons_zero, List.set_cons_succ]
        refine wpAnyH_done (by kernel_rfl) ?_ _
        go_wp2_with fail
        go_meet
        exact ⟨_, s1, n1, c1, ⟨rfl, ⟨_, _, _, rfl⟩, rfl, hle1⟩, hB1.size, hA3, hn1, own_mono hw3 hB0.size, hB3⟩
      · go_simp
        go_wp2_with fail
        have hB0 : Below V.heap.size V (V.drew.alloc (.cells Z 30)) := ((Below.refl V.heap.size V).drew).alloc (by simp) _
        have hA0 : Arr (V.drew.alloc (.cells Z 30)) V.heap.size 30 Z := Arr.new V.drew 30 Z
        refine hK.out _ _ hB0 (fun hHeld => ?_)
        clear hK K
        try simp only [Act.put, List.setIfInBounds_toArray, List.set_cons_zero, List.set_cons_succ]
        refine wpAnyH_ready (rs := [4]) (by kernel_rfl) (by simp) ?_
        refine AllReadyH.cons (o := ⟨_, _, _, _, _, _⟩) rfl (fun K hK => ?_) AllReadyH.nil
        go_simp
        refine (hR.out (V.drew.alloc (.cells Z 30)) (hS.below (B1.trans (hB0.mono B1.size))) (hLk.below (B1.trans (hB0.mono B1.size))) (Nat.le_trans B1.size hB0.size)).mono ?_
        rintro r u1 ⟨s1, n1, c1, sd, kk, cd, rfl, hst1, -, -, hb1⟩
        have hn1 := hst1.len
        have hle1 := hst1.le
        have own1 := hst1.own
        have hB1 := hB0.trans (hb1.mono hB0.size)
        have hA1 := hA0.below hb1 hA0.lt
        have hgV : V.heap.size < (V.drew.alloc (.cells Z 30)).heap.size := by simp
        go_wp2_with fail
        refine hK.out _ _ hB1 (fun hHeld => ?_)
        clear hK K
        try simp only [Act.put, List.setIfInBounds_toArray, List.set_cons_zero, List.set_cons_succ]
        refine wpAnyH_take (i := 5) (oi := ⟨_, _, _, _, _, _⟩) (v := ?_) rfl (by kernel_rfl) (by kernel_rfl) (by kernel_rfl) (fun _ _ _ h => h) (Or.inl ⟨by rfl, ?_⟩) (by assumption) ?_
        rotate_left
        · intro u hSw
          go_simp
          try (with_reducible rfl)
        try simp only [Act.put, List.setIfInBounds_toArray, List.set_cons_zero, List.set_cons_succ]
        refine wpAnyH_take (i := 6) (oi := ⟨_, _, _, _, _, _⟩) (v := ?_) rfl (by kernel_rfl) (by kernel_rfl) (by kernel_rfl) (fun _ _ _ h => h) (Or.inl ⟨by rfl, ?_⟩) (by assumption) ?_
        rotate_left
        · intro u hSw
          go_simp
          try (with_reducible rfl)
        try simp only [Act.put, List.setIfInBounds_toArray, List.set_cons_zero, List.set_cons_succ]
        refine wpAnyH_take (i := 7) (oi := ⟨_, _, _, _, _, _⟩) (v := ?_) rfl (by kernel_rfl) (by kernel_rfl) (by kernel_rfl) (fun _ _ _ h => h) (Or.inl ⟨by rfl, ?_⟩) (by assumption) ?_
        rotate_left
        · intro u hSw
          go_simp
          try (with_reducible rfl)
        try simp only [Act.put, List.setIfInBounds_toArray, List.set_cons_zero, List.set_cons_succ]
        refine wpAnyH_take (i := 8) (oi := ⟨_, _, _, _, _, _⟩) (v := ?_) rfl (by kernel_rfl) (by kernel_rfl) (by kernel_rfl) (fun _ _ _ h => h) (Or.inl ⟨by rfl, ?_⟩) (by assumption) ?_
        rotate_left
        · intro u hSw
          go_simp
          try (with_reducible rfl)
        try simp only [Act.put, List.setIfInBounds_toArray, List.set_cons_zero, List.set_cons_succ]
        refine wpAnyH_ready (rs := [10]) (by kernel_rfl) (by simp) ?_
        refine AllReadyH.cons (o := ⟨_, _, _, _, _, _⟩) rfl (fun K hK => ?_) AllReadyH.nil
        refine step_want rfl (wp_store_row 30 (.tmp 8) (.tmp 26) rfl V.heap.size (stA R.P s1 n1 c1) rfl rfl 30 _ hA1 (by rw [stA_size hq1 hq2]; exact size30) (by rw [hzsz, stA_size hq1 hq2]) (stA_one _ _ _ _) ?_)
        have hB3 := below_setRow hB1 (Nat.le_refl _) (stA R.P s1 n1 c1)
        have hA3 := hA1.setRow (stA R.P s1 n1 c1)
        have hw3 := own_same own1 (w' := u1.setRow V.heap.size (stA R.P s1 n1 c1)) (fun b hb => setRow_other _ _ _ _ (by have := own_ge own1 b hb; omega))
        refine hK.out _ _ hB3 (fun hHeld => ?_)
        clear hK K
        try simp only [Act.put, List.setIfInBounds_toArray, List.set_cons_zero, List.set_cons_succ]
        refine wpAnyH_take (i := 11) (oi := ⟨_, _, _, _, _, _⟩) (v := ?_) rfl (by kernel_rfl) (by kernel_rfl) (by kernel_rfl) (fun _ _ _ h => h) (Or.inl ⟨by rfl, ?_⟩) (by assumption) ?_
        rotate_left
        · intro u hSw
          go_simp
          try (with_reducible rfl)
        try simp only [Act.put, List.setIfInBounds_toArray, List.set_cons_zero, List.set_cons_succ]
        refine wpAnyH_take (i := 12) (oi := ⟨_, _, _, _, _, _⟩) (v := ?_) rfl (by kernel_rfl) (by kernel_rfl) (by kernel_rfl) (fun _ _ _ h => h) (Or.inl ⟨by rfl, ?_⟩) (by assumption) ?_
        rotate_left
        · intro u hSw
          go_simp
          try (with_reducible rfl)
        try simp only [Act.put, List.setIfInBounds_toArray, List.set_cons_zero, List.set_cons_succ]
        refine wpAnyH_done (by kernel_rfl) ?_ _
        go_wp2_with fail
        go_meet
        exact ⟨_, s1, n1, c1, ⟨rfl, ⟨_, _, _, rfl⟩, rfl, hle1⟩, Nat.le_refl _, hA3, hn1, own_mono hw3 hB0.size, hB3⟩
    case rest =>
      obtain ⟨gt, s1, n1, c1, ⟨rfl, ⟨sd, kk, cd, rfl⟩, rfl, hle1⟩, hgt, T1, hn1, own1, hbc⟩ := hcut
      have hzc := hbc.size
      have hV := B0.size
      have hR0 := R0.lt
      have R2 := R0.below hbc R0.lt
      have B2 := B0.trans (hbc.mono B0.size)
      have hsq : (stA R.P s1 n1 c1).size = 1089 := stA_size hq1 hq2
      go_wp2_with (first
        | (refine atL 30 (.tmp 8) ?_; refine ld30 (by rfl) _ (by rfl) gt 30 (by rfl) R.P s1 n1 c1 hq1 hq2 T1 ?_)
        | (refine atS 30 (.tmp 6) (.tmp 29) ?_; refine wpList_store_arr (by rfl) 30 (.tmp 6) (.tmp 29) (by rfl) (w.heap.size + 1) (stA R.P s1 n1 c1) (by rfl) (by rfl) 30 _ R2 (by rw [hsq]; exact size30) (by rw [hzsz, hsq]) (stA_one _ _ _ _) ?_))
      have own3 := own_same own1 (w' := wc.setRow (w.heap.size + 1) (stA R.P s1 n1 c1)) (fun b hb => setRow_other _ _ _ _ (by have := own_ge own1 b hb; omega))
      have hst : NwS w (wc.setRow (w.heap.size + 1) (stA R.P s1 n1 c1)) R.P R.O s1 n1 c1 := ⟨hn1, hle1, own_mono own3 (by omega), ⟨Hid.mk' hq1, hq3, os_own own3 hn1.out (by omega) hyou.out⟩⟩
      have R3 := R2.setRow (stA R.P s1 n1 c1)
      have B3 := below_setRow B2 (show w.heap.size ≤ w.heap.size + 1 by omega) (stA R.P s1 n1 c1)
      have hye0 := hye.out
      have hxe0 := hxe.out
      clear hye hxe
      subst hye0
      subst hxe0
      exact bodyPost_ret (resE Try.results12 rfl rfl hq1 hq2 R3) rfl ⟨s1, n1, c1, rfl, hst, B3⟩
end Go.Proofs.Ytbhhbkoikocjgaa
