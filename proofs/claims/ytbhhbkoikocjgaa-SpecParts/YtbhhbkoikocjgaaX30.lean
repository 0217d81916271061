/- NkR, NkC, NkA, NkF. -/
import Derived.Test.YtbhhbkoikocjgaaX29
import Derived.Test.YtbhhbkoikocjgaaX23
import Derived.Test.YtbhhbkoikocjgaaX14
/- Layer spec: Run. -/
namespace Go.Proofs.Ytbhhbkoikocjgaa
set_option linter.unusedSectionVars false
set_option maxHeartbeats 1000000
open Go.RowKit Go.Shelf
set_option maxRecDepth 100000
set_option linter.unusedVariables false
set_option linter.unusedSimpArgs false


variable [DecidableEq Ac] [DecidableEq Ou] [DecidableEq Mg]
set_option maxHeartbeats 2000000 in
theorem run_any (ps : List Ac) (N : Nat) (sp : Option Addr) (n cap : Nat) (os : List Ou) (sl : Option Addr) (nl cl Nl : Nat) (es : List Bz) (w : World) (hS : SS N w ps sp n cap os) (hL : BL Nl w sl nl cl es) (hNl : Nl ≤ w.heap.size) :
    Calls Try.prog 8 #[.agg (stA ps sp n cap), .slice sl nl cl] w (RunPost (yR ps os (bzs es) nl) (xE ps os) w) := by
  have hL := hL.mono hNl
  have hS := hS.here
  have h1 := hS.a32.out
  have h2 := hS.l32
  have hok := hS.ok
  have hnn := hS.outs.len
  have hns := hS.outs.small
  have A0 := (Arr.new w 30 (stA ps sp n cap)).alloc (.cells (stA zs none 0 0) 30)
  have R0 : Arr ((w.alloc (.cells (stA ps sp n cap) 30)).alloc (.cells (stA zs none 0 0) 30)) (w.heap.size + 1) 30 (stA zs none 0 0) := by simpa using Arr.new (w.alloc (.cells (stA ps sp n cap) 30)) 30 (stA zs none 0 0)
  have B0 := (alloc_bel' w (.cells (stA ps sp n cap) 30)).alloc (by simp) (.cells (stA zs none 0 0) 30)
  have hz30 := zeroValue30
  have hzsz : (stA zs none 0 0).size = 1089 := stA_size zs_len zs_l32
  have hbz := built30z
  have hsz0 : (Try.prog.info? 30).map (·.size) = some (stA zs none 0 0).size := by rw [hzsz]; exact size30
  have hone := stA_one zs none 0 0
  cases hm : may ps n with
  | false =>
    have hm' : may ps os.length = false := by rw [← hnn.out]; exact hm
    have hmay := fun u => may_any ps sp n cap u h1 hok.out hns
    rw [hm] at hmay
    generalize hZe : stA zs none 0 0 = Z at A0 R0 B0 hz30 hzsz hbz hsz0 hone
    go_enter Try.func8, Try.ntmps8
    go_upto_region 1 with fail
    generalize (w.alloc (.cells (stA ps sp n cap) 30)).alloc (.cells Z 30) = V at A0 R0 B0 ⊢
    go_wp2_with (first
      | (refine atL 30 (.tmp 2) ?_; refine ld30 (by rfl) _ (by rfl) w.heap.size 30 (by rfl) ps sp n cap h1 h2 A0 ?_)
      | (go_at_call 24; go_must (refine (hmay _).mono ?_; rintro r w1 ⟨rfl, hb1⟩; have R1 := R0.below hb1 R0.lt; have B1 := B0.trans (hb1.mono B0.size)))
      | (refine atB 30 ?_; refine bdT (by rfl) 30 #[] (by rfl) (by rfl) hbz ?_)
      | (refine atS 30 (.tmp 4) (.tmp 11) ?_; refine wpList_store_arr (by rfl) 30 (.tmp 4) (.tmp 11) (by rfl) (w.heap.size + 1) Z (by rfl) (by rfl) 30 _ R1 hsz0 rfl hone ?_))
    subst hZe
    exact bodyPost_ret (resD Try.results8 rfl rfl rfl zs_len zs_l32 (R1.setRow _)) rfl (RunPost.no hm' (below_setRow B1 (by omega) _))
  | true =>
    have hm' : may ps os.length = true := by rw [← hnn.out]; exact hm
    have hn32 : n ≤ 32 := (may_sum hok.out).1 hm |>.2
    have hmay := fun u => may_any ps sp n cap u h1 hok.out hns
    rw [hm] at hmay
    have hrok := rnA_ok (Ls := bzs es) h1 hok.out hS.outs.ok hL.bts
    rw [yR_yes hm', xE_yes hm']
    clear hbz hsz0 hone
    generalize stA zs none 0 0 = Z at A0 R0 B0 hz30 hzsz
    have hz69 := zeroValue69N
    have hzs69 := zsize69
    generalize zero69N = Z9 at hz69 hzs69
    have hrD := rnA_D (ps := ps) (os := os) (Ls := bzs es) nl (by rw [bzs_len, hL.len.out]; exact Nat.le_refl _)
    go_enter Try.func8, Try.ntmps8
    go_upto_region 1 with fail
    generalize (w.alloc (.cells (stA ps sp n cap) 30)).alloc (.cells Z 30) = V at A0 R0 B0 ⊢
    go_upto_region 3 with (first
      | (refine atL 30 (.tmp 2) ?_; refine ld30 (by rfl) _ (by rfl) w.heap.size 30 (by rfl) ps sp n cap h1 h2 A0 ?_)
      | (go_at_call 24; go_must (refine (hmay _).mono ?_; rintro r w1 ⟨rfl, hb1⟩)))
    have A1 := A0.below hb1 A0.lt
    have R1 := R0.below hb1 R0.lt
    have B1 := B0.trans (hb1.mono B0.size)
    have hV := B0.size
    have hz1 := hb1.size
    have hown := own_any ps w.heap.size sp n cap os w1 (hS.below B1) (by omega)
    clear A0 R0 B0 hb1
    go_upto_region 4 with (first
      | (refine atL 30 (.tmp 2) ?_; refine ld30 (by rfl) _ (by rfl) w.heap.size 30 (by rfl) ps sp n cap h1 h2 A1 ?_)
      | (go_at_call 27; go_must (refine hown.mono ?_; rintro r w2 ⟨s2, c2, rfl, own2, hb2⟩; have hb69 := built69a (ps := ps) (sp := s2) (n := n) (cap := c2) h1 h2; have S2 : SS w2.heap.size w2 ps s2 n c2 os := ⟨hS.a32, hS.ok, os_own own2 hnn.out hns hS.outs.ok⟩; have B2 := B1.trans (hb2.mono B1.size); have hfin := finC ps s2 n c2 os sl nl cl es w2 S2 ((hL.below B2).mono B2.size)))
      | (refine atB 69 ?_; refine bdT (by rfl) 69 #[(0, .tmp 14)] (by rfl) (by rfl) hb69 ?_)
      | (go_at_call 26; go_must (refine (fold26_any sl nl cl (crA ps s2 n c2 (.slice none 0 0)) w2).mono ?_; rintro r w3 ⟨rfl, rfl⟩))
      | (go_at_call 25; go_must (refine hfin.mono ?_; rintro r w4 ⟨C4, rfl, hT4, hb4⟩; obtain ⟨s4, n4, c4, sd, cd, rfl, hR4, hD4⟩ := hT4))
      | (refine atS 69 (.tmp 7) (.tmp 17) ?_; refine stBn (by rfl) 69 1090 _ _ (by rfl) w4 w4.heap.size 69 rfl (crA (rnA ps os (bzs es) nl).P s4 n4 c4 (.slice sd nl cd)) (by rfl) (by rfl) (crA_size (hrok nl).a32 (fun a ha => ((hrok nl).ok a ha).l32)) (crA_one _ _ _ _ _ _ _) hzs69 size69N ?_))
    have hz2 := hb2.size
    have hz4 := hb4.size
    have own4 := own_same own2 (fun b hb => hb4.block b (own_lt own2 hb))
    have hq1 := (hrok nl).a32
    have hq2 : ∀ a ∈ (rnA ps os (bzs es) nl).P, a.lk.length = 32 := fun a ha => ((hrok nl).ok a ha).l32
    have R4 := (R1.below hb2 (by have := R1.lt; omega)).below hb4 (by have := R1.lt; omega)
    have hR1lt := R1.lt
    have B4 := B2.trans (hb4.mono B2.size)
    have bb := alloc_bel' w4 (.cells (crA (rnA ps os (bzs es) nl).P s4 n4 c4 (.slice sd nl cd)) 69)
    have A5 := (Arr.new w4 69 (crA (rnA ps os (bzs es) nl).P s4 n4 c4 (.slice sd nl cd))).drew
    have R5 := (R4.alloc (.cells (crA (rnA ps os (bzs es) nl).P s4 n4 c4 (.slice sd nl cd)) 69)).drew
    have B5 := (B4.alloc B4.size (.cells (crA (rnA ps os (bzs es) nl).P s4 n4 c4 (.slice sd nl cd)) 69)).drew
    have own5 := (own4.alloc (.cells (crA (rnA ps os (bzs es) nl).P s4 n4 c4 (.slice sd nl cd)) 69)).drew
    have hD5 := (hD4.alloc (.cells (crA (rnA ps os (bzs es) nl).P s4 n4 c4 (.slice sd nl cd)) 69)).drew
    have hR5 := hR4.same (W' := (w4.alloc (.cells (crA (rnA ps os (bzs es) nl).P s4 n4 c4 (.slice sd nl cd)) 69)).drew) (fun b _ hb => bb.drew.block b hb)
    have hrn := hrok nl
    clear bb hb4 hb2 hR4 hD4 own4 R4 B4 R1 A1 own2 hfin hown S2 B2 hb69
    generalize hre : rnA ps os (bzs es) nl = R at *
    replace hre := Hid.mk' hre
    refine wp_region_held_drew (S := fun u => Arr u w4.heap.size 69 (crA R.P s4 n4 c4 (.slice sd nl cd))) (by kernel_rfl) A5 (fun hHeld => ?_)
    generalize (w4.alloc (.cells (crA R.P s4 n4 c4 (.slice sd nl cd)) 69)).drew = W5 at *
    have hg4 : w2.heap.size ≤ w4.heap.size := hz4
    generalize w4.heap.size = G4 at *
    refine wpAnyH_take (i := 0) (oi := ⟨_, _, _, _, _, _⟩) (v := ?_) rfl (by kernel_rfl) (by kernel_rfl) (by kernel_rfl) (fun _ _ _ h => h) (Or.inl ⟨by rfl, ?_⟩) (by assumption) ?_
    rotate_left
    · intro u hSw
      go_simp
      try (with_reducible rfl)
    try simp only [Act.put, List.setIfInBounds_toArray, List.set_cons_zero, List.set_cons_succ]
    refine wpAnyH_take (i := 1) (oi := ⟨_, _, _, _, _, _⟩) rfl (by kernel_rfl) (by kernel_rfl) (by kernel_rfl) (fun _ _ _ h => h) (yieldsIf_load_mid (by rfl) 30 (.tmp 18) rfl G4 0 rfl (stC R.P s4 n4 c4) _ (fun u hu => hu.crS) Try.underlying30 rfl (by rw [stC_len hq1 hq2]; exact size30)) (by assumption) ?_
    try simp only [Act.put, List.setIfInBounds_toArray, List.set_cons_zero, List.set_cons_succ]
    refine wpAnyH_take (i := 2) (oi := ⟨_, _, _, _, _, _⟩) (v := ?_) rfl (by kernel_rfl) (by kernel_rfl) (by kernel_rfl) (fun _ _ _ h => h) (Or.inl ⟨by rfl, ?_⟩) (by assumption) ?_
    rotate_left
    · intro u hSw
      go_simp
      try (with_reducible rfl)
    try simp only [Act.put, List.setIfInBounds_toArray, List.set_cons_zero, List.set_cons_succ]
    refine wpAnyH_take (i := 3) (oi := ⟨_, _, _, _, _, _⟩) (v := ?_) rfl (by kernel_rfl) (by kernel_rfl) (by kernel_rfl) (fun _ _ _ h => h) (Or.inl ⟨by rfl, ?_⟩) (by assumption) ?_
    rotate_left
    · intro u hSw
      have cc := Arr.crD hSw hq1 hq2
      go_simp
      try (with_reducible rfl)
    try simp only [Act.put, List.setIfInBounds_toArray, List.set_cons_zero, List.set_cons_succ]
    refine wpAnyH_ready (rs := [4]) (by kernel_rfl) (by simp) ?_
    refine AllReadyH.cons (o := ⟨_, _, _, _, _, _⟩) rfl (fun K hK => ?_) AllReadyH.nil
    refine step_want rfl (wp_store_row 30 (.tmp 4) (.tmp 19) rfl (w.heap.size + 1) (stA R.P s4 n4 c4) rfl rfl 30 _ R5 (by rw [stA_size hq1 hq2]; exact size30) (by rw [hzsz, stA_size hq1 hq2]) (stA_one _ _ _ _) ?_)
    refine hK.out _ _ (A5.setRowOther _ (by omega)) (fun hHeld => ?_)
    clear hK K
    try simp only [Act.put, List.setIfInBounds_toArray, List.set_cons_zero, List.set_cons_succ]
    refine wpAnyH_take (i := 5) (oi := ⟨_, _, _, _, _, _⟩) (v := ?_) rfl (by kernel_rfl) (by kernel_rfl) (by kernel_rfl) (fun _ _ _ h => h) (Or.inl ⟨by rfl, ?_⟩) (by assumption) ?_
    rotate_left
    · intro u hSw
      go_simp
      try (with_reducible rfl)
    try simp only [Act.put, List.setIfInBounds_toArray, List.set_cons_zero, List.set_cons_succ]
    refine wpAnyH_take (i := 6) (oi := ⟨_, _, _, _, _, _⟩) (v := ?_) rfl (by kernel_rfl) (by kernel_rfl) (by kernel_rfl) (fun _ _ _ h => h) (Or.inl ⟨by rfl, ?_⟩) (by assumption) ?_
    rotate_left
    · intro u hSw
      go_simp
      try (with_reducible rfl)
    try simp only [Act.put, List.setIfInBounds_toArray, List.set_cons_zero, List.set_cons_succ]
    refine wpAnyH_done (by kernel_rfl) ?_ _
    go_wp2_with fail
    have R6 := R5.setRow (stA R.P s4 n4 c4)
    have hk6 : ∀ b, w2.heap.size ≤ b → b < W5.heap.size → (W5.setRow (w.heap.size + 1) (stA R.P s4 n4 c4)).heap[b]? = W5.heap[b]? := fun b hb _ => setRow_other _ _ _ _ (by omega)
    have hR6 := hR5.same hk6
    have own6 := own_same own5 (w' := W5.setRow (w.heap.size + 1) (stA R.P s4 n4 c4)) (fun b hb => setRow_other _ _ _ _ (by have := own_ge own5 b hb; omega))
    have hD6 := own_keep hD5 hk6
    have hre0 := hre.out
    clear hre
    subst hre0
    have hst := SR.st (w := w) hR6 (by omega) hnn.out (by omega) (own_mono own6 (by omega)) hrn
    refine bodyPost_ret (resD Try.results8 rfl rfl rfl hq1 hq2 R6) rfl ⟨s4, n4, c4, sd, nl, cd, rfl, hst, Hid.mk' hrD.symm, own_mono hD6 (by omega), below_setRow B5 (by omega) _⟩
end Go.Proofs.Ytbhhbkoikocjgaa
/- Layer spec: parts of a list. -/
namespace Go.Proofs.Ytbhhbkoikocjgaa
set_option linter.unusedSectionVars false
set_option maxHeartbeats 1000000
open Go.RowKit Go.Shelf
set_option maxRecDepth 100000
set_option linter.unusedVariables false
set_option linter.unusedSimpArgs false


variable [DecidableEq Ac] [DecidableEq Ou] [DecidableEq Mg]
theorem elem31 : Try.prog.underlying 31 = some (.slice (Try.prog.elem 31)) := by kernel_rfl
theorem sizeE31 (w : World) : (sizeOf (Try.prog.elem 31)).run Try.prog w = .ok 1 w := by
  have h : (Try.prog.info? (Try.prog.elem 31)).map (·.size) = some 1 := by kernel_rfl
  cases hq : Try.prog.info? (Try.prog.elem 31) with
  | none => rw [hq] at h; cases h
  | some i =>
    rw [hq] at h
    have hz : i.size = 1 := by simpa using h
    simp [sizeOf, typeInfo, hq, hz]
theorem add0 (a : Option Addr) : a.map (·.add 0) = a := by
  cases a <;> simp [Addr.add]
/-- The first k of a list. -/
theorem run_cut (sl : Option Addr) (nl cl k : Nat) (w : World) (hk : k ≤ nl) (hc : nl ≤ cl) : (Instr.sliceAt 31 (.slice sl nl cl) none (some (.int .i64 (k : Int))) none).run Try.prog w = .ok (.slice sl k cl) w := by
  rw [run_sliceAt_slice _ _ _ _ _ _ elem31, run_slice_h _ _ _ _ _ elem31 _ _ (by omega) (by omega), sizeE31]
  simp [Result.andThen, sliced, add0]
theorem run_cut3 (sl : Option Addr) (nl cl k : Nat) (w : World) (hk : k ≤ nl) (hc : nl ≤ cl) : (Instr.sliceAt 31 (.slice sl nl cl) none (some (.int .i64 (k : Int))) (some (.int .i64 (k : Int)))).run Try.prog w = .ok (.slice sl k k) w := by
  rw [run_sliceAt_slice _ _ _ _ _ _ elem31, run_slice_hm _ _ _ _ _ elem31 _ _ _ _ (by omega) (by omega) (by omega), sizeE31]
  simp [Result.andThen, sliced, add0]
/-- What is behind them. -/
def restP (sl : Option Addr) (cl k : Nat) : Option Addr := if cl = k then sl else sl.map (·.add k)
theorem run_rest (sl : Option Addr) (nl cl k : Nat) (w : World) (hk : k ≤ nl) (hc : nl ≤ cl) : (Instr.sliceAt 31 (.slice sl nl cl) (some (.int .i64 (k : Int))) none none).run Try.prog w = .ok (.slice (restP sl cl k) (nl - k) (cl - k)) w := by
  rw [run_sliceAt_slice _ _ _ _ _ _ elem31, run_slice_l _ _ _ _ _ elem31 _ _ (by omega) (by omega), sizeE31]
  simp [Result.andThen, sliced, restP]
theorem BL.rest {N : Nat} {w : World} {sl : Option Addr} {nl cl : Nat} {es : List Bz} (h : BL N w sl nl cl es) {k : Nat} (hk : k ≤ nl) : BL N w (restP sl cl k) (nl - k) (cl - k) (es.drop k) := by
  have hl := h.len.out
  have hle := h.le
  refine ⟨Hid.mk' (by rw [List.length_drop]; omega), fun e => ?_, by omega, by have := h.big; omega, by have := h.small; omega, fun h0 => ?_, fun e he => h.ok e (List.mem_of_mem_drop he)⟩
  · unfold restP at e
    have : sl = none := by
      split at e
      · exact e
      · cases sl <;> simp_all
    have := h.nil this
    omega
  · obtain ⟨g, off, rfl, hg, hcl⟩ := h.at0 (by omega)
    refine ⟨g, off + k, ?_, hg, fun i f hf => ?_⟩
    · unfold restP
      rw [if_neg (by omega)]
      by_cases hk0 : k = 0 <;> simp [Addr.add, hk0]
    · rw [List.getElem?_drop] at hf
      rw [Nat.add_assoc]
      exact hcl (k + i) f hf
end Go.Proofs.Ytbhhbkoikocjgaa
/- Layer spec: After. -/
namespace Go.Proofs.Ytbhhbkoikocjgaa
set_option linter.unusedSectionVars false
set_option maxHeartbeats 1000000
open Go.RowKit Go.Shelf
set_option maxRecDepth 100000
set_option linter.unusedVariables false
set_option linter.unusedSimpArgs false


variable [DecidableEq Ac] [DecidableEq Ou] [DecidableEq Mg]
theorem resE {f : Func} {w : World} {tmps : Array Value} {g t k : Nat} {ps : List Ac} {sp : Option Addr} {n cap : Nat} {v : Value} (hf : f.results = #[.cell t 30, .tmp k]) (hp : tmps.getD t undef = .pointer (some ⟨g, 0, none⟩)) (hk : tmps.getD k undef = v) (h1 : ps.length = 32) (h2 : ∀ a ∈ ps, a.lk.length = 32) (hA : Arr w g 30 (stA ps sp n cap)) :
    (results f tmps).run Try.prog w = .ok (.tuple #[.agg (stA ps sp n cap), v]) w := by
  have hl' := run_loadVar_mid (P := Try.prog) w g 0 30 (stC ps sp n cap) _ hA.st Try.underlying30 rfl (by rw [stC_len h1 h2]; exact size30)
  have hp' : tmps[t]?.getD undef = .pointer (some ⟨g, 0, none⟩) := by simpa using hp
  have hk' : tmps[k]?.getD undef = v := by simpa using hk
  simp [results, hf, hp', hk', asAddr, hl', stA]
/-- Which n there are. -/
def okN (ps : List Ac) (os : List Ou) (nl : Nat) (m : Int) : Bool := may ps os.length && (decide (0 ≤ m) && decide (m ≤ nl))
def aR (ps : List Ac) (os : List Ou) (Ls : List (List Int)) (nl : Nat) (m : Int) : Rn := if okN ps os nl m = true then rnA ps os Ls m.toNat else ⟨zs, [], [], 0, 0⟩
def aE (ps : List Ac) (os : List Ou) (nl : Nat) (m : Int) : Int := if okN ps os nl m = true then 0 else 2
def AfterPost (R : Rn) (e : Int) (w : World) (r : Ending) (w' : World) : Prop :=
  ∃ s n c, r = .returned (.tuple #[.agg (stA R.P s n c), .int .i64 e]) ∧ NwS w w' R.P R.O s n c ∧ Below w.heap.size w w'
theorem AfterPost.no {ps : List Ac} {os : List Ou} {Ls : List (List Int)} {nl : Nat} {m : Int} {w w' : World} (h : okN ps os nl m = false) (hb : Below w.heap.size w w') : AfterPost (aR ps os Ls nl m) (aE ps os nl m) w (.returned (.tuple #[.agg (stA zs none 0 0), .int .i64 2])) w' := by
  have e1 : aR ps os Ls nl m = ⟨zs, [], [], 0, 0⟩ := by unfold aR; rw [h]; rfl
  have e2 : aE ps os nl m = 2 := by unfold aE; rw [h]; rfl
  rw [e1, e2]
  exact ⟨none, 0, 0, rfl, NwS.zero _ _, hb⟩
theorem aR_yes {ps : List Ac} {os : List Ou} {Ls : List (List Int)} {nl k : Nat} (h : may ps os.length = true) (hk : k ≤ nl) : okN ps os nl (k : Int) = true ∧ aR ps os Ls nl (k : Int) = rnA ps os Ls k ∧ aE ps os nl (k : Int) = 0 := by
  have h0 : okN ps os nl (k : Int) = true := by simp [okN, h]; exact hk
  refine ⟨h0, ?_, ?_⟩
  · unfold aR; rw [if_pos h0]; simp
  · unfold aE; rw [if_pos h0]

set_option maxHeartbeats 2000000 in
theorem after_any (ps : List Ac) (N : Nat) (sp : Option Addr) (n cap : Nat) (os : List Ou) (sl : Option Addr) (nl cl Nl : Nat) (es : List Bz) (m : Int) (w : World) (hS : SS N w ps sp n cap os) (hL : BL Nl w sl nl cl es) (hNl : Nl ≤ w.heap.size) :
    Calls Try.prog 11 #[.agg (stA ps sp n cap), .int .i64 m, .slice sl nl cl] w (AfterPost (aR ps os (bzs es) nl m) (aE ps os nl m) w) := by
  have hL := hL.mono hNl
  have hS := hS.here
  have h1 := hS.a32.out
  have h2 := hS.l32
  have hok := hS.ok
  have hnn := hS.outs.len
  have hns := hS.outs.small
  have A0 := (Arr.new w 30 (stA ps sp n cap)).alloc (.cells (stA zs none 0 0) 30)
  have R0 : Arr ((w.alloc (.cells (stA ps sp n cap) 30)).alloc (.cells (stA zs none 0 0) 30)) (w.heap.size + 1) 30 (stA zs none 0 0) := by simpa using Arr.new (w.alloc (.cells (stA ps sp n cap) 30)) 30 (stA zs none 0 0)
  have B0 := (alloc_bel' w (.cells (stA ps sp n cap) 30)).alloc (by simp) (.cells (stA zs none 0 0) 30)
  have hz30 := zeroValue30
  have hzsz : (stA zs none 0 0).size = 1089 := stA_size zs_len zs_l32
  have hbz := built30z
  have hsz0 : (Try.prog.info? 30).map (·.size) = some (stA zs none 0 0).size := by rw [hzsz]; exact size30
  have hone := stA_one zs none 0 0
  have hmay := fun u => may_any ps sp n cap u h1 hok.out hns
  by_cases hcase : may ps n = false ∨ m < 0 ∨ (nl : Int) < m
  · have hno : okN ps os nl m = false := by
      unfold okN
      rw [← hnn.out]
      rcases hcase with h | h | h
      · rw [h]; rfl
      · simp; intro _ h0; omega
      · simp; intro _ h0; omega
    replace hno := Hid.mk' hno
    generalize hZe : stA zs none 0 0 = Z at A0 R0 B0 hz30 hzsz hbz hsz0 hone
    replace hZe := Hid.mk' hZe
    go_enter Try.func11, Try.ntmps11
    go_upto_region 1 with fail
    generalize (w.alloc (.cells (stA ps sp n cap) 30)).alloc (.cells Z 30) = V at A0 R0 B0 ⊢
    have fin : ∀ u, Below w.heap.size w u → Arr u (w.heap.size + 1) 30 Z → AfterPost (aR ps os (bzs es) nl m) (aE ps os nl m) w (.returned (.tuple #[.agg (stA zs none 0 0), .int .i64 2])) (u.setRow (w.heap.size + 1) Z) := fun u hb _ => AfterPost.no hno.out (below_setRow hb (by omega) _)
    cases hm : may ps n with
    | false =>
      rw [hm] at hmay
      clear hcase
      go_wp2_with (first
        | (refine atL 30 (.tmp 3) ?_; refine ld30 (by rfl) _ (by rfl) w.heap.size 30 (by rfl) ps sp n cap h1 h2 A0 ?_)
        | (go_at_call 24; go_must (refine (hmay _).mono ?_; rintro r w1 ⟨rfl, hb1⟩; have R1 := R0.below hb1 R0.lt; have B1 := B0.trans (hb1.mono B0.size)))
        | (refine atB 30 ?_; refine bdT (by rfl) 30 #[] (by rfl) (by rfl) hbz ?_)
        | (refine atS 30 (.tmp 6) (.tmp 21) ?_; refine wpList_store_arr (by rfl) 30 (.tmp 6) (.tmp 21) (by rfl) (w.heap.size + 1) Z (by rfl) (by rfl) 30 _ R1 hsz0 rfl hone ?_))
      have hZ0 := hZe.out
      have hf := fin w1 B1 R1
      subst hZ0
      exact bodyPost_ret (resE Try.results11 rfl rfl zs_len zs_l32 (R1.setRow _)) rfl hf
    | true =>
      rw [hm] at hmay
      by_cases hlt : m < 0
      · clear hcase
        go_wp2_with (first
          | (refine atL 30 (.tmp 3) ?_; refine ld30 (by rfl) _ (by rfl) w.heap.size 30 (by rfl) ps sp n cap h1 h2 A0 ?_)
          | (go_at_call 24; go_must (refine (hmay _).mono ?_; rintro r w1 ⟨rfl, hb1⟩; have R1 := R0.below hb1 R0.lt; have B1 := B0.trans (hb1.mono B0.size)))
          | (refine atB 30 ?_; refine bdT (by rfl) 30 #[] (by rfl) (by rfl) hbz ?_)
          | (refine atS 30 (.tmp 6) (.tmp 21) ?_; refine wpList_store_arr (by rfl) 30 (.tmp 6) (.tmp 21) (by rfl) (w.heap.size + 1) Z (by rfl) (by rfl) 30 _ R1 hsz0 rfl hone ?_))
        have hZ0 := hZe.out
        have hf := fin w1 B1 R1
        subst hZ0
        exact bodyPost_ret (resE Try.results11 rfl rfl zs_len zs_l32 (R1.setRow _)) rfl hf
      · have hgt : (nl : Int) < m := by
          rcases hcase with h | h | h
          · rw [hm] at h; cases h
          · exact absurd h hlt
          · exact h
        clear hcase
        go_wp2_with (first
          | (refine atL 30 (.tmp 3) ?_; refine ld30 (by rfl) _ (by rfl) w.heap.size 30 (by rfl) ps sp n cap h1 h2 A0 ?_)
          | (go_at_call 24; go_must (refine (hmay _).mono ?_; rintro r w1 ⟨rfl, hb1⟩; have R1 := R0.below hb1 R0.lt; have B1 := B0.trans (hb1.mono B0.size)))
          | (refine atB 30 ?_; refine bdT (by rfl) 30 #[] (by rfl) (by rfl) hbz ?_)
          | (refine atS 30 (.tmp 6) (.tmp 21) ?_; refine wpList_store_arr (by rfl) 30 (.tmp 6) (.tmp 21) (by rfl) (w.heap.size + 1) Z (by rfl) (by rfl) 30 _ R1 hsz0 rfl hone ?_))
        have hZ0 := hZe.out
        have hf := fin w1 B1 R1
        subst hZ0
        exact bodyPost_ret (resE Try.results11 rfl rfl zs_len zs_l32 (R1.setRow _)) rfl hf
  · obtain ⟨hm, hge, hle⟩ : may ps n = true ∧ 0 ≤ m ∧ m ≤ nl := ⟨by cases h : may ps n <;> simp_all, by omega, by omega⟩
    clear hcase
    obtain ⟨k, rfl⟩ : ∃ k : Nat, m = (k : Int) := ⟨m.toNat, by omega⟩
    have hkn : k ≤ nl := by omega
    rw [hm] at hmay
    have hm' : may ps os.length = true := by rw [← hnn.out]; exact hm
    have hn32 : n ≤ 32 := (may_sum hok.out).1 hm |>.2
    obtain ⟨-, ea, ee⟩ := aR_yes (Ls := bzs es) hm' hkn
    rw [ea, ee]
    have hrok := rnA_ok (Ls := bzs es) h1 hok.out hS.outs.ok hL.bts
    have hnl0 : ¬ (k : Int) < 0 := by omega
    have hnl1 : ¬ (nl : Int) < k := by omega
    have hLk := hL.take hkn (Nat.le_trans hkn hL.le) (Nat.le_refl _) (fun e => (hL.nil e).2)
    have hcut := Hid.mk' (fun u => run_cut sl nl cl k u hkn hL.le)
    clear hbz hsz0 hone hle hge
    generalize stA zs none 0 0 = Z at A0 R0 B0 hz30 hzsz
    go_enter Try.func11, Try.ntmps11
    go_upto_region 1 with fail
    generalize (w.alloc (.cells (stA ps sp n cap) 30)).alloc (.cells Z 30) = V at A0 R0 B0 ⊢
    go_upto_region 3 with (first
      | (refine atL 30 (.tmp 3) ?_; refine ld30 (by rfl) _ (by rfl) w.heap.size 30 (by rfl) ps sp n cap h1 h2 A0 ?_)
      | (go_at_call 24; go_must (refine (hmay _).mono ?_; rintro r w1 ⟨rfl, hb1⟩)))
    have A1 := (A0.below hb1 A0.lt).drew
    have R1 := (R0.below hb1 R0.lt).drew
    have B1 := (B0.trans (hb1.mono B0.size)).drew
    have hV := B0.size
    have hz1 : V.heap.size ≤ w1.drew.heap.size := hb1.size
    clear A0 R0 B0 hb1
    refine wp_region_held_drew (S := fun u => Arr u w.heap.size 30 (stA ps sp n cap)) (by kernel_rfl) A1 (fun hHeld => ?_)
    generalize w1.drew = W1 at *
    have hown := own_any ps w.heap.size sp n cap os W1 (hS.below B1) (by omega)
    refine wpAnyH_take (i := 0) (oi := ⟨_, _, _, _, _, _⟩) (v := ?_) rfl (by kernel_rfl) (by kernel_rfl) (by kernel_rfl) (fun _ _ _ h => h) (Or.inl ⟨by rfl, ?_⟩) (by assumption) ?_
    rotate_left
    · intro u hSw
      go_simp
      try (with_reducible rfl)
    try simp only [Act.put, List.setIfInBounds_toArray, List.set_cons_zero, List.set_cons_succ]
    refine wpAnyH_take (i := 1) (oi := ⟨_, _, _, _, _, _⟩) (v := ?_) rfl (by kernel_rfl) (by kernel_rfl) (by kernel_rfl) (fun _ _ _ h => h) (Or.inl ⟨by rfl, ?_⟩) (by assumption) ?_
    rotate_left
    · intro u hSw
      go_simp
      try (with_reducible rfl)
    try simp only [Act.put, List.setIfInBounds_toArray, List.set_cons_zero, List.set_cons_succ]
    refine wpAnyH_take (i := 2) (oi := ⟨_, _, _, _, _, _⟩) (v := .slice sl k cl) rfl (by kernel_rfl) (by kernel_rfl) (by kernel_rfl) (fun _ _ _ h => h) (Or.inl ⟨by rfl, fun u hSw => by simp [execOp, Act.eval, hcut.out]⟩) (by assumption) ?_
    try simp only [Act.put, List.setIfInBounds_toArray, List.set_cons_zero, List.set_cons_succ]
    refine wpAnyH_take (i := 3) (oi := ⟨_, _, _, _, _, _⟩) rfl (by kernel_rfl) (by kernel_rfl) (by kernel_rfl) (fun _ _ _ h => h) (y30 (by rfl) (.tmp 3) rfl w.heap.size 30 rfl ps sp n cap h1 h2 (fun u hu => hu)) (by assumption) ?_
    try simp only [Act.put, List.setIfInBounds_toArray, List.set_cons_zero, List.set_cons_succ]
    refine wpAnyH_ready (rs := [4]) (by kernel_rfl) (by simp) ?_
    refine AllReadyH.cons (o := ⟨_, _, _, _, _, _⟩) rfl (fun K hK => ?_) AllReadyH.nil
    go_simp
    refine hown.mono ?_
    rintro r w2 ⟨s2, c2, rfl, own2, hb2⟩
    have S2 : SS w2.heap.size w2 ps s2 n c2 os := ⟨hS.a32, hS.ok, os_own own2 hnn.out hns hS.outs.ok⟩
    have B2 := B1.trans (hb2.mono B1.size)
    have hfin := finS ps s2 n c2 os sl k cl (es.take k) w2 S2 ((hLk.below B2).mono B2.size)
    have A2 := A1.below hb2 A1.lt
    have R2 := R1.below hb2 R1.lt
    have hz2 := hb2.size
    have hR1lt := R1.lt
    go_wp2_with fail
    refine hK.out _ _ A2 (fun hHeld => ?_)
    clear hK K
    try simp only [Act.put, List.setIfInBounds_toArray, List.set_cons_zero, List.set_cons_succ]
    refine wpAnyH_ready (rs := [5]) (by kernel_rfl) (by simp) ?_
    refine AllReadyH.cons (o := ⟨_, _, _, _, _, _⟩) rfl (fun K hK => ?_) AllReadyH.nil
    go_simp
    refine (fold31_any sl k cl (stA ps s2 n c2) w2).mono ?_
    rintro r w3 ⟨rfl, he3⟩
    have hb3 : Below w2.heap.size w2 w3 := by rw [he3]; exact ((alloc_bel' w2 _).alloc (by simp) _).alloc (by simp; omega) _
    rw [← he3] at hfin
    have A3 := A2.below hb3 A2.lt
    have R3 := R2.below hb3 R2.lt
    clear he3
    go_wp2_with fail
    refine hK.out _ _ A3 (fun hHeld => ?_)
    clear hK K
    try simp only [Act.put, List.setIfInBounds_toArray, List.set_cons_zero, List.set_cons_succ]
    refine wpAnyH_ready (rs := [6]) (by kernel_rfl) (by simp) ?_
    refine AllReadyH.cons (o := ⟨_, _, _, _, _, _⟩) rfl (fun K hK => ?_) AllReadyH.nil
    go_simp
    refine hfin.mono ?_
    rintro r w4 ⟨C4, rfl, hT4, hb4⟩
    obtain ⟨s4, n4, c4, rfl, hR4⟩ := hT4
    have A4 := A2.below hb4 A2.lt
    have R4 := R2.below hb4 R2.lt
    have B4 := B2.trans (hb4.mono B2.size)
    have own4 := own_same own2 (fun b hb => hb4.block b (own_lt own2 hb))
    have hz4 := hb4.size
    rw [bzs_take, rnA_take ps os (bzs es) (Nat.le_refl k)] at hR4 ⊢
    go_wp2_with fail
    refine hK.out _ _ A4 (fun hHeld => ?_)
    clear hK K
    try simp only [Act.put, List.setIfInBounds_toArray, List.set_cons_zero, List.set_cons_succ]
    have hrn := hrok k
    have hq1 := (hrok k).a32
    have hq2 : ∀ a ∈ (rnA ps os (bzs es) k).P, a.lk.length = 32 := fun a ha => ((hrok k).ok a ha).l32
    refine wpAnyH_ready (rs := [7]) (by kernel_rfl) (by simp) ?_
    refine AllReadyH.cons (o := ⟨_, _, _, _, _, _⟩) rfl (fun K hK => ?_) AllReadyH.nil
    refine step_want rfl (wp_store_row 30 (.tmp 6) (.tmp 28) rfl (w.heap.size + 1) (stA (rnA ps os (bzs es) k).P s4 n4 c4) rfl rfl 30 _ R4 (by rw [stA_size hq1 hq2]; exact size30) (by rw [hzsz, stA_size hq1 hq2]) (stA_one _ _ _ _) ?_)
    refine hK.out _ _ (A4.setRowOther _ (by omega)) (fun hHeld => ?_)
    clear hK K
    try simp only [Act.put, List.setIfInBounds_toArray, List.set_cons_zero, List.set_cons_succ]
    refine wpAnyH_take (i := 8) (oi := ⟨_, _, _, _, _, _⟩) (v := ?_) rfl (by kernel_rfl) (by kernel_rfl) (by kernel_rfl) (fun _ _ _ h => h) (Or.inl ⟨by rfl, ?_⟩) (by assumption) ?_
    rotate_left
    · intro u hSw
      go_simp
      try (with_reducible rfl)
    try simp only [Act.put, List.setIfInBounds_toArray, List.set_cons_zero, List.set_cons_succ]
    refine wpAnyH_done (by kernel_rfl) ?_ _
    go_wp2_with fail
    have R6 := R4.setRow (stA (rnA ps os (bzs es) k).P s4 n4 c4)
    have hR6 := hR4.same (W' := w4.setRow (w.heap.size + 1) (stA (rnA ps os (bzs es) k).P s4 n4 c4)) (fun b hb _ => setRow_other _ _ _ _ (by omega))
    have own6 := own_same own4 (w' := w4.setRow (w.heap.size + 1) (stA (rnA ps os (bzs es) k).P s4 n4 c4)) (fun b hb => setRow_other _ _ _ _ (by have := own_ge own4 b hb; omega))
    have hst := SR.st (w := w) hR6 (by omega) hnn.out (by omega) (own_mono own6 (by omega)) hrn
    exact bodyPost_ret (resE Try.results11 rfl rfl hq1 hq2 R6) rfl ⟨s4, n4, c4, rfl, hst, below_setRow B4 (by omega) _⟩
end Go.Proofs.Ytbhhbkoikocjgaa
/- Layer spec: Flow. -/
namespace Go.Proofs.Ytbhhbkoikocjgaa
set_option linter.unusedSectionVars false
set_option maxHeartbeats 1000000
open Go.RowKit Go.Shelf
set_option maxRecDepth 100000
set_option linter.unusedVariables false
set_option linter.unusedSimpArgs false


variable [DecidableEq Ac] [DecidableEq Ou] [DecidableEq Mg]
theorem res3 {f : Func} {w : World} {tmps : Array Value} {t k l : Nat} {x v u : Value} (hf : f.results = #[.tmp t, .tmp k, .tmp l]) (hp : tmps.getD t undef = x) (hk : tmps.getD k undef = v) (hl : tmps.getD l undef = u) :
    (results f tmps).run Try.prog w = .ok (.tuple #[x, v, u]) w := by
  have hp' : tmps[t]?.getD undef = x := by simpa using hp
  have hk' : tmps[k]?.getD undef = v := by simpa using hk
  have hll : tmps[l]?.getD undef = u := by simpa using hl
  simp [results, hf, hp', hk', hll]

set_option maxHeartbeats 2000000 in
theorem flow_any (ps : List Ac) (N : Nat) (sp : Option Addr) (n cap : Nat) (os : List Ou) (sl : Option Addr) (nl cl Nl : Nat) (es : List Bz) (w : World) (hS : SS N w ps sp n cap os) (hL : BL Nl w sl nl cl es) (hNl : Nl ≤ w.heap.size) :
    Calls Try.prog 13 #[.agg (stA ps sp n cap), .slice sl nl cl] w fun r w' => r = .returned (.tuple #[.int .u64 (yR ps os (bzs es) nl).I, .int .u64 (yR ps os (bzs es) nl).U, .int .i64 (xE ps os)]) ∧ Below w.heap.size w w' := by
  have hL := hL.mono hNl
  have hS := hS.here
  have h1 := hS.a32.out
  have h2 := hS.l32
  have hok := hS.ok
  have hnn := hS.outs.len
  have hns := hS.outs.small
  have A0 := Arr.new w 30 (stA ps sp n cap)
  have B0 := alloc_bel' w (.cells (stA ps sp n cap) 30)
  have hmay := fun u => may_any ps sp n cap u h1 hok.out hns
  cases hm : may ps n with
  | false =>
    have hm' : may ps os.length = false := by rw [← hnn.out]; exact hm
    have e1 : yR ps os (bzs es) nl = ⟨zs, [], [], 0, 0⟩ := by unfold yR; rw [hm']; rfl
    have e2 : xE ps os = 2 := by unfold xE; rw [hm']; rfl
    rw [e1, e2]
    rw [hm] at hmay
    go_enter Try.func13, Try.ntmps13
    go_wp2_with (first
      | (refine atL 30 (.tmp 2) ?_; refine ld30 (by rfl) _ (by rfl) w.heap.size 30 (by rfl) ps sp n cap h1 h2 A0 ?_)
      | (go_at_call 24; go_must (refine (hmay _).mono ?_; rintro r w1 ⟨rfl, hb1⟩)))
    exact bodyPost_ret (res3 Try.results13 rfl rfl rfl) rfl ⟨rfl, B0.trans (hb1.mono B0.size)⟩
  | true =>
    have hm' : may ps os.length = true := by rw [← hnn.out]; exact hm
    rw [yR_yes hm', xE_yes hm']
    rw [hm] at hmay
    have hrok := rnA_ok (Ls := bzs es) h1 hok.out hS.outs.ok hL.bts
    have hz82 := zeroValue82N
    have hzs82 := zsize82
    generalize zero82N = Z9 at hz82 hzs82
    have hb82 := built82a (ps := ps) (sp := sp) (n := n) (cap := cap) h1 h2
    go_enter Try.func13, Try.ntmps13
    go_upto_region 1 with fail
    generalize w.alloc (.cells (stA ps sp n cap) 30) = V at A0 B0 ⊢
    go_upto_region 3 with (first
      | (refine atL 30 (.tmp 2) ?_; refine ld30 (by rfl) _ (by rfl) w.heap.size 30 (by rfl) ps sp n cap h1 h2 A0 ?_)
      | (go_at_call 24; go_must (refine (hmay _).mono ?_; rintro r w1 ⟨rfl, hb1⟩)))
    have A1 := A0.below hb1 A0.lt
    have B1 := B0.trans (hb1.mono B0.size)
    have hfin := finF ps sp n cap os sl nl cl es w1 ((hS.below B1).mono B1.size) ((hL.below B1).mono B1.size)
    clear A0 B0 hb1
    go_upto_region 4 with (first
      | (refine atL 30 (.tmp 2) ?_; refine ld30 (by rfl) _ (by rfl) w.heap.size 30 (by rfl) ps sp n cap h1 h2 A1 ?_)
      | (refine atB 82 ?_; refine bdT (by rfl) 82 #[(0, .tmp 12)] (by rfl) (by rfl) hb82 ?_)
      | (go_at_call 34; go_must (refine (fold34_any sl nl cl (flA ps sp n cap 0 0) w1).mono ?_; rintro r w3 ⟨rfl, rfl⟩))
      | (go_at_call 33; go_must (refine hfin.mono ?_; rintro r w4 ⟨C4, rfl, hT4, hb4⟩; obtain ⟨s4, n4, c4, rfl, hR4⟩ := hT4))
      | (refine atS 82 (.tmp 7) (.tmp 15) ?_; refine stBn (by rfl) 82 1091 _ _ (by rfl) w4 w4.heap.size 82 rfl (flA (rnA ps os (bzs es) nl).P s4 n4 c4 (rnA ps os (bzs es) nl).I (rnA ps os (bzs es) nl).U) (by rfl) (by rfl) (flA_size (hrok nl).a32 (fun a ha => ((hrok nl).ok a ha).l32)) (flA_one _ _ _ _ _ _) hzs82 size82N ?_))
    have hq1 := (hrok nl).a32
    have hq2 : ∀ a ∈ (rnA ps os (bzs es) nl).P, a.lk.length = 32 := fun a ha => ((hrok nl).ok a ha).l32
    have B4 := B1.trans (hb4.mono B1.size)
    have A5 := (Arr.new w4 82 (flA (rnA ps os (bzs es) nl).P s4 n4 c4 (rnA ps os (bzs es) nl).I (rnA ps os (bzs es) nl).U)).drew
    have B5 := (B4.alloc B4.size (.cells (flA (rnA ps os (bzs es) nl).P s4 n4 c4 (rnA ps os (bzs es) nl).I (rnA ps os (bzs es) nl).U) 82)).drew
    clear hb4 hR4 hrok
    generalize hre : rnA ps os (bzs es) nl = R at *
    replace hre := Hid.mk' hre
    refine wp_region_held_drew (S := fun u => Arr u w4.heap.size 82 (flA R.P s4 n4 c4 R.I R.U)) (by kernel_rfl) A5 (fun hHeld => ?_)
    generalize (w4.alloc (.cells (flA R.P s4 n4 c4 R.I R.U) 82)).drew = W5 at *
    generalize w4.heap.size = G4 at *
    refine wpAnyH_take (i := 0) (oi := ⟨_, _, _, _, _, _⟩) (v := ?_) rfl (by kernel_rfl) (by kernel_rfl) (by kernel_rfl) (fun _ _ _ h => h) (Or.inl ⟨by rfl, ?_⟩) (by assumption) ?_
    rotate_left
    · intro u hSw
      go_simp
      try (with_reducible rfl)
    try simp only [Act.put, List.setIfInBounds_toArray, List.set_cons_zero, List.set_cons_succ]
    refine wpAnyH_take (i := 1) (oi := ⟨_, _, _, _, _, _⟩) (v := ?_) rfl (by kernel_rfl) (by kernel_rfl) (by kernel_rfl) (fun _ _ _ h => h) (Or.inl ⟨by rfl, ?_⟩) (by assumption) ?_
    rotate_left
    · intro u hSw
      have cc := Arr.flI hSw hq1 hq2
      go_simp
      try (with_reducible rfl)
    try simp only [Act.put, List.setIfInBounds_toArray, List.set_cons_zero, List.set_cons_succ]
    refine wpAnyH_take (i := 2) (oi := ⟨_, _, _, _, _, _⟩) (v := ?_) rfl (by kernel_rfl) (by kernel_rfl) (by kernel_rfl) (fun _ _ _ h => h) (Or.inl ⟨by rfl, ?_⟩) (by assumption) ?_
    rotate_left
    · intro u hSw
      go_simp
      try (with_reducible rfl)
    try simp only [Act.put, List.setIfInBounds_toArray, List.set_cons_zero, List.set_cons_succ]
    refine wpAnyH_take (i := 3) (oi := ⟨_, _, _, _, _, _⟩) (v := ?_) rfl (by kernel_rfl) (by kernel_rfl) (by kernel_rfl) (fun _ _ _ h => h) (Or.inl ⟨by rfl, ?_⟩) (by assumption) ?_
    rotate_left
    · intro u hSw
      have cc := Arr.flU hSw hq1 hq2
      go_simp
      try (with_reducible rfl)
    try simp only [Act.put, List.setIfInBounds_toArray, List.set_cons_zero, List.set_cons_succ]
    refine wpAnyH_take (i := 4) (oi := ⟨_, _, _, _, _, _⟩) (v := ?_) rfl (by kernel_rfl) (by kernel_rfl) (by kernel_rfl) (fun _ _ _ h => h) (Or.inl ⟨by rfl, ?_⟩) (by assumption) ?_
    rotate_left
    · intro u hSw
      go_simp
      try (with_reducible rfl)
    try simp only [Act.put, List.setIfInBounds_toArray, List.set_cons_zero, List.set_cons_succ]
    refine wpAnyH_take (i := 5) (oi := ⟨_, _, _, _, _, _⟩) (v := ?_) rfl (by kernel_rfl) (by kernel_rfl) (by kernel_rfl) (fun _ _ _ h => h) (Or.inl ⟨by rfl, ?_⟩) (by assumption) ?_
    rotate_left
    · intro u hSw
      go_simp
      try (with_reducible rfl)
    try simp only [Act.put, List.setIfInBounds_toArray, List.set_cons_zero, List.set_cons_succ]
    refine wpAnyH_take (i := 6) (oi := ⟨_, _, _, _, _, _⟩) (v := ?_) rfl (by kernel_rfl) (by kernel_rfl) (by kernel_rfl) (fun _ _ _ h => h) (Or.inl ⟨by rfl, ?_⟩) (by assumption) ?_
    rotate_left
    · intro u hSw
      go_simp
      try (with_reducible rfl)
    try simp only [Act.put, List.setIfInBounds_toArray, List.set_cons_zero, List.set_cons_succ]
    refine wpAnyH_done (by kernel_rfl) ?_ _
    go_wp2_with fail
    have hre0 := hre.out
    clear hre
    subst hre0
    exact bodyPost_ret (v := .tuple #[.int .u64 (rnA ps os (bzs es) nl).I, .int .u64 (rnA ps os (bzs es) nl).U, .int .i64 0]) (res3 Try.results13 rfl rfl rfl) rfl ⟨rfl, B5⟩
end Go.Proofs.Ytbhhbkoikocjgaa
