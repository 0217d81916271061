/- Nl, NkC. -/
import Derived.Test.YtbhhbkoikocjgaaX32
import Derived.Test.YtbhhbkoikocjgaaX24
import Derived.Test.YtbhhbkoikocjgaaX26
import Derived.Test.YtbhhbkoikocjgaaX15
/- Layer spec: the Run of the document. -/
namespace Go.Proofs.Ytbhhbkoikocjgaa
set_option linter.unusedSectionVars false
set_option maxHeartbeats 1000000
open Go.RowKit Go.Shelf
set_option maxRecDepth 100000
set_option linter.unusedVariables false
set_option linter.unusedSimpArgs false


variable [DecidableEq Ac] [DecidableEq Ou] [DecidableEq Mg]
theorem ap4 {ops : Array Oper} {rest : List Oper} {o : Oper} {a : Act} {w : World} {Q : Exit → Act → World → Prop} (hgd : o.guard = none) (s x : Operand) (ho : o.op = .call { callee := .builtin .append, args := #[s, x], argTypes := #[32, 32] })
    (base : Nat) (v : Value) (k : Nat) (D : List Bool) (hs : a.eval s = v) (hown : w.ownsRow base 4 1 v k (bls D)) (g : Nat) (d : Bool) (hx : a.eval x = .slice (some ⟨g, 0, none⟩) 1 1) (hg : Arr w g 4 #[.bool d]) (hk : k + 1 ≤ 140737488355328) (hb : base ≤ w.heap.size)
    (h : ∀ v' w', w'.ownsRow base 4 1 v' (k + 1) (bls (D ++ [d])) → w.grownBy w' v.ownBlock → wpList Try.prog ops Q rest (a.put o.dst v') w') : wpList Try.prog ops Q (o :: rest) a w :=
  wpList_plain hgd fun _ hK => wp_ap4 s x ho base v k D hs hown g d hx hg hk hb fun v' w' h1 h2 => hK _ _ (h v' w' h1 h2)
/-- What stands in the rounds of the document's Run. -/
structure RI (ps : List Ac) (os : List Ou) (Ls : List (List Int)) (s0 : Option Addr) (n0 c0 : Nat) (Z : Array Value) (w : World) (j : Nat) (sd : Option Addr) (cd : Nat) (W : World) : Prop where
  bel : Below w.heap.size w W
  sz : w.heap.size + 2 ≤ W.heap.size
  st : ∃ s n c, Arr W w.heap.size 30 (stA (rnA ps os Ls j).P s n c) ∧ SR (w.heap.size + 2) s0 n0 c0 j (rnA ps os Ls j).O s n c W
  res : Arr W (w.heap.size + 1) 30 Z
  row : W.ownsRow (w.heap.size + 2) 4 1 (.slice sd j cd) j (bls (rnA ps os Ls j).D)

set_option maxHeartbeats 4000000 in
theorem refRun_any (ps : List Ac) (N : Nat) (sp : Option Addr) (n cap : Nat) (os : List Ou) (sl : Option Addr) (nl cl Nl : Nat) (es : List Bz) (w : World) (hS : SS N w ps sp n cap os) (hL : BL Nl w sl nl cl es) (hNl : Nl ≤ w.heap.size) :
    Calls Try.prog 9 #[.agg (stA ps sp n cap), .slice sl nl cl] w (RunPost (yR ps os (bzs es) nl) (xE ps os) w) := by
  have hL := hL.mono hNl
  have hS := hS.here
  have h1 := hS.a32.out
  have h2 := hS.l32
  have hok := hS.ok
  have hnn := hS.outs.len
  have hns := hS.outs.small
  have A0 := (Arr.new w 30 (stA ps sp n cap)).alloc (.cells (stA zs none 0 0) 30)
  have R0 : Arr ((w.alloc (.cells (stA ps sp n cap) 30)).alloc (.cells (stA zs none 0 0) 30)) (w.heap.size + 1) 30 (stA zs none 0 0) := by simpa using Arr.new (w.alloc (.cells (stA ps sp n cap) 30)) 30 (stA zs none 0 0)
  have B0 := (alloc_bel' w (.cells (stA ps sp n cap) 30)).alloc (by simp) (.cells (stA zs none 0 0) 30)
  have hz30 := zeroValue30
  have hzsz : (stA zs none 0 0).size = 1089 := stA_size zs_len zs_l32
  have hbz := built30z
  have hsz0 : (Try.prog.info? 30).map (·.size) = some (stA zs none 0 0).size := by rw [hzsz]; exact size30
  have hone := stA_one zs none 0 0
  have hmay := fun u => refMay_any ps sp n cap u h1 hok.out hns
  cases hm : may ps n with
  | false =>
    have hm' : may ps os.length = false := by rw [← hnn.out]; exact hm
    rw [hm] at hmay
    generalize hZe : stA zs none 0 0 = Z at A0 R0 B0 hz30 hzsz hbz hsz0 hone
    go_enter Try.func9, Try.ntmps9
    go_upto_region 1 with fail
    generalize (w.alloc (.cells (stA ps sp n cap) 30)).alloc (.cells Z 30) = V at A0 R0 B0 ⊢
    go_wp2_with (first
      | (refine atL 30 (.tmp 2) ?_; refine ld30 (by rfl) _ (by rfl) w.heap.size 30 (by rfl) ps sp n cap h1 h2 A0 ?_)
      | (go_at_call 19; go_must (refine (hmay _).mono ?_; rintro r w1 ⟨rfl, hb1⟩; have R1 := R0.below hb1 R0.lt; have B1 := B0.trans (hb1.mono B0.size)))
      | (refine atB 30 ?_; refine bdT (by rfl) 30 #[] (by rfl) (by rfl) hbz ?_)
      | (refine atS 30 (.tmp 4) (.tmp 15) ?_; refine wpList_store_arr (by rfl) 30 (.tmp 4) (.tmp 15) (by rfl) (w.heap.size + 1) Z (by rfl) (by rfl) 30 _ R1 hsz0 rfl hone ?_))
    subst hZe
    exact bodyPost_ret (resD Try.results9 rfl rfl rfl zs_len zs_l32 (R1.setRow _)) rfl (RunPost.no hm' (below_setRow B1 (by omega) _))
  | true =>
    have hm' : may ps os.length = true := by rw [← hnn.out]; exact hm
    have hn32 : n ≤ 32 := (may_sum hok.out).1 hm |>.2
    rw [hm] at hmay
    have hrok := rnA_ok (Ls := bzs es) h1 hok.out hS.outs.ok hL.bts
    rw [yR_yes hm', xE_yes hm']
    clear hbz hsz0 hone
    generalize stA zs none 0 0 = Z at A0 R0 B0 hz30 hzsz
    have hrD := Hid.mk' (rnA_D (ps := ps) (os := os) (Ls := bzs es) nl (by rw [bzs_len, hL.len.out]; exact Nat.le_refl _))
    have hsm := hL.small
    have hnlI : (nl : Int) ≤ 9223372036854775807 := by omega
    go_enter Try.func9, Try.ntmps9
    go_upto_region 1 with fail
    have hs2V : w.heap.size + 2 ≤ ((w.alloc (.cells (stA ps sp n cap) 30)).alloc (.cells Z 30)).heap.size := by simp
    generalize (w.alloc (.cells (stA ps sp n cap) 30)).alloc (.cells Z 30) = V at A0 R0 B0 hs2V ⊢
    go_upto_region 3 with (first
      | (refine atL 30 (.tmp 2) ?_; refine ld30 (by rfl) _ (by rfl) w.heap.size 30 (by rfl) ps sp n cap h1 h2 A0 ?_)
      | (go_at_call 19; go_must (refine (hmay _).mono ?_; rintro r w1 ⟨rfl, hb1⟩)))
    have A1 := A0.below hb1 A0.lt
    have R1 := R0.below hb1 R0.lt
    have B1 := B0.trans (hb1.mono B0.size)
    have hz1 := hb1.size
    have hRI0 : RI ps os (bzs es) sp n cap Z w 0 none 0 w1 := ⟨B1, by omega, ⟨sp, n, cap, A1, .inl ⟨rfl, rfl, rfl, rfl⟩⟩, R1, World.ownsRow_nil _ _ _ _⟩
    clear A0 R0 B0 hb1 A1 R1 B1 hz1
    go_upto_region 5 with fail
    go_loopw [7, 8] (fun v d wr => ∃ (j : Nat) (sd : Option Addr) (cd : Nat), v = .slice sd j cd ∧ d = .int .i64 (j : Int) ∧ j ≤ nl ∧ RI ps os (bzs es) sp n cap Z w j sd cd wr) (fun _ d _ => nl - (intOf d).toNat)
    case atStart => exact ⟨0, none, 0, rfl, rfl, by omega, hRI0⟩
    case round =>
      obtain ⟨j, sd, cd, rfl, rfl, hj, hRI⟩ := hrel
      clear hRI0
      by_cases hlt : j < nl
      · have hI : (j : Int) < nl := by omega
        obtain ⟨hbel, hsz, ⟨s, m, c, hA, hSR⟩, hRes, hRow⟩ := hRI
        have hLr := hL.below hbel
        have hlr := hLr.len
        obtain ⟨g, off, e, rfl, he, hce, hBe⟩ := hLr.get hlt
        have hSS := hSR.ss ((hS.below hbel).mono (by omega)) (hrok j)
        have hBS := hBe.mono hbel.size
        have hce0 := hce
        have hgw : g < w.heap.size := by obtain ⟨g', off', e', hg', -⟩ := hL.at0 (by omega); cases e'; exact hg'
        have hstep := Hid.mk' (rnA_succ (ps := ps) (os := os) (bzs_get he))
        have hp1 := (hrok j).a32
        have hp2 : ∀ a ∈ (rnA ps os (bzs es) j).P, a.lk.length = 32 := fun a ha => ((hrok j).ok a ha).l32
        have hD := Hid.mk' (fun u h h' => refDelta_x (rnA ps os (bzs es) j).P wr.heap.size s m c (rnA ps os (bzs es) j).O e.sp e.n e.cap e.bs wr.heap.size u h h')
        unfold DX at hD
        obtain ⟨hq1, hq3, -⟩ := xP_ok (os := (rnA ps os (bzs es) j).O) hBe.bts hp1 (hrok j).ok (hrok j).ou
        have hq2 : ∀ a ∈ xP (rnA ps os (bzs es) j).P (rnA ps os (bzs es) j).O e.bs, a.lk.length = 32 := fun a ha => (hq3 a ha).l32
        have hst1 : Hid ((rnA ps os (bzs es) (j + 1)).P = xP (rnA ps os (bzs es) j).P (rnA ps os (bzs es) j).O e.bs ∧ (rnA ps os (bzs es) (j + 1)).O = xO (rnA ps os (bzs es) j).P (rnA ps os (bzs es) j).O e.bs ∧ (rnA ps os (bzs es) (j + 1)).D = (rnA ps os (bzs es) j).D ++ [xD (rnA ps os (bzs es) j).P (rnA ps os (bzs es) j).O e.bs]) := Hid.mk' (by rw [hstep.out]; exact ⟨rfl, rfl, rfl⟩)
        have hxo := xO_len (rnA ps os (bzs es) j).P (rnA ps os (bzs es) j).O e.bs
        clear hstep he hBe hce
        generalize xP (rnA ps os (bzs es) j).P (rnA ps os (bzs es) j).O e.bs = Q at *
        generalize xO (rnA ps os (bzs es) j).P (rnA ps os (bzs es) j).O e.bs = O at *
        generalize xD (rnA ps os (bzs es) j).P (rnA ps os (bzs es) j).O e.bs = d at *
        generalize xE (rnA ps os (bzs es) j).P (rnA ps os (bzs es) j).O = ee at *
        generalize rnA ps os (bzs es) j = r at *
        go_upto_region 7 with fail
        go_cut [9, 10, 11] from 16 to 36 (fun x y z wc => ∃ gt s1 n1 c1, (x = .pointer (some ⟨gt, 0, none⟩) ∧ y = .bool d ∧ z = .int .i64 ee) ∧ wr.heap.size ≤ gt ∧ Arr wc gt 30 (stA Q s1 n1 c1) ∧ Hid (n1 = O.length) ∧ wc.ownsRow wr.heap.size 66 2 (.slice s1 n1 c1) n1 (ouF O) ∧ Below wr.heap.size wr wc)
        case first =>
          refine wp_region_held_drew (S := fun u => Below wr.heap.size wr u) (by kernel_rfl) ((Below.refl _ _).drew) (fun hHeld => ?_)
          refine wpAnyH_take (i := 0) (oi := ⟨_, _, _, _, _, _⟩) rfl (by kernel_rfl) (by kernel_rfl) (by kernel_rfl) (fun _ _ _ h => h) (y30 (by rfl) (.tmp 2) rfl w.heap.size 30 rfl r.P s m c hp1 hp2 (fun u hu => hA.below hu hA.lt)) (by assumption) ?_
          try simp only [Act.put, List.setIfInBounds_toArray, List.set_cons_zero, List.set_cons_succ]
          refine wpAnyH_take (i := 1) (oi := ⟨_, _, _, _, _, _⟩) (v := ?_) rfl (by kernel_rfl) (by kernel_rfl) (by kernel_rfl) (fun _ _ _ h => h) (Or.inl ⟨by rfl, ?_⟩) (by assumption) ?_
          rotate_left
          · intro u hSw
            go_simp
            try (with_reducible rfl)
          try simp only [Act.put, List.setIfInBounds_toArray, List.set_cons_zero, List.set_cons_succ]
          refine wpAnyH_take (i := 2) (oi := ⟨_, _, _, _, _, _⟩) (v := ?_) rfl (by kernel_rfl) (by kernel_rfl) (by kernel_rfl) (fun _ _ _ h => h) (Or.inl ⟨by rfl, ?_⟩) (by assumption) ?_
          rotate_left
          · intro u hSw
            go_simp
            try (with_reducible rfl)
          try simp only [Act.put, List.setIfInBounds_toArray, List.set_cons_zero, List.set_cons_succ]
          refine wpAnyH_take (i := 3) (oi := ⟨_, _, _, _, _, _⟩) (v := ?_) rfl (by kernel_rfl) (by kernel_rfl) (by kernel_rfl) (fun _ _ _ h => h) (Or.inl ⟨by rfl, ?_⟩) (by assumption) ?_
          rotate_left
          · intro u hSw
            have cc := (hSw.cell (p := ⟨g, off + j, none⟩) (by show g < _; omega)).trans hce0
            go_simp
            try (with_reducible rfl)
          try simp only [Act.put, List.setIfInBounds_toArray, List.set_cons_zero, List.set_cons_succ]
          refine wpAnyH_take (i := 4) (oi := ⟨_, _, _, _, _, _⟩) (v := ?_) rfl (by kernel_rfl) (by kernel_rfl) (by kernel_rfl) (fun _ _ _ h => h) (Or.inl ⟨by rfl, ?_⟩) (by assumption) ?_
          rotate_left
          · intro u hSw
            have cc := (hSw.cell (p := ⟨g, off + j, none⟩) (by show g < _; omega)).trans hce0
            go_simp
            try (with_reducible rfl)
          try simp only [Act.put, List.setIfInBounds_toArray, List.set_cons_zero, List.set_cons_succ]
          refine wpAnyH_ready (rs := [5, 10]) (by kernel_rfl) (by simp) ?_
          refine AllReadyH.cons (o := ⟨_, _, _, _, _, _⟩) rfl (fun K hK => ?_) (AllReadyH.cons (o := ⟨_, _, _, _, _, _⟩) rfl (fun K hK => ?_) AllReadyH.nil)
          · go_simp
            have hB0 : Below wr.heap.size wr wr.drew := (Below.refl _ _).drew
            refine (hD.out wr.drew (hSS.below hB0) (hBS.below hB0)).mono ?_
            rintro r u1 ⟨s1, n1, c1, rfl, hSu, own1, hb1⟩
            have hn1 := hSu.outs.len
            have hB1 := hB0.trans (hb1.mono hB0.size)
            go_wp2_with fail
            refine hK.out _ _ hB1 (fun hHeld => ?_)
            clear hK K
            try simp only [Act.put, List.setIfInBounds_toArray, List.set_cons_zero, List.set_cons_succ]
            refine wpAnyH_take (i := 6) (oi := ⟨_, _, _, _, _, _⟩) (v := ?_) rfl (by kernel_rfl) (by kernel_rfl) (by kernel_rfl) (fun _ _ _ h => h) (Or.inl ⟨by rfl, ?_⟩) (by assumption) ?_
            rotate_left
            · intro u hSw
              go_simp
              try (with_reducible rfl)
            try simp only [Act.put, List.setIfInBounds_toArray, List.set_cons_zero, List.set_cons_succ]
            refine wpAnyH_take (i := 7) (oi := ⟨_, _, _, _, _, _⟩) (v := ?_) rfl (by kernel_rfl) (by kernel_rfl) (by kernel_rfl) (fun _ _ _ h => h) (Or.inl ⟨by rfl, ?_⟩) (by assumption) ?_
            rotate_left
            · intro u hSw
              go_simp
              try (with_reducible rfl)
            try simp only [Act.put, List.setIfInBounds_toArray, List.set_cons_zero, List.set_cons_succ]
            refine wpAnyH_take (i := 8) (oi := ⟨_, _, _, _, _, _⟩) (v := ?_) rfl (by kernel_rfl) (by kernel_rfl) (by kernel_rfl) (fun _ _ _ h => h) (Or.inl ⟨by rfl, ?_⟩) (by assumption) ?_
            rotate_left
            · intro u hSw
              go_simp
              try (with_reducible rfl)
            try simp only [Act.put, List.setIfInBounds_toArray, List.set_cons_zero, List.set_cons_succ]
            refine wpAnyH_take (i := 9) (oi := ⟨_, _, _, _, _, _⟩) (v := ?_) rfl (by kernel_rfl) (by kernel_rfl) (by kernel_rfl) (fun _ _ _ h => h) (Or.inl ⟨by rfl, ?_⟩) (by assumption) ?_
            rotate_left
            · intro u hSw
              go_simp
              try (with_reducible rfl)
            try simp only [Act.put, List.setIfInBounds_toArray, List.set_cons_zero, List.set_cons_succ]
            refine wpAnyH_ready (rs := [10]) (by kernel_rfl) (by simp) ?_
            refine AllReadyH.cons (o := ⟨_, _, _, _, _, _⟩) rfl (fun K hK => ?_) AllReadyH.nil
            have hB2 := hB1.alloc hB1.size (.cells Z 30)
            have hA2 := Arr.new u1 30 Z
            have hw2 := own1.alloc (.cells Z 30)
            go_simp
            go_wp2_with fail
            refine hK.out _ _ hB2 (fun hHeld => ?_)
            clear hK K
            try simp only [Act.put, List.setIfInBounds_toArray, List.set_cons_zero, List.set_cons_succ]
            refine wpAnyH_ready (rs := [11]) (by kernel_rfl) (by simp) ?_
            refine AllReadyH.cons (o := ⟨_, _, _, _, _, _⟩) rfl (fun K hK => ?_) AllReadyH.nil
            refine step_want rfl (wp_store_row 30 (.tmp 9) (.tmp 29) rfl u1.heap.size (stA Q s1 n1 c1) rfl rfl 30 _ hA2 (by rw [stA_size hq1 hq2]; exact size30) (by rw [hzsz, stA_size hq1 hq2]) (stA_one _ _ _ _) ?_)
            have hB3 := below_setRow hB2 hB1.size (stA Q s1 n1 c1)
            have hA3 := hA2.setRow (stA Q s1 n1 c1)
            have hw3 := own_same hw2 (w' := (u1.alloc (.cells Z 30)).setRow u1.heap.size (stA Q s1 n1 c1)) (fun b hb => setRow_other _ _ _ _ (by have := own_lt own1 hb; omega))
            refine hK.out _ _ hB3 (fun hHeld => ?_)
            clear hK K
            try simp only [Act.put, List.setIfInBounds_toArray, List.set_cons_zero, List.set_cons_succ]
            refine wpAnyH_take (i := 12) (oi := ⟨_, _, _, _, _, _⟩) (v := ?_) rfl (by kernel_rfl) (by kernel_rfl) (by kernel_rfl) (fun _ _ _ h => h) (Or.inl ⟨by rfl, ?_⟩) (by assumption) ?_
            rotate_left
            · intro u hSw
              go_simp
              try (with_reducible rfl)
            try simp only [Act.put, List.setIfInBounds_toArray, List.set_cons_zero, List.set_cons_succ]
            refine wpAnyH_take (i := 13) (oi := ⟨_, _, _, _, _, _⟩) (v := ?_) rfl (by kernel_rfl) (by kernel_rfl) (by kernel_rfl) (fun _ _ _ h => h) (Or.inl ⟨by rfl, ?_⟩) (by assumption) ?_
            rotate_left
            · intro u hSw
              go_simp
              try (with_reducible rfl)
            try simp only [Act.put, List.setIfInBounds_toArray, List.set_cons_zero, List.set_cons_succ]
            refine wpAnyH_done (by kernel_rfl) ?_ _
            go_wp2_with fail
            go_meet
            exact ⟨_, s1, n1, c1, ⟨rfl, rfl, rfl⟩, hB1.size, hA3, hn1, own_mono hw3 hB0.size, hB3⟩
          · go_simp
            go_wp2_with fail
            have hB0 : Below wr.heap.size wr (wr.drew.alloc (.cells Z 30)) := ((Below.refl wr.heap.size wr).drew).alloc (by simp) _
            have hA0 : Arr (wr.drew.alloc (.cells Z 30)) wr.heap.size 30 Z := Arr.new wr.drew 30 Z
            refine hK.out _ _ hB0 (fun hHeld => ?_)
            clear hK K
            try simp only [Act.put, List.setIfInBounds_toArray, List.set_cons_zero, List.set_cons_succ]
            refine wpAnyH_ready (rs := [5]) (by kernel_rfl) (by simp) ?_
            refine AllReadyH.cons (o := ⟨_, _, _, _, _, _⟩) rfl (fun K hK => ?_) AllReadyH.nil
            go_simp
            refine (hD.out (wr.drew.alloc (.cells Z 30)) (hSS.below hB0) (hBS.below hB0)).mono ?_
            rintro r u1 ⟨s1, n1, c1, rfl, hSu, own1, hb1⟩
            have hn1 := hSu.outs.len
            have hB1 := hB0.trans (hb1.mono hB0.size)
            have hA1 := hA0.below hb1 hA0.lt
            have hgV : wr.heap.size < (wr.drew.alloc (.cells Z 30)).heap.size := by simp
            go_wp2_with fail
            refine hK.out _ _ hB1 (fun hHeld => ?_)
            clear hK K
            try simp only [Act.put, List.setIfInBounds_toArray, List.set_cons_zero, List.set_cons_succ]
            refine wpAnyH_take (i := 6) (oi := ⟨_, _, _, _, _, _⟩) (v := ?_) rfl (by kernel_rfl) (by kernel_rfl) (by kernel_rfl) (fun _ _ _ h => h) (Or.inl ⟨by rfl, ?_⟩) (by assumption) ?_
            rotate_left
            · intro u hSw
              go_simp
              try (with_reducible rfl)
            try simp only [Act.put, List.setIfInBounds_toArray, List.set_cons_zero, List.set_cons_succ]
            refine wpAnyH_take (i := 7) (oi := ⟨_, _, _, _, _, _⟩) (v := ?_) rfl (by kernel_rfl) (by kernel_rfl) (by kernel_rfl) (fun _ _ _ h => h) (Or.inl ⟨by rfl, ?_⟩) (by assumption) ?_
            rotate_left
            · intro u hSw
              go_simp
              try (with_reducible rfl)
            try simp only [Act.put, List.setIfInBounds_toArray, List.set_cons_zero, List.set_cons_succ]
            refine wpAnyH_take (i := 8) (oi := ⟨_, _, _, _, _, _⟩) (v := ?_) rfl (by kernel_rfl) (by kernel_rfl) (by kernel_rfl) (fun _ _ _ h => h) (Or.inl ⟨by rfl, ?_⟩) (by assumption) ?_
            rotate_left
            · intro u hSw
              go_simp
              try (with_reducible rfl)
            try simp only [Act.put, List.setIfInBounds_toArray, List.set_cons_zero, List.set_cons_succ]
            refine wpAnyH_take (i := 9) (oi := ⟨_, _, _, _, _, _⟩) (v := ?_) rfl (by kernel_rfl) (by kernel_rfl) (by kernel_rfl) (fun _ _ _ h => h) (Or.inl ⟨by rfl, ?_⟩) (by assumption) ?_
            rotate_left
            · intro u hSw
              go_simp
              try (with_reducible rfl)
            try simp only [Act.put, List.setIfInBounds_toArray, List.set_cons_zero, List.set_cons_succ]
            refine wpAnyH_ready (rs := [11]) (by kernel_rfl) (by simp) ?_
            refine AllReadyH.cons (o := ⟨_, _, _, _, _, _⟩) rfl (fun K hK => ?_) AllReadyH.nil
            refine step_want rfl (wp_store_row 30 (.tmp 9) (.tmp 29) rfl wr.heap.size (stA Q s1 n1 c1) rfl rfl 30 _ hA1 (by rw [stA_size hq1 hq2]; exact size30) (by rw [hzsz, stA_size hq1 hq2]) (stA_one _ _ _ _) ?_)
            have hB3 := below_setRow hB1 (Nat.le_refl _) (stA Q s1 n1 c1)
            have hA3 := hA1.setRow (stA Q s1 n1 c1)
            have hw3 := own_same own1 (w' := u1.setRow wr.heap.size (stA Q s1 n1 c1)) (fun b hb => setRow_other _ _ _ _ (by have := own_ge own1 b hb; omega))
            refine hK.out _ _ hB3 (fun hHeld => ?_)
            clear hK K
            try simp only [Act.put, List.setIfInBounds_toArray, List.set_cons_zero, List.set_cons_succ]
            refine wpAnyH_take (i := 12) (oi := ⟨_, _, _, _, _, _⟩) (v := ?_) rfl (by kernel_rfl) (by kernel_rfl) (by kernel_rfl) (fun _ _ _ h => h) (Or.inl ⟨by rfl, ?_⟩) (by assumption) ?_
            rotate_left
            · intro u hSw
              go_simp
              try (with_reducible rfl)
            try simp only [Act.put, List.setIfInBounds_toArray, List.set_cons_zero, List.set_cons_succ]
            refine wpAnyH_take (i := 13) (oi := ⟨_, _, _, _, _, _⟩) (v := ?_) rfl (by kernel_rfl) (by kernel_rfl) (by kernel_rfl) (fun _ _ _ h => h) (Or.inl ⟨by rfl, ?_⟩) (by assumption) ?_
            rotate_left
            · intro u hSw
              go_simp
              try (with_reducible rfl)
            try simp only [Act.put, List.setIfInBounds_toArray, List.set_cons_zero, List.set_cons_succ]
            refine wpAnyH_done (by kernel_rfl) ?_ _
            go_wp2_with fail
            go_meet
            exact ⟨_, s1, n1, c1, ⟨rfl, rfl, rfl⟩, Nat.le_refl _, hA3, hn1, own_mono hw3 hB0.size, hB3⟩
        case rest =>
          obtain ⟨gt, s1, n1, c1, ⟨rfl, rfl, rfl⟩, hgt, T1, hn1, own1, hbc⟩ := hcut
          have hzc := hbc.size
          have A2 := hA.below hbc hA.lt
          have Rs2 := hRes.below hbc hRes.lt
          have B2 := hbel.trans (hbc.mono hbel.size)
          have Row2 := own_same hRow (fun b hb => hbc.block b (own_lt hRow hb))
          clear hA hRes hbel hRow hD hSS hBS hSR hbc
          have hsq : (stA Q s1 n1 c1).size = 1089 := stA_size hq1 hq2
          have A3 := A2.setRow (stA Q s1 n1 c1)
          have Rs3 := Rs2.setRowOther (k := w.heap.size) (stA Q s1 n1 c1) (by omega)
          have B3 := below_setRow B2 (Nat.le_refl _) (stA Q s1 n1 c1)
          have own3 := own_same own1 (w' := wc.setRow w.heap.size (stA Q s1 n1 c1)) (fun b hb => setRow_other _ _ _ _ (by have := own_ge own1 b hb; omega))
          have Row3 := own_same Row2 (w' := wc.setRow w.heap.size (stA Q s1 n1 c1)) (fun b hb => setRow_other _ _ _ _ (by have := own_ge Row2 b hb; omega))
          have hz3 : wc.heap.size ≤ (wc.setRow w.heap.size (stA Q s1 n1 c1)).heap.size := by simp
          go_upto_region 9 with (first
            | (refine atL 30 (.tmp 9) ?_; refine ld30 (by rfl) _ (by rfl) gt 30 (by rfl) Q s1 n1 c1 hq1 hq2 T1 ?_)
            | (refine atS 30 (.tmp 2) (.tmp 32) ?_; refine wpList_store_arr (by rfl) 30 (.tmp 2) (.tmp 32) (by rfl) w.heap.size (stA Q s1 n1 c1) (by rfl) (by rfl) 30 _ A2 (by rw [hsq]; exact size30) (by rw [hsq, stA_size hp1 hp2]) (stA_one _ _ _ _) ?_))
          generalize wc.setRow w.heap.size (stA Q s1 n1 c1) = W3 at *
          have A4 := A3.alloc (.cells #[.bool d] 4)
          have Rs4 := Rs3.alloc (.cells #[.bool d] 4)
          have B4 := B3.alloc B3.size (.cells #[.bool d] 4)
          have own4 := own3.alloc (.cells #[.bool d] 4)
          have Row4 := Row3.alloc (.cells #[.bool d] 4)
          have E4 := Arr.new W3 4 #[.bool d]
          have hz4 : W3.heap.size ≤ (W3.alloc (.cells #[.bool d] 4)).heap.size := by simp
          have hlt66 := own_lt (b := 0) own3
          have fin : Hid (∀ v5 W5, W5.ownsRow (w.heap.size + 2) 4 1 v5 (j + 1) (bls (r.D ++ [d])) → (W3.alloc (.cells #[.bool d] 4)).grownBy W5 (Value.slice sd j cd).ownBlock → ∃ sd' cd', v5 = .slice sd' (j + 1) cd' ∧ RI ps os (bzs es) sp n cap Z w (j + 1) sd' cd' W5) := Hid.mk' (fun v5 W5 h5 hg5 => by
            obtain ⟨gd, cd5, rfl⟩ := own_some h5
            have hne : ∀ g ty C, Arr (W3.alloc (.cells #[.bool d] 4)) g ty C → ty ≠ 4 → some g ≠ (Value.slice sd j cd).ownBlock := fun g ty C hA hty he => own_other Row4 hA hty g he.symm rfl
            have hs5 := hg5.size
            obtain ⟨e1, e2, e3⟩ := hst1.out
            refine ⟨_, _, rfl, B4.grown hg5 B4.size (fun k hk => by have := own_ge Row4 k hk; omega), by omega, ⟨s1, n1, c1, ?_, .inr ⟨by rw [e2]; exact hn1, by rw [hn1.out]; exact hxo, ?_⟩⟩, Rs4.grown hg5 (hne _ _ _ Rs4 (by decide)), by rw [e3]; exact h5⟩
            · rw [e1]; exact A4.grown hg5 (hne _ _ _ A4 (by decide))
            · rw [e2]
              refine own_mono (own_same own4 (fun b hb => hg5.block b (own_lt own4 hb) (fun e => ?_))) (by omega)
              obtain ⟨-, ⟨q, -⟩ | ⟨g', cap', cur, q, -, hh, -⟩⟩ := own4
              · rw [q] at hb; cases hb
              · rw [q] at hb; simp [Value.ownBlock] at hb; subst hb
                obtain ⟨-, ⟨q', -⟩ | ⟨g'', cap'', cur', q', -, hh', -⟩⟩ := Row4
                · rw [q'] at e; cases e
                · rw [q'] at e; simp [Value.ownBlock] at e; subst e
                  rw [hh] at hh'; simp at hh')
          go_wp2_with (first
            | (refine atA (.tmp 33) (.tmp 35) ?_; go_must (refine ap4 (by rfl) (.tmp 33) (.tmp 35) (by rfl) (w.heap.size + 2) _ j r.D (by rfl) Row4 W3.heap.size d (by rfl) E4 (by omega) (by omega) ?_; intro v5 W5 h5 hg5; obtain ⟨sd', cd', rfl, hRI5⟩ := fin.out v5 W5 h5 hg5)))
          go_roundw
          case rel => exact ⟨j + 1, sd', cd', rfl, by go_num, by omega, hRI5⟩
          case measure => simp [intOf]; omega
      · obtain rfl : j = nl := by omega
        have hI : ¬ (j : Int) < j := by omega
        obtain ⟨hbel, hsz, ⟨s, m, c, hA, hSR⟩, hRes, hRow⟩ := hRI
        have hSS := hSR.ss ((hS.below hbel).mono (by omega)) (hrok j)
        have hm33 : m ≤ 33 := by
          rcases hSR with ⟨-, -, rfl, -⟩ | ⟨-, h, -⟩
          · omega
          · exact h
        have hp1 := (hrok j).a32
        have hp2 : ∀ a ∈ (rnA ps os (bzs es) j).P, a.lk.length = 32 := fun a ha => ((hrok j).ok a ha).l32
        have hml := hSS.outs.len
        have hcp := copyO_any (rnA ps os (bzs es) j).P _ s m c (rnA ps os (bzs es) j).O wr hSS (by omega)
        clear hSR
        go_wp2_with (first
          | (refine atL 30 (.tmp 2) ?_; refine ld30 (by rfl) _ (by rfl) w.heap.size 30 (by rfl) (rnA ps os (bzs es) j).P s m c hp1 hp2 hA ?_)
          | (go_at_call 21; go_must (refine hcp.mono ?_; rintro r w2 ⟨s2, c2, rfl, own2, hb2⟩; have R2 := hRes.below hb2 hRes.lt; have B2 := hbel.trans (hb2.mono hbel.size)))
          | (refine atS 30 (.tmp 4) (.tmp 38) ?_; refine wpList_store_arr (by rfl) 30 (.tmp 4) (.tmp 38) (by rfl) (w.heap.size + 1) (stA (rnA ps os (bzs es) j).P s2 m c2) (by rfl) (by rfl) 30 _ R2 (by rw [stA_size hp1 hp2]; exact size30) (by rw [hzsz, stA_size hp1 hp2]) (stA_one _ _ _ _) ?_))
        have hRow2 := own_same hRow (fun b hb => hb2.block b (own_lt hRow hb))
        have own3 := own_same own2 (w' := w2.setRow (w.heap.size + 1) (stA (rnA ps os (bzs es) j).P s2 m c2)) (fun b hb => setRow_other _ _ _ _ (by have := own_ge own2 b hb; omega))
        have hRow3 := own_same hRow2 (w' := w2.setRow (w.heap.size + 1) (stA (rnA ps os (bzs es) j).P s2 m c2)) (fun b hb => setRow_other _ _ _ _ (by have := own_ge hRow2 b hb; omega))
        exact bodyPost_ret (resD Try.results9 rfl rfl rfl hp1 hp2 (R2.setRow _)) rfl ⟨s2, m, c2, sd, j, cd, rfl, ⟨hml, hm33, own_mono own3 (by omega), ⟨Hid.mk' hp1, Hid.mk' (hrok j).ok, os_own own3 hml.out (by omega) (hrok j).ou⟩⟩, Hid.mk' hrD.out.symm, own_mono hRow3 (by omega), below_setRow B2 (by omega) _⟩
end Go.Proofs.Ytbhhbkoikocjgaa
/- Layer spec: parts of a list. -/
namespace Go.Proofs.Ytbhhbkoikocjgaa
set_option linter.unusedSectionVars false
set_option maxHeartbeats 1000000
open Go.RowKit Go.Shelf
set_option maxRecDepth 100000
set_option linter.unusedVariables false
set_option linter.unusedSimpArgs false


variable [DecidableEq Ac] [DecidableEq Ou] [DecidableEq Mg]
theorem elem31 : Try.prog.underlying 31 = some (.slice (Try.prog.elem 31)) := by kernel_rfl
theorem sizeE31 (w : World) : (sizeOf (Try.prog.elem 31)).run Try.prog w = .ok 1 w := by
  have h : (Try.prog.info? (Try.prog.elem 31)).map (·.size) = some 1 := by kernel_rfl
  cases hq : Try.prog.info? (Try.prog.elem 31) with
  | none => rw [hq] at h; cases h
  | some i =>
    rw [hq] at h
    have hz : i.size = 1 := by simpa using h
    simp [sizeOf, typeInfo, hq, hz]
theorem add0 (a : Option Addr) : a.map (·.add 0) = a := by
  cases a <;> simp [Addr.add]
/-- The first k of a list. -/
theorem run_cut (sl : Option Addr) (nl cl k : Nat) (w : World) (hk : k ≤ nl) (hc : nl ≤ cl) : (Instr.sliceAt 31 (.slice sl nl cl) none (some (.int .i64 (k : Int))) none).run Try.prog w = .ok (.slice sl k cl) w := by
  rw [run_sliceAt_slice _ _ _ _ _ _ elem31, run_slice_h _ _ _ _ _ elem31 _ _ (by omega) (by omega), sizeE31]
  simp [Result.andThen, sliced, add0]
theorem run_cut3 (sl : Option Addr) (nl cl k : Nat) (w : World) (hk : k ≤ nl) (hc : nl ≤ cl) : (Instr.sliceAt 31 (.slice sl nl cl) none (some (.int .i64 (k : Int))) (some (.int .i64 (k : Int)))).run Try.prog w = .ok (.slice sl k k) w := by
  rw [run_sliceAt_slice _ _ _ _ _ _ elem31, run_slice_hm _ _ _ _ _ elem31 _ _ _ _ (by omega) (by omega) (by omega), sizeE31]
  simp [Result.andThen, sliced, add0]
/-- What is behind them. -/
def restP (sl : Option Addr) (cl k : Nat) : Option Addr := if cl = k then sl else sl.map (·.add k)
theorem run_rest (sl : Option Addr) (nl cl k : Nat) (w : World) (hk : k ≤ nl) (hc : nl ≤ cl) : (Instr.sliceAt 31 (.slice sl nl cl) (some (.int .i64 (k : Int))) none none).run Try.prog w = .ok (.slice (restP sl cl k) (nl - k) (cl - k)) w := by
  rw [run_sliceAt_slice _ _ _ _ _ _ elem31, run_slice_l _ _ _ _ _ elem31 _ _ (by omega) (by omega), sizeE31]
  simp [Result.andThen, sliced, restP]
theorem BL.rest {N : Nat} {w : World} {sl : Option Addr} {nl cl : Nat} {es : List Bz} (h : BL N w sl nl cl es) {k : Nat} (hk : k ≤ nl) : BL N w (restP sl cl k) (nl - k) (cl - k) (es.drop k) := by
  have hl := h.len.out
  have hle := h.le
  refine ⟨Hid.mk' (by rw [List.length_drop]; omega), fun e => ?_, by omega, by have := h.big; omega, by have := h.small; omega, fun h0 => ?_, fun e he => h.ok e (List.mem_of_mem_drop he)⟩
  · unfold restP at e
    have : sl = none := by
      split at e
      · exact e
      · cases sl <;> simp_all
    have := h.nil this
    omega
  · obtain ⟨g, off, rfl, hg, hcl⟩ := h.at0 (by omega)
    refine ⟨g, off + k, ?_, hg, fun i f hf => ?_⟩
    · unfold restP
      rw [if_neg (by omega)]
      by_cases hk0 : k = 0 <;> simp [Addr.add, hk0]
    · rw [List.getElem?_drop] at hf
      rw [Nat.add_assoc]
      exact hcl (k + i) f hf
end Go.Proofs.Ytbhhbkoikocjgaa
