/- Layer ir: the anchor's small program, made. -/
import Derived.Test.YtoopgppahfnncaaDoorX13
import Derived.Deep.DeepCutAuto
import Derived.Laws.CopyOwn
import Derived.Laws.Rows
namespace Go.Proofs.YtoopgppahfnncaaDoor
open Go.Shelf Go.RowKit Go.Sort
set_option maxRecDepth 100000
set_option linter.unusedVariables false
set_option linter.unusedSimpArgs false


theorem q_pgw {w : World} {A B C D F G H J : Nat} (hA : Arr w A 80 #[.int .u8 2, .int .u64 0, .int .i64 0, .int .u8 0, .slice none 0 0, .int .u8 1, .int .u64 1, .int .i64 0, .int .u8 0, .slice none 0 0]) (hB : Arr w B 80 #[.int .u8 3, .int .u64 0, .int .i64 0, .int .u8 5, .slice (some ⟨A, 0, none⟩) 2 2]) (hC : Arr w C 80 #[.int .u8 2, .int .u64 0, .int .i64 1, .int .u8 0, .slice none 0 0]) (hD : Arr w D 66 #[.int .u8 1, .int .i64 1, .int .i64 0, .int .i64 0, .slice (some ⟨B, 0, none⟩) 1 1, .slice none 0 0, .slice none 0 0, .int .u8 5, .int .i64 0, .int .i64 0, .int .i64 0, .slice (some ⟨C, 0, none⟩) 1 1, .slice none 0 0, .slice none 0 0]) (hF : Arr w F 80 #[.int .u8 1, .int .u64 7, .int .i64 0, .int .u8 0, .slice none 0 0]) (hG : Arr w G 80 #[.int .u8 1, .int .u64 0, .int .i64 0, .int .u8 0, .slice none 0 0, .int .u8 2, .int .u64 0, .int .i64 0, .int .u8 0, .slice none 0 0]) (hH : Arr w H 66 #[.int .u8 6, .int .i64 0, .int .i64 0, .int .i64 0, .slice (some ⟨F, 0, none⟩) 1 1, .slice none 0 0, .slice none 0 0, .int .u8 2, .int .i64 0, .int .i64 0, .int .i64 0, .slice (some ⟨G, 0, none⟩) 2 2, .slice none 0 0, .slice none 0 0]) (hJ : Arr w J 40 #[.int .i64 1, .int .i64 2, .slice (some ⟨D, 0, none⟩) 2 2, .int .i64 0, .int .i64 1, .slice (some ⟨H, 0, none⟩) 2 2]) :
    PgM w.heap.size w [.slice (some ⟨J, 0, none⟩) 2 2, .int .i64 4] qP := q_pg hA hB hC hD hF hG hH hJ hA.lt hB.lt hC.lt hD.lt hF.lt hG.lt hH.lt hJ.lt
theorem Arr.sro {w : World} {g ty k : Nat} {C : Array Value} (h : Arr w g ty C) (D : Array Value) (hk : g ≠ k) : Arr (w.setRow k D) g ty C := by
  unfold Arr at h ⊢; rw [setRow_other w k g D hk]; exact h
theorem arr_ne {w : World} {g g' ty ty' : Nat} {C C' : Array Value} (h : Arr w g ty C) (h' : Arr w g' ty' C') (ht : ty ≠ ty') : g ≠ g' := by
  rintro rfl; unfold Arr at h h'; rw [h] at h'; simp at h'; exact ht h'.2
theorem step_want {P : Program} {ops : Array Oper} {o : Oper} {a : Act} {w : World} {K : Act → World → Prop} {Q : Exit → Act → World → Prop} {E : Prop} (hg : o.guard = none) (h : Oper.wp P o a w K Q) :
    if Region.wanted o (yielded ops a.tmps) = true then Oper.wp P o a w K Q else E := by
  rw [if_pos (by simp [Region.wanted, hg])]; exact h
theorem koA {P : Program} {ops : Array Oper} {Q : Exit → Act → World → Prop} {md : Region.Mode} {N : Nat} {W : World} {K : Act → World → Prop} {fuel : Nat} {listed : Array Bool} {a a' : Act} {u : World} {C : Array Value} {ty : TypeId}
    (hK : Shut (∀ a w, Below N W w → (Below N W w → wpAnyH P md ops Q (Below N W) fuel listed a w) → K a w)) (hB : Below N W u) (hN : N ≤ u.heap.size)
    (h : ∀ u2, Below u.heap.size u u2 → Arr u2 u.heap.size ty C → u.heap.size < u2.heap.size → Below N W u2 → wpAnyH P md ops Q (Below N W) fuel listed a' u2)
    (ha : a = a' := by (conv => (lhs; try simp only [Act.put, List.setIfInBounds_toArray, List.set_cons_zero, List.set_cons_succ])); (try rfl)) : K a (u.alloc (.cells C ty)) := by
  subst ha
  exact hK.out _ _ (hB.alloc hN _) (fun hS => h _ (ab u _) (Arr.new u ty C) (by simp) hS)
theorem koS {P : Program} {ops : Array Oper} {Q : Exit → Act → World → Prop} {md : Region.Mode} {N : Nat} {W : World} {K : Act → World → Prop} {fuel : Nat} {listed : Array Bool} {a a' : Act} {u : World} {C D : Array Value} {g ty : Nat}
    (hK : Shut (∀ a w, Below N W w → (Below N W w → wpAnyH P md ops Q (Below N W) fuel listed a w) → K a w)) (hB : Below N W u) (hN : N ≤ g) (hA : Arr u g ty C)
    (h : ∀ u2, Arr u2 g ty D → (∀ k ty' C', k ≠ g → Arr u k ty' C' → Arr u2 k ty' C') → Below N W u2 → wpAnyH P md ops Q (Below N W) fuel listed a' u2)
    (ha : a = a' := by (conv => (lhs; try simp only [Act.put, List.setIfInBounds_toArray, List.set_cons_zero, List.set_cons_succ])); (try rfl)) : K a (u.setRow g D) := by
  subst ha
  exact hK.out _ _ (below_setRow hB hN D) (fun hS => h _ (setRow_heap u g C D ty (0, 0) hA) (fun k ty' C' hk h' => by unfold Arr at h' ⊢; rw [setRow_other u g k D hk]; exact h') hS)
theorem rgnB {P : Program} {ops : Array Oper} {Q : Exit → Act → World → Prop} {id : Nat} {a : Act} {w : World} (h : ∀ u, Below w.heap.size w u → wpAnyH P .any ops Q (Below w.heap.size w) ops.size (Array.replicate ops.size false) a u) (hm : P.follows .mixedOrders = true := by kernel_rfl) : (Code.region id ops true).wp P Q a w :=
  wp_region_held_drew hm ((Below.refl _ _).drew) (fun hS => h _ hS)
theorem s80 : (Tryd.prog.info? 80).map (·.size) = some 5 := by kernel_rfl
theorem s40 : (Tryd.prog.info? 40).map (·.size) = some 3 := by kernel_rfl
theorem s24 : (Tryd.prog.info? 24).map (·.size) = some 2 := by kernel_rfl
set_option maxHeartbeats 1000000 in
theorem var_any (n : Int) (w : World) (hn : 0 ≤ n ∧ n < 256) : Calls Tryd.prog 37 #[.int .i64 n] w fun e w' => e = .returned (.agg #[.int .u8 2, .int .u64 0, .int .i64 n, .int .u8 0, .slice none 0 0]) ∧ Below w.heap.size w w' := by
  have A := Arr.new w 80 #[.int .u8 2, .int .u64 0, .int .i64 n, .int .u8 0, .slice none 0 0]
  have hB := ab w (.cells #[.int .u8 2, .int .u64 0, .int .i64 n, .int .u8 0, .slice none 0 0] 80)
  replace hB := hid hB
  replace A := hid A
  go_enter Tryd.func37, Tryd.ntmps37
  go_wp2_with fail
  exact bodyPost_ret (v := .agg #[.int .u8 2, .int .u64 0, .int .i64 n, .int .u8 0, .slice none 0 0]) (results_cell_row Tryd.results37 _ _ w.heap.size 80 _ (0, 0) _ rfl A.out Tryd.underlying80 rfl s80) rfl ⟨rfl, hB.out⟩

def R3 (W : World) (v : Value) (W' : World) : Prop := ∃ A B C D E : Nat, v = .pointer (some ⟨E, 0, none⟩) ∧ Below W.heap.size W W' ∧ Arr W' A 80 #[.int .u8 2, .int .u64 0, .int .i64 0, .int .u8 0, .slice none 0 0, .int .u8 1, .int .u64 1, .int .i64 0, .int .u8 0, .slice none 0 0] ∧ Arr W' B 80 #[.int .u8 3, .int .u64 0, .int .i64 0, .int .u8 5, .slice (some ⟨A, 0, none⟩) 2 2] ∧ Arr W' C 80 #[.int .u8 2, .int .u64 0, .int .i64 1, .int .u8 0, .slice none 0 0] ∧ Arr W' D 66 #[.int .u8 1, .int .i64 1, .int .i64 0, .int .i64 0, .slice (some ⟨B, 0, none⟩) 1 1, .slice none 0 0, .slice none 0 0, .int .u8 5, .int .i64 0, .int .i64 0, .int .i64 0, .slice (some ⟨C, 0, none⟩) 1 1, .slice none 0 0, .slice none 0 0] ∧ Arr W' E 40 #[.int .i64 1, .int .i64 2, .slice (some ⟨D, 0, none⟩) 2 2]

set_option maxHeartbeats 8000000 in
theorem small_any (w : World) : Calls Tryd.prog 26 #[] w fun e w' => ∃ sp, e = .returned (.agg #[.slice sp 2 2, .int .i64 4]) ∧ PgM w'.heap.size w' [.slice sp 2 2, .int .i64 4] qP ∧ Below w.heap.size w w' := by
  have b0 := ab w (.cells #[.slice none 0 0, .int .i64 0] 24)
  have A0 := Arr.new w 24 #[.slice none 0 0, .int .i64 0]
  obtain ⟨w0, hw0⟩ : ∃ x, x = w.alloc (.cells #[.slice none 0 0, .int .i64 0] 24) := ⟨_, rfl⟩
  rw [← hw0] at b0 A0
  have l0 := A0.lt
  have h1 := fun u => var_any 0 u (by decide)
  go_enter Tryd.func26, Tryd.ntmps26
  go_upto_region 3 with (go_at_call 37; go_must (rw [← hw0]; refine (h1 _).mono ?_; rintro e w1 ⟨rfl, d1⟩))
  have B1 := (Arr.new w1 80 #[.int .u8 2, .int .u64 0, .int .i64 0, .int .u8 0, .slice none 0 0]).alloc (.cells #[.int .u8 1, .int .u64 1, .int .i64 0, .int .u8 0, .slice none 0 0] 80)
  have B2 := Arr.new (w1.alloc (.cells #[.int .u8 2, .int .u64 0, .int .i64 0, .int .u8 0, .slice none 0 0] 80)) 80 #[.int .u8 1, .int .u64 1, .int .i64 0, .int .u8 0, .slice none 0 0]
  have bU := ((Below.refl w1.heap.size w1).alloc (Nat.le_refl _) (.cells #[.int .u8 2, .int .u64 0, .int .i64 0, .int .u8 0, .slice none 0 0] 80)).alloc (by simp) (.cells #[.int .u8 1, .int .u64 1, .int .i64 0, .int .u8 0, .slice none 0 0] 80)
  have A1 := (A0.bl d1).bl bU
  obtain ⟨U, hU⟩ : ∃ x, x = ((w1.alloc (.cells #[.int .u8 2, .int .u64 0, .int .i64 0, .int .u8 0, .slice none 0 0] 80)).alloc (.cells #[.int .u8 1, .int .u64 1, .int .i64 0, .int .u8 0, .slice none 0 0] 80)) := ⟨_, rfl⟩
  rw [← hU] at B1 B2 bU A1 ⊢
  simp only [World.size_alloc] at B2
  have c0 := B1.cell 0; have c1 := B1.cell 1; have c2 := B1.cell 2; have c3 := B1.cell 3; have c4 := B1.cell 4
  have f0 := B2.cell 0; have f1 := B2.cell 1; have f2 := B2.cell 2; have f3 := B2.cell 3; have f4 := B2.cell 4
  have lt1 := B1.lt
  have lt2 := B2.lt
  have hW : Below w.heap.size w U := b0.trans ((d1.trans (bU.mono d1.size)).mono b0.size)
  have ltA := A1.lt
  have hd1 := d1.size
  clear hU B2 bU
  replace hw0 := hid hw0
  go_cut [3] (fun s3 wx => R3 U s3 wx)
  case first =>
    clear h1 A0 b0 hw0 A1 hW d1 B1
    refine rgnB (fun u0 hS0 => ?_)
    refine tk 0 rfl ?_ (hy := by intro u hSw; have x0 := (hSw.cell lt1).trans c0; have x1 := (hSw.cell lt1).trans c1; have x2 := (hSw.cell lt1).trans c2; have x3 := (hSw.cell lt1).trans c3; have x4 := (hSw.cell lt1).trans c4; go_simp; try (with_reducible rfl))
    refine tk 1 rfl ?_ (hy := by intro u hSw; have x0 := (hSw.cell lt2).trans f0; have x1 := (hSw.cell lt2).trans f1; have x2 := (hSw.cell lt2).trans f2; have x3 := (hSw.cell lt2).trans f3; have x4 := (hSw.cell lt2).trans f4; go_simp; try (with_reducible rfl))
    clear c0 c1 c2 c3 c4 f0 f1 f2 f3 f4
    refine wpAnyH_ready (rs := [2, 6, 11]) (by kernel_rfl) (by simp) ?_
    refine AllReadyH.cons (o := ⟨_, _, _, _, _, _⟩) rfl (fun K hK => ?_) (AllReadyH.cons (o := ⟨_, _, _, _, _, _⟩) rfl (fun K hK => ?_) (AllReadyH.cons (o := ⟨_, _, _, _, _, _⟩) rfl (fun K hK => ?_) AllReadyH.nil))
    · go_simp
      go_wp2_with fail
      refine koA hK hS0 hS0.size (fun u1 d1 a1 l1 hS1 => ?_)
      clear hK K
      refine tk 3 rfl ?_
      refine wpAnyH_ready (rs := [4, 6, 11]) (by kernel_rfl) (by simp) ?_
      refine AllReadyH.cons (o := ⟨_, _, _, _, _, _⟩) rfl (fun K hK => ?_) (AllReadyH.cons (o := ⟨_, _, _, _, _, _⟩) rfl (fun K hK => ?_) (AllReadyH.cons (o := ⟨_, _, _, _, _, _⟩) rfl (fun K hK => ?_) AllReadyH.nil))
      · go_simp
        go_wp2_with fail
        refine koA hK hS1 hS1.size (fun u2 d2 a2 l2 hS2 => ?_)
        clear hK K
        refine tk 5 rfl ?_
        refine wpAnyH_ready (rs := [6, 11]) (by kernel_rfl) (by simp) ?_
        refine AllReadyH.cons (o := ⟨_, _, _, _, _, _⟩) rfl (fun K hK => ?_) (AllReadyH.cons (o := ⟨_, _, _, _, _, _⟩) rfl (fun K hK => ?_) AllReadyH.nil)
        · go_simp
          refine (var_any 1 _ (by decide)).mono ?_
          rintro e u3 ⟨rfl, d3⟩
          go_wp2_with fail
          refine ko hK (hS2.trans (d3.mono hS2.size)) (fun hS3 => ?_)
          clear hK K
          have l3 := d3.size
          refine wpAnyH_ready (rs := [7, 11]) (by kernel_rfl) (by simp) ?_
          refine AllReadyH.cons (o := ⟨_, _, _, _, _, _⟩) rfl (fun K hK => ?_) (AllReadyH.cons (o := ⟨_, _, _, _, _, _⟩) rfl (fun K hK => ?_) AllReadyH.nil)
          · go_simp
            go_wp2_with fail
            refine koA hK hS3 hS3.size (fun u4 d4 a4 l4 hS4 => ?_)
            clear hK K
            refine tk 8 rfl ?_
            refine wpAnyH_ready (rs := [9, 11]) (by kernel_rfl) (by simp) ?_
            refine AllReadyH.cons (o := ⟨_, _, _, _, _, _⟩) rfl (fun K hK => ?_) (AllReadyH.cons (o := ⟨_, _, _, _, _, _⟩) rfl (fun K hK => ?_) AllReadyH.nil)
            · go_simp
              go_wp2_with fail
              refine koA hK hS4 hS4.size (fun u5 d5 a5 l5 hS5 => ?_)
              clear hK K
              refine tk 10 rfl ?_
              refine wpAnyH_ready (rs := [11]) (by kernel_rfl) (by simp) ?_
              refine AllReadyH.cons (o := ⟨_, _, _, _, _, _⟩) rfl (fun K hK => ?_) AllReadyH.nil
              · go_simp
                go_wp2_with fail
                refine koA hK hS5 hS5.size (fun u6 d6 a6 l6 hS6 => ?_)
                clear hK K
                refine wpAnyH_ready (rs := [12]) (by kernel_rfl) (by simp) ?_
                refine AllReadyH.cons (o := ⟨_, _, _, _, _, _⟩) rfl (fun K hK => ?_) AllReadyH.nil
                · refine step_want rfl (wp_store_row 40 (.tmp 3) (.tmp 17) rfl u5.heap.size #[.int .i64 1, .int .i64 2, .slice (some ⟨u4.heap.size, 0, none⟩) 2 2] rfl rfl 40 _ a6 s40 rfl (by simp [Value.oneCell']) ?_)
                  have e7 := a6
                  have m7 : U.heap.size ≤ u5.heap.size := hS5.size
                  refine koS hK hS6 m7 e7 (fun u7 a7 o7 hS7 => ?_)
                  clear hK K
                  refine dn ?_
                  go_wp2_with fail
                  go_meet
                  exact ⟨u0.heap.size, u1.heap.size, u3.heap.size, u4.heap.size, u5.heap.size, rfl, hS7, o7 _ _ _ (by omega) (((((a1.bl d2).bl d3).bl d4).bl d5).bl d6), o7 _ _ _ (by omega) ((((a2.bl d3).bl d4).bl d5).bl d6), o7 _ _ _ (by omega) ((a4.bl d5).bl d6), o7 _ _ _ (by omega) (a5.bl d6), a7⟩
            · go_simp
              go_wp2_with fail
              refine koA hK hS4 hS4.size (fun u5 d5 a5 l5 hS5 => ?_)
              clear hK K
              refine wpAnyH_ready (rs := [9]) (by kernel_rfl) (by simp) ?_
              refine AllReadyH.cons (o := ⟨_, _, _, _, _, _⟩) rfl (fun K hK => ?_) AllReadyH.nil
              · go_simp
                go_wp2_with fail
                refine koA hK hS5 hS5.size (fun u6 d6 a6 l6 hS6 => ?_)
                clear hK K
                refine tk 10 rfl ?_
                refine wpAnyH_ready (rs := [12]) (by kernel_rfl) (by simp) ?_
                refine AllReadyH.cons (o := ⟨_, _, _, _, _, _⟩) rfl (fun K hK => ?_) AllReadyH.nil
                · refine step_want rfl (wp_store_row 40 (.tmp 3) (.tmp 17) rfl u4.heap.size #[.int .i64 1, .int .i64 2, .slice (some ⟨u5.heap.size, 0, none⟩) 2 2] rfl rfl 40 _ (a5.bl d6) s40 rfl (by simp [Value.oneCell']) ?_)
                  have e7 := (a5.bl d6)
                  have m7 : U.heap.size ≤ u4.heap.size := hS4.size
                  refine koS hK hS6 m7 e7 (fun u7 a7 o7 hS7 => ?_)
                  clear hK K
                  refine dn ?_
                  go_wp2_with fail
                  go_meet
                  exact ⟨u0.heap.size, u1.heap.size, u3.heap.size, u5.heap.size, u4.heap.size, rfl, hS7, o7 _ _ _ (by omega) (((((a1.bl d2).bl d3).bl d4).bl d5).bl d6), o7 _ _ _ (by omega) ((((a2.bl d3).bl d4).bl d5).bl d6), o7 _ _ _ (by omega) ((a4.bl d5).bl d6), o7 _ _ _ (by omega) a6, a7⟩
          · go_simp
            go_wp2_with fail
            refine koA hK hS3 hS3.size (fun u4 d4 a4 l4 hS4 => ?_)
            clear hK K
            refine wpAnyH_ready (rs := [7]) (by kernel_rfl) (by simp) ?_
            refine AllReadyH.cons (o := ⟨_, _, _, _, _, _⟩) rfl (fun K hK => ?_) AllReadyH.nil
            · go_simp
              go_wp2_with fail
              refine koA hK hS4 hS4.size (fun u5 d5 a5 l5 hS5 => ?_)
              clear hK K
              refine tk 8 rfl ?_
              refine wpAnyH_ready (rs := [9]) (by kernel_rfl) (by simp) ?_
              refine AllReadyH.cons (o := ⟨_, _, _, _, _, _⟩) rfl (fun K hK => ?_) AllReadyH.nil
              · go_simp
                go_wp2_with fail
                refine koA hK hS5 hS5.size (fun u6 d6 a6 l6 hS6 => ?_)
                clear hK K
                refine tk 10 rfl ?_
                refine wpAnyH_ready (rs := [12]) (by kernel_rfl) (by simp) ?_
                refine AllReadyH.cons (o := ⟨_, _, _, _, _, _⟩) rfl (fun K hK => ?_) AllReadyH.nil
                · refine step_want rfl (wp_store_row 40 (.tmp 3) (.tmp 17) rfl u3.heap.size #[.int .i64 1, .int .i64 2, .slice (some ⟨u5.heap.size, 0, none⟩) 2 2] rfl rfl 40 _ ((a4.bl d5).bl d6) s40 rfl (by simp [Value.oneCell']) ?_)
                  have e7 := ((a4.bl d5).bl d6)
                  have m7 : U.heap.size ≤ u3.heap.size := hS3.size
                  refine koS hK hS6 m7 e7 (fun u7 a7 o7 hS7 => ?_)
                  clear hK K
                  refine dn ?_
                  go_wp2_with fail
                  go_meet
                  exact ⟨u0.heap.size, u1.heap.size, u4.heap.size, u5.heap.size, u3.heap.size, rfl, hS7, o7 _ _ _ (by omega) (((((a1.bl d2).bl d3).bl d4).bl d5).bl d6), o7 _ _ _ (by omega) ((((a2.bl d3).bl d4).bl d5).bl d6), o7 _ _ _ (by omega) (a5.bl d6), o7 _ _ _ (by omega) a6, a7⟩
        · go_simp
          go_wp2_with fail
          refine koA hK hS2 hS2.size (fun u3 d3 a3 l3 hS3 => ?_)
          clear hK K
          refine wpAnyH_ready (rs := [6]) (by kernel_rfl) (by simp) ?_
          refine AllReadyH.cons (o := ⟨_, _, _, _, _, _⟩) rfl (fun K hK => ?_) AllReadyH.nil
          · go_simp
            refine (var_any 1 _ (by decide)).mono ?_
            rintro e u4 ⟨rfl, d4⟩
            go_wp2_with fail
            refine ko hK (hS3.trans (d4.mono hS3.size)) (fun hS4 => ?_)
            clear hK K
            have l4 := d4.size
            refine wpAnyH_ready (rs := [7]) (by kernel_rfl) (by simp) ?_
            refine AllReadyH.cons (o := ⟨_, _, _, _, _, _⟩) rfl (fun K hK => ?_) AllReadyH.nil
            · go_simp
              go_wp2_with fail
              refine koA hK hS4 hS4.size (fun u5 d5 a5 l5 hS5 => ?_)
              clear hK K
              refine tk 8 rfl ?_
              refine wpAnyH_ready (rs := [9]) (by kernel_rfl) (by simp) ?_
              refine AllReadyH.cons (o := ⟨_, _, _, _, _, _⟩) rfl (fun K hK => ?_) AllReadyH.nil
              · go_simp
                go_wp2_with fail
                refine koA hK hS5 hS5.size (fun u6 d6 a6 l6 hS6 => ?_)
                clear hK K
                refine tk 10 rfl ?_
                refine wpAnyH_ready (rs := [12]) (by kernel_rfl) (by simp) ?_
                refine AllReadyH.cons (o := ⟨_, _, _, _, _, _⟩) rfl (fun K hK => ?_) AllReadyH.nil
                · refine step_want rfl (wp_store_row 40 (.tmp 3) (.tmp 17) rfl u2.heap.size #[.int .i64 1, .int .i64 2, .slice (some ⟨u5.heap.size, 0, none⟩) 2 2] rfl rfl 40 _ (((a3.bl d4).bl d5).bl d6) s40 rfl (by simp [Value.oneCell']) ?_)
                  have e7 := (((a3.bl d4).bl d5).bl d6)
                  have m7 : U.heap.size ≤ u2.heap.size := hS2.size
                  refine koS hK hS6 m7 e7 (fun u7 a7 o7 hS7 => ?_)
                  clear hK K
                  refine dn ?_
                  go_wp2_with fail
                  go_meet
                  exact ⟨u0.heap.size, u1.heap.size, u4.heap.size, u5.heap.size, u2.heap.size, rfl, hS7, o7 _ _ _ (by omega) (((((a1.bl d2).bl d3).bl d4).bl d5).bl d6), o7 _ _ _ (by omega) ((((a2.bl d3).bl d4).bl d5).bl d6), o7 _ _ _ (by omega) (a5.bl d6), o7 _ _ _ (by omega) a6, a7⟩
      · go_simp
        refine (var_any 1 _ (by decide)).mono ?_
        rintro e u2 ⟨rfl, d2⟩
        go_wp2_with fail
        refine ko hK (hS1.trans (d2.mono hS1.size)) (fun hS2 => ?_)
        clear hK K
        have l2 := d2.size
        refine wpAnyH_ready (rs := [4, 7, 11]) (by kernel_rfl) (by simp) ?_
        refine AllReadyH.cons (o := ⟨_, _, _, _, _, _⟩) rfl (fun K hK => ?_) (AllReadyH.cons (o := ⟨_, _, _, _, _, _⟩) rfl (fun K hK => ?_) (AllReadyH.cons (o := ⟨_, _, _, _, _, _⟩) rfl (fun K hK => ?_) AllReadyH.nil))
        · go_simp
          go_wp2_with fail
          refine koA hK hS2 hS2.size (fun u3 d3 a3 l3 hS3 => ?_)
          clear hK K
          refine tk 5 rfl ?_
          refine wpAnyH_ready (rs := [7, 11]) (by kernel_rfl) (by simp) ?_
          refine AllReadyH.cons (o := ⟨_, _, _, _, _, _⟩) rfl (fun K hK => ?_) (AllReadyH.cons (o := ⟨_, _, _, _, _, _⟩) rfl (fun K hK => ?_) AllReadyH.nil)
          · go_simp
            go_wp2_with fail
            refine koA hK hS3 hS3.size (fun u4 d4 a4 l4 hS4 => ?_)
            clear hK K
            refine tk 8 rfl ?_
            refine wpAnyH_ready (rs := [9, 11]) (by kernel_rfl) (by simp) ?_
            refine AllReadyH.cons (o := ⟨_, _, _, _, _, _⟩) rfl (fun K hK => ?_) (AllReadyH.cons (o := ⟨_, _, _, _, _, _⟩) rfl (fun K hK => ?_) AllReadyH.nil)
            · go_simp
              go_wp2_with fail
              refine koA hK hS4 hS4.size (fun u5 d5 a5 l5 hS5 => ?_)
              clear hK K
              refine tk 10 rfl ?_
              refine wpAnyH_ready (rs := [11]) (by kernel_rfl) (by simp) ?_
              refine AllReadyH.cons (o := ⟨_, _, _, _, _, _⟩) rfl (fun K hK => ?_) AllReadyH.nil
              · go_simp
                go_wp2_with fail
                refine koA hK hS5 hS5.size (fun u6 d6 a6 l6 hS6 => ?_)
                clear hK K
                refine wpAnyH_ready (rs := [12]) (by kernel_rfl) (by simp) ?_
                refine AllReadyH.cons (o := ⟨_, _, _, _, _, _⟩) rfl (fun K hK => ?_) AllReadyH.nil
                · refine step_want rfl (wp_store_row 40 (.tmp 3) (.tmp 17) rfl u5.heap.size #[.int .i64 1, .int .i64 2, .slice (some ⟨u4.heap.size, 0, none⟩) 2 2] rfl rfl 40 _ a6 s40 rfl (by simp [Value.oneCell']) ?_)
                  have e7 := a6
                  have m7 : U.heap.size ≤ u5.heap.size := hS5.size
                  refine koS hK hS6 m7 e7 (fun u7 a7 o7 hS7 => ?_)
                  clear hK K
                  refine dn ?_
                  go_wp2_with fail
                  go_meet
                  exact ⟨u0.heap.size, u2.heap.size, u3.heap.size, u4.heap.size, u5.heap.size, rfl, hS7, o7 _ _ _ (by omega) (((((a1.bl d2).bl d3).bl d4).bl d5).bl d6), o7 _ _ _ (by omega) (((a3.bl d4).bl d5).bl d6), o7 _ _ _ (by omega) ((a4.bl d5).bl d6), o7 _ _ _ (by omega) (a5.bl d6), a7⟩
            · go_simp
              go_wp2_with fail
              refine koA hK hS4 hS4.size (fun u5 d5 a5 l5 hS5 => ?_)
              clear hK K
              refine wpAnyH_ready (rs := [9]) (by kernel_rfl) (by simp) ?_
              refine AllReadyH.cons (o := ⟨_, _, _, _, _, _⟩) rfl (fun K hK => ?_) AllReadyH.nil
              · go_simp
                go_wp2_with fail
                refine koA hK hS5 hS5.size (fun u6 d6 a6 l6 hS6 => ?_)
                clear hK K
                refine tk 10 rfl ?_
                refine wpAnyH_ready (rs := [12]) (by kernel_rfl) (by simp) ?_
                refine AllReadyH.cons (o := ⟨_, _, _, _, _, _⟩) rfl (fun K hK => ?_) AllReadyH.nil
                · refine step_want rfl (wp_store_row 40 (.tmp 3) (.tmp 17) rfl u4.heap.size #[.int .i64 1, .int .i64 2, .slice (some ⟨u5.heap.size, 0, none⟩) 2 2] rfl rfl 40 _ (a5.bl d6) s40 rfl (by simp [Value.oneCell']) ?_)
                  have e7 := (a5.bl d6)
                  have m7 : U.heap.size ≤ u4.heap.size := hS4.size
                  refine koS hK hS6 m7 e7 (fun u7 a7 o7 hS7 => ?_)
                  clear hK K
                  refine dn ?_
                  go_wp2_with fail
                  go_meet
                  exact ⟨u0.heap.size, u2.heap.size, u3.heap.size, u5.heap.size, u4.heap.size, rfl, hS7, o7 _ _ _ (by omega) (((((a1.bl d2).bl d3).bl d4).bl d5).bl d6), o7 _ _ _ (by omega) (((a3.bl d4).bl d5).bl d6), o7 _ _ _ (by omega) ((a4.bl d5).bl d6), o7 _ _ _ (by omega) a6, a7⟩
          · go_simp
            go_wp2_with fail
            refine koA hK hS3 hS3.size (fun u4 d4 a4 l4 hS4 => ?_)
            clear hK K
            refine wpAnyH_ready (rs := [7]) (by kernel_rfl) (by simp) ?_
            refine AllReadyH.cons (o := ⟨_, _, _, _, _, _⟩) rfl (fun K hK => ?_) AllReadyH.nil
            · go_simp
              go_wp2_with fail
              refine koA hK hS4 hS4.size (fun u5 d5 a5 l5 hS5 => ?_)
              clear hK K
              refine tk 8 rfl ?_
              refine wpAnyH_ready (rs := [9]) (by kernel_rfl) (by simp) ?_
              refine AllReadyH.cons (o := ⟨_, _, _, _, _, _⟩) rfl (fun K hK => ?_) AllReadyH.nil
              · go_simp
                go_wp2_with fail
                refine koA hK hS5 hS5.size (fun u6 d6 a6 l6 hS6 => ?_)
                clear hK K
                refine tk 10 rfl ?_
                refine wpAnyH_ready (rs := [12]) (by kernel_rfl) (by simp) ?_
                refine AllReadyH.cons (o := ⟨_, _, _, _, _, _⟩) rfl (fun K hK => ?_) AllReadyH.nil
                · refine step_want rfl (wp_store_row 40 (.tmp 3) (.tmp 17) rfl u3.heap.size #[.int .i64 1, .int .i64 2, .slice (some ⟨u5.heap.size, 0, none⟩) 2 2] rfl rfl 40 _ ((a4.bl d5).bl d6) s40 rfl (by simp [Value.oneCell']) ?_)
                  have e7 := ((a4.bl d5).bl d6)
                  have m7 : U.heap.size ≤ u3.heap.size := hS3.size
                  refine koS hK hS6 m7 e7 (fun u7 a7 o7 hS7 => ?_)
                  clear hK K
                  refine dn ?_
                  go_wp2_with fail
                  go_meet
                  exact ⟨u0.heap.size, u2.heap.size, u4.heap.size, u5.heap.size, u3.heap.size, rfl, hS7, o7 _ _ _ (by omega) (((((a1.bl d2).bl d3).bl d4).bl d5).bl d6), o7 _ _ _ (by omega) (((a3.bl d4).bl d5).bl d6), o7 _ _ _ (by omega) (a5.bl d6), o7 _ _ _ (by omega) a6, a7⟩
        · go_simp
          go_wp2_with fail
          refine koA hK hS2 hS2.size (fun u3 d3 a3 l3 hS3 => ?_)
          clear hK K
          refine tk 8 rfl ?_
          refine wpAnyH_ready (rs := [4, 11]) (by kernel_rfl) (by simp) ?_
          refine AllReadyH.cons (o := ⟨_, _, _, _, _, _⟩) rfl (fun K hK => ?_) (AllReadyH.cons (o := ⟨_, _, _, _, _, _⟩) rfl (fun K hK => ?_) AllReadyH.nil)
          · go_simp
            go_wp2_with fail
            refine koA hK hS3 hS3.size (fun u4 d4 a4 l4 hS4 => ?_)
            clear hK K
            refine tk 5 rfl ?_
            refine wpAnyH_ready (rs := [9, 11]) (by kernel_rfl) (by simp) ?_
            refine AllReadyH.cons (o := ⟨_, _, _, _, _, _⟩) rfl (fun K hK => ?_) (AllReadyH.cons (o := ⟨_, _, _, _, _, _⟩) rfl (fun K hK => ?_) AllReadyH.nil)
            · go_simp
              go_wp2_with fail
              refine koA hK hS4 hS4.size (fun u5 d5 a5 l5 hS5 => ?_)
              clear hK K
              refine tk 10 rfl ?_
              refine wpAnyH_ready (rs := [11]) (by kernel_rfl) (by simp) ?_
              refine AllReadyH.cons (o := ⟨_, _, _, _, _, _⟩) rfl (fun K hK => ?_) AllReadyH.nil
              · go_simp
                go_wp2_with fail
                refine koA hK hS5 hS5.size (fun u6 d6 a6 l6 hS6 => ?_)
                clear hK K
                refine wpAnyH_ready (rs := [12]) (by kernel_rfl) (by simp) ?_
                refine AllReadyH.cons (o := ⟨_, _, _, _, _, _⟩) rfl (fun K hK => ?_) AllReadyH.nil
                · refine step_want rfl (wp_store_row 40 (.tmp 3) (.tmp 17) rfl u5.heap.size #[.int .i64 1, .int .i64 2, .slice (some ⟨u4.heap.size, 0, none⟩) 2 2] rfl rfl 40 _ a6 s40 rfl (by simp [Value.oneCell']) ?_)
                  have e7 := a6
                  have m7 : U.heap.size ≤ u5.heap.size := hS5.size
                  refine koS hK hS6 m7 e7 (fun u7 a7 o7 hS7 => ?_)
                  clear hK K
                  refine dn ?_
                  go_wp2_with fail
                  go_meet
                  exact ⟨u0.heap.size, u3.heap.size, u2.heap.size, u4.heap.size, u5.heap.size, rfl, hS7, o7 _ _ _ (by omega) (((((a1.bl d2).bl d3).bl d4).bl d5).bl d6), o7 _ _ _ (by omega) ((a4.bl d5).bl d6), o7 _ _ _ (by omega) (((a3.bl d4).bl d5).bl d6), o7 _ _ _ (by omega) (a5.bl d6), a7⟩
            · go_simp
              go_wp2_with fail
              refine koA hK hS4 hS4.size (fun u5 d5 a5 l5 hS5 => ?_)
              clear hK K
              refine wpAnyH_ready (rs := [9]) (by kernel_rfl) (by simp) ?_
              refine AllReadyH.cons (o := ⟨_, _, _, _, _, _⟩) rfl (fun K hK => ?_) AllReadyH.nil
              · go_simp
                go_wp2_with fail
                refine koA hK hS5 hS5.size (fun u6 d6 a6 l6 hS6 => ?_)
                clear hK K
                refine tk 10 rfl ?_
                refine wpAnyH_ready (rs := [12]) (by kernel_rfl) (by simp) ?_
                refine AllReadyH.cons (o := ⟨_, _, _, _, _, _⟩) rfl (fun K hK => ?_) AllReadyH.nil
                · refine step_want rfl (wp_store_row 40 (.tmp 3) (.tmp 17) rfl u4.heap.size #[.int .i64 1, .int .i64 2, .slice (some ⟨u5.heap.size, 0, none⟩) 2 2] rfl rfl 40 _ (a5.bl d6) s40 rfl (by simp [Value.oneCell']) ?_)
                  have e7 := (a5.bl d6)
                  have m7 : U.heap.size ≤ u4.heap.size := hS4.size
                  refine koS hK hS6 m7 e7 (fun u7 a7 o7 hS7 => ?_)
                  clear hK K
                  refine dn ?_
                  go_wp2_with fail
                  go_meet
                  exact ⟨u0.heap.size, u3.heap.size, u2.heap.size, u5.heap.size, u4.heap.size, rfl, hS7, o7 _ _ _ (by omega) (((((a1.bl d2).bl d3).bl d4).bl d5).bl d6), o7 _ _ _ (by omega) ((a4.bl d5).bl d6), o7 _ _ _ (by omega) (((a3.bl d4).bl d5).bl d6), o7 _ _ _ (by omega) a6, a7⟩
          · go_simp
            go_wp2_with fail
            refine koA hK hS3 hS3.size (fun u4 d4 a4 l4 hS4 => ?_)
            clear hK K
            refine wpAnyH_ready (rs := [4]) (by kernel_rfl) (by simp) ?_
            refine AllReadyH.cons (o := ⟨_, _, _, _, _, _⟩) rfl (fun K hK => ?_) AllReadyH.nil
            · go_simp
              go_wp2_with fail
              refine koA hK hS4 hS4.size (fun u5 d5 a5 l5 hS5 => ?_)
              clear hK K
              refine tk 5 rfl ?_
              refine wpAnyH_ready (rs := [9]) (by kernel_rfl) (by simp) ?_
              refine AllReadyH.cons (o := ⟨_, _, _, _, _, _⟩) rfl (fun K hK => ?_) AllReadyH.nil
              · go_simp
                go_wp2_with fail
                refine koA hK hS5 hS5.size (fun u6 d6 a6 l6 hS6 => ?_)
                clear hK K
                refine tk 10 rfl ?_
                refine wpAnyH_ready (rs := [12]) (by kernel_rfl) (by simp) ?_
                refine AllReadyH.cons (o := ⟨_, _, _, _, _, _⟩) rfl (fun K hK => ?_) AllReadyH.nil
                · refine step_want rfl (wp_store_row 40 (.tmp 3) (.tmp 17) rfl u3.heap.size #[.int .i64 1, .int .i64 2, .slice (some ⟨u5.heap.size, 0, none⟩) 2 2] rfl rfl 40 _ ((a4.bl d5).bl d6) s40 rfl (by simp [Value.oneCell']) ?_)
                  have e7 := ((a4.bl d5).bl d6)
                  have m7 : U.heap.size ≤ u3.heap.size := hS3.size
                  refine koS hK hS6 m7 e7 (fun u7 a7 o7 hS7 => ?_)
                  clear hK K
                  refine dn ?_
                  go_wp2_with fail
                  go_meet
                  exact ⟨u0.heap.size, u4.heap.size, u2.heap.size, u5.heap.size, u3.heap.size, rfl, hS7, o7 _ _ _ (by omega) (((((a1.bl d2).bl d3).bl d4).bl d5).bl d6), o7 _ _ _ (by omega) (a5.bl d6), o7 _ _ _ (by omega) (((a3.bl d4).bl d5).bl d6), o7 _ _ _ (by omega) a6, a7⟩
        · go_simp
          go_wp2_with fail
          refine koA hK hS2 hS2.size (fun u3 d3 a3 l3 hS3 => ?_)
          clear hK K
          refine wpAnyH_ready (rs := [4, 7]) (by kernel_rfl) (by simp) ?_
          refine AllReadyH.cons (o := ⟨_, _, _, _, _, _⟩) rfl (fun K hK => ?_) (AllReadyH.cons (o := ⟨_, _, _, _, _, _⟩) rfl (fun K hK => ?_) AllReadyH.nil)
          · go_simp
            go_wp2_with fail
            refine koA hK hS3 hS3.size (fun u4 d4 a4 l4 hS4 => ?_)
            clear hK K
            refine tk 5 rfl ?_
            refine wpAnyH_ready (rs := [7]) (by kernel_rfl) (by simp) ?_
            refine AllReadyH.cons (o := ⟨_, _, _, _, _, _⟩) rfl (fun K hK => ?_) AllReadyH.nil
            · go_simp
              go_wp2_with fail
              refine koA hK hS4 hS4.size (fun u5 d5 a5 l5 hS5 => ?_)
              clear hK K
              refine tk 8 rfl ?_
              refine wpAnyH_ready (rs := [9]) (by kernel_rfl) (by simp) ?_
              refine AllReadyH.cons (o := ⟨_, _, _, _, _, _⟩) rfl (fun K hK => ?_) AllReadyH.nil
              · go_simp
                go_wp2_with fail
                refine koA hK hS5 hS5.size (fun u6 d6 a6 l6 hS6 => ?_)
                clear hK K
                refine tk 10 rfl ?_
                refine wpAnyH_ready (rs := [12]) (by kernel_rfl) (by simp) ?_
                refine AllReadyH.cons (o := ⟨_, _, _, _, _, _⟩) rfl (fun K hK => ?_) AllReadyH.nil
                · refine step_want rfl (wp_store_row 40 (.tmp 3) (.tmp 17) rfl u2.heap.size #[.int .i64 1, .int .i64 2, .slice (some ⟨u5.heap.size, 0, none⟩) 2 2] rfl rfl 40 _ (((a3.bl d4).bl d5).bl d6) s40 rfl (by simp [Value.oneCell']) ?_)
                  have e7 := (((a3.bl d4).bl d5).bl d6)
                  have m7 : U.heap.size ≤ u2.heap.size := hS2.size
                  refine koS hK hS6 m7 e7 (fun u7 a7 o7 hS7 => ?_)
                  clear hK K
                  refine dn ?_
                  go_wp2_with fail
                  go_meet
                  exact ⟨u0.heap.size, u3.heap.size, u4.heap.size, u5.heap.size, u2.heap.size, rfl, hS7, o7 _ _ _ (by omega) (((((a1.bl d2).bl d3).bl d4).bl d5).bl d6), o7 _ _ _ (by omega) ((a4.bl d5).bl d6), o7 _ _ _ (by omega) (a5.bl d6), o7 _ _ _ (by omega) a6, a7⟩
          · go_simp
            go_wp2_with fail
            refine koA hK hS3 hS3.size (fun u4 d4 a4 l4 hS4 => ?_)
            clear hK K
            refine tk 8 rfl ?_
            refine wpAnyH_ready (rs := [4]) (by kernel_rfl) (by simp) ?_
            refine AllReadyH.cons (o := ⟨_, _, _, _, _, _⟩) rfl (fun K hK => ?_) AllReadyH.nil
            · go_simp
              go_wp2_with fail
              refine koA hK hS4 hS4.size (fun u5 d5 a5 l5 hS5 => ?_)
              clear hK K
              refine tk 5 rfl ?_
              refine wpAnyH_ready (rs := [9]) (by kernel_rfl) (by simp) ?_
              refine AllReadyH.cons (o := ⟨_, _, _, _, _, _⟩) rfl (fun K hK => ?_) AllReadyH.nil
              · go_simp
                go_wp2_with fail
                refine koA hK hS5 hS5.size (fun u6 d6 a6 l6 hS6 => ?_)
                clear hK K
                refine tk 10 rfl ?_
                refine wpAnyH_ready (rs := [12]) (by kernel_rfl) (by simp) ?_
                refine AllReadyH.cons (o := ⟨_, _, _, _, _, _⟩) rfl (fun K hK => ?_) AllReadyH.nil
                · refine step_want rfl (wp_store_row 40 (.tmp 3) (.tmp 17) rfl u2.heap.size #[.int .i64 1, .int .i64 2, .slice (some ⟨u5.heap.size, 0, none⟩) 2 2] rfl rfl 40 _ (((a3.bl d4).bl d5).bl d6) s40 rfl (by simp [Value.oneCell']) ?_)
                  have e7 := (((a3.bl d4).bl d5).bl d6)
                  have m7 : U.heap.size ≤ u2.heap.size := hS2.size
                  refine koS hK hS6 m7 e7 (fun u7 a7 o7 hS7 => ?_)
                  clear hK K
                  refine dn ?_
                  go_wp2_with fail
                  go_meet
                  exact ⟨u0.heap.size, u4.heap.size, u3.heap.size, u5.heap.size, u2.heap.size, rfl, hS7, o7 _ _ _ (by omega) (((((a1.bl d2).bl d3).bl d4).bl d5).bl d6), o7 _ _ _ (by omega) (a5.bl d6), o7 _ _ _ (by omega) ((a4.bl d5).bl d6), o7 _ _ _ (by omega) a6, a7⟩
      · go_simp
        go_wp2_with fail
        refine koA hK hS1 hS1.size (fun u2 d2 a2 l2 hS2 => ?_)
        clear hK K
        refine wpAnyH_ready (rs := [4, 6]) (by kernel_rfl) (by simp) ?_
        refine AllReadyH.cons (o := ⟨_, _, _, _, _, _⟩) rfl (fun K hK => ?_) (AllReadyH.cons (o := ⟨_, _, _, _, _, _⟩) rfl (fun K hK => ?_) AllReadyH.nil)
        · go_simp
          go_wp2_with fail
          refine koA hK hS2 hS2.size (fun u3 d3 a3 l3 hS3 => ?_)
          clear hK K
          refine tk 5 rfl ?_
          refine wpAnyH_ready (rs := [6]) (by kernel_rfl) (by simp) ?_
          refine AllReadyH.cons (o := ⟨_, _, _, _, _, _⟩) rfl (fun K hK => ?_) AllReadyH.nil
          · go_simp
            refine (var_any 1 _ (by decide)).mono ?_
            rintro e u4 ⟨rfl, d4⟩
            go_wp2_with fail
            refine ko hK (hS3.trans (d4.mono hS3.size)) (fun hS4 => ?_)
            clear hK K
            have l4 := d4.size
            refine wpAnyH_ready (rs := [7]) (by kernel_rfl) (by simp) ?_
            refine AllReadyH.cons (o := ⟨_, _, _, _, _, _⟩) rfl (fun K hK => ?_) AllReadyH.nil
            · go_simp
              go_wp2_with fail
              refine koA hK hS4 hS4.size (fun u5 d5 a5 l5 hS5 => ?_)
              clear hK K
              refine tk 8 rfl ?_
              refine wpAnyH_ready (rs := [9]) (by kernel_rfl) (by simp) ?_
              refine AllReadyH.cons (o := ⟨_, _, _, _, _, _⟩) rfl (fun K hK => ?_) AllReadyH.nil
              · go_simp
                go_wp2_with fail
                refine koA hK hS5 hS5.size (fun u6 d6 a6 l6 hS6 => ?_)
                clear hK K
                refine tk 10 rfl ?_
                refine wpAnyH_ready (rs := [12]) (by kernel_rfl) (by simp) ?_
                refine AllReadyH.cons (o := ⟨_, _, _, _, _, _⟩) rfl (fun K hK => ?_) AllReadyH.nil
                · refine step_want rfl (wp_store_row 40 (.tmp 3) (.tmp 17) rfl u1.heap.size #[.int .i64 1, .int .i64 2, .slice (some ⟨u5.heap.size, 0, none⟩) 2 2] rfl rfl 40 _ ((((a2.bl d3).bl d4).bl d5).bl d6) s40 rfl (by simp [Value.oneCell']) ?_)
                  have e7 := ((((a2.bl d3).bl d4).bl d5).bl d6)
                  have m7 : U.heap.size ≤ u1.heap.size := hS1.size
                  refine koS hK hS6 m7 e7 (fun u7 a7 o7 hS7 => ?_)
                  clear hK K
                  refine dn ?_
                  go_wp2_with fail
                  go_meet
                  exact ⟨u0.heap.size, u2.heap.size, u4.heap.size, u5.heap.size, u1.heap.size, rfl, hS7, o7 _ _ _ (by omega) (((((a1.bl d2).bl d3).bl d4).bl d5).bl d6), o7 _ _ _ (by omega) (((a3.bl d4).bl d5).bl d6), o7 _ _ _ (by omega) (a5.bl d6), o7 _ _ _ (by omega) a6, a7⟩
        · go_simp
          refine (var_any 1 _ (by decide)).mono ?_
          rintro e u3 ⟨rfl, d3⟩
          go_wp2_with fail
          refine ko hK (hS2.trans (d3.mono hS2.size)) (fun hS3 => ?_)
          clear hK K
          have l3 := d3.size
          refine wpAnyH_ready (rs := [4, 7]) (by kernel_rfl) (by simp) ?_
          refine AllReadyH.cons (o := ⟨_, _, _, _, _, _⟩) rfl (fun K hK => ?_) (AllReadyH.cons (o := ⟨_, _, _, _, _, _⟩) rfl (fun K hK => ?_) AllReadyH.nil)
          · go_simp
            go_wp2_with fail
            refine koA hK hS3 hS3.size (fun u4 d4 a4 l4 hS4 => ?_)
            clear hK K
            refine tk 5 rfl ?_
            refine wpAnyH_ready (rs := [7]) (by kernel_rfl) (by simp) ?_
            refine AllReadyH.cons (o := ⟨_, _, _, _, _, _⟩) rfl (fun K hK => ?_) AllReadyH.nil
            · go_simp
              go_wp2_with fail
              refine koA hK hS4 hS4.size (fun u5 d5 a5 l5 hS5 => ?_)
              clear hK K
              refine tk 8 rfl ?_
              refine wpAnyH_ready (rs := [9]) (by kernel_rfl) (by simp) ?_
              refine AllReadyH.cons (o := ⟨_, _, _, _, _, _⟩) rfl (fun K hK => ?_) AllReadyH.nil
              · go_simp
                go_wp2_with fail
                refine koA hK hS5 hS5.size (fun u6 d6 a6 l6 hS6 => ?_)
                clear hK K
                refine tk 10 rfl ?_
                refine wpAnyH_ready (rs := [12]) (by kernel_rfl) (by simp) ?_
                refine AllReadyH.cons (o := ⟨_, _, _, _, _, _⟩) rfl (fun K hK => ?_) AllReadyH.nil
                · refine step_want rfl (wp_store_row 40 (.tmp 3) (.tmp 17) rfl u1.heap.size #[.int .i64 1, .int .i64 2, .slice (some ⟨u5.heap.size, 0, none⟩) 2 2] rfl rfl 40 _ ((((a2.bl d3).bl d4).bl d5).bl d6) s40 rfl (by simp [Value.oneCell']) ?_)
                  have e7 := ((((a2.bl d3).bl d4).bl d5).bl d6)
                  have m7 : U.heap.size ≤ u1.heap.size := hS1.size
                  refine koS hK hS6 m7 e7 (fun u7 a7 o7 hS7 => ?_)
                  clear hK K
                  refine dn ?_
                  go_wp2_with fail
                  go_meet
                  exact ⟨u0.heap.size, u3.heap.size, u4.heap.size, u5.heap.size, u1.heap.size, rfl, hS7, o7 _ _ _ (by omega) (((((a1.bl d2).bl d3).bl d4).bl d5).bl d6), o7 _ _ _ (by omega) ((a4.bl d5).bl d6), o7 _ _ _ (by omega) (a5.bl d6), o7 _ _ _ (by omega) a6, a7⟩
          · go_simp
            go_wp2_with fail
            refine koA hK hS3 hS3.size (fun u4 d4 a4 l4 hS4 => ?_)
            clear hK K
            refine tk 8 rfl ?_
            refine wpAnyH_ready (rs := [4]) (by kernel_rfl) (by simp) ?_
            refine AllReadyH.cons (o := ⟨_, _, _, _, _, _⟩) rfl (fun K hK => ?_) AllReadyH.nil
            · go_simp
              go_wp2_with fail
              refine koA hK hS4 hS4.size (fun u5 d5 a5 l5 hS5 => ?_)
              clear hK K
              refine tk 5 rfl ?_
              refine wpAnyH_ready (rs := [9]) (by kernel_rfl) (by simp) ?_
              refine AllReadyH.cons (o := ⟨_, _, _, _, _, _⟩) rfl (fun K hK => ?_) AllReadyH.nil
              · go_simp
                go_wp2_with fail
                refine koA hK hS5 hS5.size (fun u6 d6 a6 l6 hS6 => ?_)
                clear hK K
                refine tk 10 rfl ?_
                refine wpAnyH_ready (rs := [12]) (by kernel_rfl) (by simp) ?_
                refine AllReadyH.cons (o := ⟨_, _, _, _, _, _⟩) rfl (fun K hK => ?_) AllReadyH.nil
                · refine step_want rfl (wp_store_row 40 (.tmp 3) (.tmp 17) rfl u1.heap.size #[.int .i64 1, .int .i64 2, .slice (some ⟨u5.heap.size, 0, none⟩) 2 2] rfl rfl 40 _ ((((a2.bl d3).bl d4).bl d5).bl d6) s40 rfl (by simp [Value.oneCell']) ?_)
                  have e7 := ((((a2.bl d3).bl d4).bl d5).bl d6)
                  have m7 : U.heap.size ≤ u1.heap.size := hS1.size
                  refine koS hK hS6 m7 e7 (fun u7 a7 o7 hS7 => ?_)
                  clear hK K
                  refine dn ?_
                  go_wp2_with fail
                  go_meet
                  exact ⟨u0.heap.size, u4.heap.size, u3.heap.size, u5.heap.size, u1.heap.size, rfl, hS7, o7 _ _ _ (by omega) (((((a1.bl d2).bl d3).bl d4).bl d5).bl d6), o7 _ _ _ (by omega) (a5.bl d6), o7 _ _ _ (by omega) ((a4.bl d5).bl d6), o7 _ _ _ (by omega) a6, a7⟩
    · go_simp
      refine (var_any 1 _ (by decide)).mono ?_
      rintro e u1 ⟨rfl, d1⟩
      go_wp2_with fail
      refine ko hK (hS0.trans (d1.mono hS0.size)) (fun hS1 => ?_)
      clear hK K
      have l1 := d1.size
      refine wpAnyH_ready (rs := [2, 7, 11]) (by kernel_rfl) (by simp) ?_
      refine AllReadyH.cons (o := ⟨_, _, _, _, _, _⟩) rfl (fun K hK => ?_) (AllReadyH.cons (o := ⟨_, _, _, _, _, _⟩) rfl (fun K hK => ?_) (AllReadyH.cons (o := ⟨_, _, _, _, _, _⟩) rfl (fun K hK => ?_) AllReadyH.nil))
      · go_simp
        go_wp2_with fail
        refine koA hK hS1 hS1.size (fun u2 d2 a2 l2 hS2 => ?_)
        clear hK K
        refine tk 3 rfl ?_
        refine wpAnyH_ready (rs := [4, 7, 11]) (by kernel_rfl) (by simp) ?_
        refine AllReadyH.cons (o := ⟨_, _, _, _, _, _⟩) rfl (fun K hK => ?_) (AllReadyH.cons (o := ⟨_, _, _, _, _, _⟩) rfl (fun K hK => ?_) (AllReadyH.cons (o := ⟨_, _, _, _, _, _⟩) rfl (fun K hK => ?_) AllReadyH.nil))
        · go_simp
          go_wp2_with fail
          refine koA hK hS2 hS2.size (fun u3 d3 a3 l3 hS3 => ?_)
          clear hK K
          refine tk 5 rfl ?_
          refine wpAnyH_ready (rs := [7, 11]) (by kernel_rfl) (by simp) ?_
          refine AllReadyH.cons (o := ⟨_, _, _, _, _, _⟩) rfl (fun K hK => ?_) (AllReadyH.cons (o := ⟨_, _, _, _, _, _⟩) rfl (fun K hK => ?_) AllReadyH.nil)
          · go_simp
            go_wp2_with fail
            refine koA hK hS3 hS3.size (fun u4 d4 a4 l4 hS4 => ?_)
            clear hK K
            refine tk 8 rfl ?_
            refine wpAnyH_ready (rs := [9, 11]) (by kernel_rfl) (by simp) ?_
            refine AllReadyH.cons (o := ⟨_, _, _, _, _, _⟩) rfl (fun K hK => ?_) (AllReadyH.cons (o := ⟨_, _, _, _, _, _⟩) rfl (fun K hK => ?_) AllReadyH.nil)
            · go_simp
              go_wp2_with fail
              refine koA hK hS4 hS4.size (fun u5 d5 a5 l5 hS5 => ?_)
              clear hK K
              refine tk 10 rfl ?_
              refine wpAnyH_ready (rs := [11]) (by kernel_rfl) (by simp) ?_
              refine AllReadyH.cons (o := ⟨_, _, _, _, _, _⟩) rfl (fun K hK => ?_) AllReadyH.nil
              · go_simp
                go_wp2_with fail
                refine koA hK hS5 hS5.size (fun u6 d6 a6 l6 hS6 => ?_)
                clear hK K
                refine wpAnyH_ready (rs := [12]) (by kernel_rfl) (by simp) ?_
                refine AllReadyH.cons (o := ⟨_, _, _, _, _, _⟩) rfl (fun K hK => ?_) AllReadyH.nil
                · refine step_want rfl (wp_store_row 40 (.tmp 3) (.tmp 17) rfl u5.heap.size #[.int .i64 1, .int .i64 2, .slice (some ⟨u4.heap.size, 0, none⟩) 2 2] rfl rfl 40 _ a6 s40 rfl (by simp [Value.oneCell']) ?_)
                  have e7 := a6
                  have m7 : U.heap.size ≤ u5.heap.size := hS5.size
                  refine koS hK hS6 m7 e7 (fun u7 a7 o7 hS7 => ?_)
                  clear hK K
                  refine dn ?_
                  go_wp2_with fail
                  go_meet
                  exact ⟨u1.heap.size, u2.heap.size, u3.heap.size, u4.heap.size, u5.heap.size, rfl, hS7, o7 _ _ _ (by omega) ((((a2.bl d3).bl d4).bl d5).bl d6), o7 _ _ _ (by omega) (((a3.bl d4).bl d5).bl d6), o7 _ _ _ (by omega) ((a4.bl d5).bl d6), o7 _ _ _ (by omega) (a5.bl d6), a7⟩
            · go_simp
              go_wp2_with fail
              refine koA hK hS4 hS4.size (fun u5 d5 a5 l5 hS5 => ?_)
              clear hK K
              refine wpAnyH_ready (rs := [9]) (by kernel_rfl) (by simp) ?_
              refine AllReadyH.cons (o := ⟨_, _, _, _, _, _⟩) rfl (fun K hK => ?_) AllReadyH.nil
              · go_simp
                go_wp2_with fail
                refine koA hK hS5 hS5.size (fun u6 d6 a6 l6 hS6 => ?_)
                clear hK K
                refine tk 10 rfl ?_
                refine wpAnyH_ready (rs := [12]) (by kernel_rfl) (by simp) ?_
                refine AllReadyH.cons (o := ⟨_, _, _, _, _, _⟩) rfl (fun K hK => ?_) AllReadyH.nil
                · refine step_want rfl (wp_store_row 40 (.tmp 3) (.tmp 17) rfl u4.heap.size #[.int .i64 1, .int .i64 2, .slice (some ⟨u5.heap.size, 0, none⟩) 2 2] rfl rfl 40 _ (a5.bl d6) s40 rfl (by simp [Value.oneCell']) ?_)
                  have e7 := (a5.bl d6)
                  have m7 : U.heap.size ≤ u4.heap.size := hS4.size
                  refine koS hK hS6 m7 e7 (fun u7 a7 o7 hS7 => ?_)
                  clear hK K
                  refine dn ?_
                  go_wp2_with fail
                  go_meet
                  exact ⟨u1.heap.size, u2.heap.size, u3.heap.size, u5.heap.size, u4.heap.size, rfl, hS7, o7 _ _ _ (by omega) ((((a2.bl d3).bl d4).bl d5).bl d6), o7 _ _ _ (by omega) (((a3.bl d4).bl d5).bl d6), o7 _ _ _ (by omega) ((a4.bl d5).bl d6), o7 _ _ _ (by omega) a6, a7⟩
          · go_simp
            go_wp2_with fail
            refine koA hK hS3 hS3.size (fun u4 d4 a4 l4 hS4 => ?_)
            clear hK K
            refine wpAnyH_ready (rs := [7]) (by kernel_rfl) (by simp) ?_
            refine AllReadyH.cons (o := ⟨_, _, _, _, _, _⟩) rfl (fun K hK => ?_) AllReadyH.nil
            · go_simp
              go_wp2_with fail
              refine koA hK hS4 hS4.size (fun u5 d5 a5 l5 hS5 => ?_)
              clear hK K
              refine tk 8 rfl ?_
              refine wpAnyH_ready (rs := [9]) (by kernel_rfl) (by simp) ?_
              refine AllReadyH.cons (o := ⟨_, _, _, _, _, _⟩) rfl (fun K hK => ?_) AllReadyH.nil
              · go_simp
                go_wp2_with fail
                refine koA hK hS5 hS5.size (fun u6 d6 a6 l6 hS6 => ?_)
                clear hK K
                refine tk 10 rfl ?_
                refine wpAnyH_ready (rs := [12]) (by kernel_rfl) (by simp) ?_
                refine AllReadyH.cons (o := ⟨_, _, _, _, _, _⟩) rfl (fun K hK => ?_) AllReadyH.nil
                · refine step_want rfl (wp_store_row 40 (.tmp 3) (.tmp 17) rfl u3.heap.size #[.int .i64 1, .int .i64 2, .slice (some ⟨u5.heap.size, 0, none⟩) 2 2] rfl rfl 40 _ ((a4.bl d5).bl d6) s40 rfl (by simp [Value.oneCell']) ?_)
                  have e7 := ((a4.bl d5).bl d6)
                  have m7 : U.heap.size ≤ u3.heap.size := hS3.size
                  refine koS hK hS6 m7 e7 (fun u7 a7 o7 hS7 => ?_)
                  clear hK K
                  refine dn ?_
                  go_wp2_with fail
                  go_meet
                  exact ⟨u1.heap.size, u2.heap.size, u4.heap.size, u5.heap.size, u3.heap.size, rfl, hS7, o7 _ _ _ (by omega) ((((a2.bl d3).bl d4).bl d5).bl d6), o7 _ _ _ (by omega) (((a3.bl d4).bl d5).bl d6), o7 _ _ _ (by omega) (a5.bl d6), o7 _ _ _ (by omega) a6, a7⟩
        · go_simp
          go_wp2_with fail
          refine koA hK hS2 hS2.size (fun u3 d3 a3 l3 hS3 => ?_)
          clear hK K
          refine tk 8 rfl ?_
          refine wpAnyH_ready (rs := [4, 11]) (by kernel_rfl) (by simp) ?_
          refine AllReadyH.cons (o := ⟨_, _, _, _, _, _⟩) rfl (fun K hK => ?_) (AllReadyH.cons (o := ⟨_, _, _, _, _, _⟩) rfl (fun K hK => ?_) AllReadyH.nil)
          · go_simp
            go_wp2_with fail
            refine koA hK hS3 hS3.size (fun u4 d4 a4 l4 hS4 => ?_)
            clear hK K
            refine tk 5 rfl ?_
            refine wpAnyH_ready (rs := [9, 11]) (by kernel_rfl) (by simp) ?_
            refine AllReadyH.cons (o := ⟨_, _, _, _, _, _⟩) rfl (fun K hK => ?_) (AllReadyH.cons (o := ⟨_, _, _, _, _, _⟩) rfl (fun K hK => ?_) AllReadyH.nil)
            · go_simp
              go_wp2_with fail
              refine koA hK hS4 hS4.size (fun u5 d5 a5 l5 hS5 => ?_)
              clear hK K
              refine tk 10 rfl ?_
              refine wpAnyH_ready (rs := [11]) (by kernel_rfl) (by simp) ?_
              refine AllReadyH.cons (o := ⟨_, _, _, _, _, _⟩) rfl (fun K hK => ?_) AllReadyH.nil
              · go_simp
                go_wp2_with fail
                refine koA hK hS5 hS5.size (fun u6 d6 a6 l6 hS6 => ?_)
                clear hK K
                refine wpAnyH_ready (rs := [12]) (by kernel_rfl) (by simp) ?_
                refine AllReadyH.cons (o := ⟨_, _, _, _, _, _⟩) rfl (fun K hK => ?_) AllReadyH.nil
                · refine step_want rfl (wp_store_row 40 (.tmp 3) (.tmp 17) rfl u5.heap.size #[.int .i64 1, .int .i64 2, .slice (some ⟨u4.heap.size, 0, none⟩) 2 2] rfl rfl 40 _ a6 s40 rfl (by simp [Value.oneCell']) ?_)
                  have e7 := a6
                  have m7 : U.heap.size ≤ u5.heap.size := hS5.size
                  refine koS hK hS6 m7 e7 (fun u7 a7 o7 hS7 => ?_)
                  clear hK K
                  refine dn ?_
                  go_wp2_with fail
                  go_meet
                  exact ⟨u1.heap.size, u3.heap.size, u2.heap.size, u4.heap.size, u5.heap.size, rfl, hS7, o7 _ _ _ (by omega) ((((a2.bl d3).bl d4).bl d5).bl d6), o7 _ _ _ (by omega) ((a4.bl d5).bl d6), o7 _ _ _ (by omega) (((a3.bl d4).bl d5).bl d6), o7 _ _ _ (by omega) (a5.bl d6), a7⟩
            · go_simp
              go_wp2_with fail
              refine koA hK hS4 hS4.size (fun u5 d5 a5 l5 hS5 => ?_)
              clear hK K
              refine wpAnyH_ready (rs := [9]) (by kernel_rfl) (by simp) ?_
              refine AllReadyH.cons (o := ⟨_, _, _, _, _, _⟩) rfl (fun K hK => ?_) AllReadyH.nil
              · go_simp
                go_wp2_with fail
                refine koA hK hS5 hS5.size (fun u6 d6 a6 l6 hS6 => ?_)
                clear hK K
                refine tk 10 rfl ?_
                refine wpAnyH_ready (rs := [12]) (by kernel_rfl) (by simp) ?_
                refine AllReadyH.cons (o := ⟨_, _, _, _, _, _⟩) rfl (fun K hK => ?_) AllReadyH.nil
                · refine step_want rfl (wp_store_row 40 (.tmp 3) (.tmp 17) rfl u4.heap.size #[.int .i64 1, .int .i64 2, .slice (some ⟨u5.heap.size, 0, none⟩) 2 2] rfl rfl 40 _ (a5.bl d6) s40 rfl (by simp [Value.oneCell']) ?_)
                  have e7 := (a5.bl d6)
                  have m7 : U.heap.size ≤ u4.heap.size := hS4.size
                  refine koS hK hS6 m7 e7 (fun u7 a7 o7 hS7 => ?_)
                  clear hK K
                  refine dn ?_
                  go_wp2_with fail
                  go_meet
                  exact ⟨u1.heap.size, u3.heap.size, u2.heap.size, u5.heap.size, u4.heap.size, rfl, hS7, o7 _ _ _ (by omega) ((((a2.bl d3).bl d4).bl d5).bl d6), o7 _ _ _ (by omega) ((a4.bl d5).bl d6), o7 _ _ _ (by omega) (((a3.bl d4).bl d5).bl d6), o7 _ _ _ (by omega) a6, a7⟩
          · go_simp
            go_wp2_with fail
            refine koA hK hS3 hS3.size (fun u4 d4 a4 l4 hS4 => ?_)
            clear hK K
            refine wpAnyH_ready (rs := [4]) (by kernel_rfl) (by simp) ?_
            refine AllReadyH.cons (o := ⟨_, _, _, _, _, _⟩) rfl (fun K hK => ?_) AllReadyH.nil
            · go_simp
              go_wp2_with fail
              refine koA hK hS4 hS4.size (fun u5 d5 a5 l5 hS5 => ?_)
              clear hK K
              refine tk 5 rfl ?_
              refine wpAnyH_ready (rs := [9]) (by kernel_rfl) (by simp) ?_
              refine AllReadyH.cons (o := ⟨_, _, _, _, _, _⟩) rfl (fun K hK => ?_) AllReadyH.nil
              · go_simp
                go_wp2_with fail
                refine koA hK hS5 hS5.size (fun u6 d6 a6 l6 hS6 => ?_)
                clear hK K
                refine tk 10 rfl ?_
                refine wpAnyH_ready (rs := [12]) (by kernel_rfl) (by simp) ?_
                refine AllReadyH.cons (o := ⟨_, _, _, _, _, _⟩) rfl (fun K hK => ?_) AllReadyH.nil
                · refine step_want rfl (wp_store_row 40 (.tmp 3) (.tmp 17) rfl u3.heap.size #[.int .i64 1, .int .i64 2, .slice (some ⟨u5.heap.size, 0, none⟩) 2 2] rfl rfl 40 _ ((a4.bl d5).bl d6) s40 rfl (by simp [Value.oneCell']) ?_)
                  have e7 := ((a4.bl d5).bl d6)
                  have m7 : U.heap.size ≤ u3.heap.size := hS3.size
                  refine koS hK hS6 m7 e7 (fun u7 a7 o7 hS7 => ?_)
                  clear hK K
                  refine dn ?_
                  go_wp2_with fail
                  go_meet
                  exact ⟨u1.heap.size, u4.heap.size, u2.heap.size, u5.heap.size, u3.heap.size, rfl, hS7, o7 _ _ _ (by omega) ((((a2.bl d3).bl d4).bl d5).bl d6), o7 _ _ _ (by omega) (a5.bl d6), o7 _ _ _ (by omega) (((a3.bl d4).bl d5).bl d6), o7 _ _ _ (by omega) a6, a7⟩
        · go_simp
          go_wp2_with fail
          refine koA hK hS2 hS2.size (fun u3 d3 a3 l3 hS3 => ?_)
          clear hK K
          refine wpAnyH_ready (rs := [4, 7]) (by kernel_rfl) (by simp) ?_
          refine AllReadyH.cons (o := ⟨_, _, _, _, _, _⟩) rfl (fun K hK => ?_) (AllReadyH.cons (o := ⟨_, _, _, _, _, _⟩) rfl (fun K hK => ?_) AllReadyH.nil)
          · go_simp
            go_wp2_with fail
            refine koA hK hS3 hS3.size (fun u4 d4 a4 l4 hS4 => ?_)
            clear hK K
            refine tk 5 rfl ?_
            refine wpAnyH_ready (rs := [7]) (by kernel_rfl) (by simp) ?_
            refine AllReadyH.cons (o := ⟨_, _, _, _, _, _⟩) rfl (fun K hK => ?_) AllReadyH.nil
            · go_simp
              go_wp2_with fail
              refine koA hK hS4 hS4.size (fun u5 d5 a5 l5 hS5 => ?_)
              clear hK K
              refine tk 8 rfl ?_
              refine wpAnyH_ready (rs := [9]) (by kernel_rfl) (by simp) ?_
              refine AllReadyH.cons (o := ⟨_, _, _, _, _, _⟩) rfl (fun K hK => ?_) AllReadyH.nil
              · go_simp
                go_wp2_with fail
                refine koA hK hS5 hS5.size (fun u6 d6 a6 l6 hS6 => ?_)
                clear hK K
                refine tk 10 rfl ?_
                refine wpAnyH_ready (rs := [12]) (by kernel_rfl) (by simp) ?_
                refine AllReadyH.cons (o := ⟨_, _, _, _, _, _⟩) rfl (fun K hK => ?_) AllReadyH.nil
                · refine step_want rfl (wp_store_row 40 (.tmp 3) (.tmp 17) rfl u2.heap.size #[.int .i64 1, .int .i64 2, .slice (some ⟨u5.heap.size, 0, none⟩) 2 2] rfl rfl 40 _ (((a3.bl d4).bl d5).bl d6) s40 rfl (by simp [Value.oneCell']) ?_)
                  have e7 := (((a3.bl d4).bl d5).bl d6)
                  have m7 : U.heap.size ≤ u2.heap.size := hS2.size
                  refine koS hK hS6 m7 e7 (fun u7 a7 o7 hS7 => ?_)
                  clear hK K
                  refine dn ?_
                  go_wp2_with fail
                  go_meet
                  exact ⟨u1.heap.size, u3.heap.size, u4.heap.size, u5.heap.size, u2.heap.size, rfl, hS7, o7 _ _ _ (by omega) ((((a2.bl d3).bl d4).bl d5).bl d6), o7 _ _ _ (by omega) ((a4.bl d5).bl d6), o7 _ _ _ (by omega) (a5.bl d6), o7 _ _ _ (by omega) a6, a7⟩
          · go_simp
            go_wp2_with fail
            refine koA hK hS3 hS3.size (fun u4 d4 a4 l4 hS4 => ?_)
            clear hK K
            refine tk 8 rfl ?_
            refine wpAnyH_ready (rs := [4]) (by kernel_rfl) (by simp) ?_
            refine AllReadyH.cons (o := ⟨_, _, _, _, _, _⟩) rfl (fun K hK => ?_) AllReadyH.nil
            · go_simp
              go_wp2_with fail
              refine koA hK hS4 hS4.size (fun u5 d5 a5 l5 hS5 => ?_)
              clear hK K
              refine tk 5 rfl ?_
              refine wpAnyH_ready (rs := [9]) (by kernel_rfl) (by simp) ?_
              refine AllReadyH.cons (o := ⟨_, _, _, _, _, _⟩) rfl (fun K hK => ?_) AllReadyH.nil
              · go_simp
                go_wp2_with fail
                refine koA hK hS5 hS5.size (fun u6 d6 a6 l6 hS6 => ?_)
                clear hK K
                refine tk 10 rfl ?_
                refine wpAnyH_ready (rs := [12]) (by kernel_rfl) (by simp) ?_
                refine AllReadyH.cons (o := ⟨_, _, _, _, _, _⟩) rfl (fun K hK => ?_) AllReadyH.nil
                · refine step_want rfl (wp_store_row 40 (.tmp 3) (.tmp 17) rfl u2.heap.size #[.int .i64 1, .int .i64 2, .slice (some ⟨u5.heap.size, 0, none⟩) 2 2] rfl rfl 40 _ (((a3.bl d4).bl d5).bl d6) s40 rfl (by simp [Value.oneCell']) ?_)
                  have e7 := (((a3.bl d4).bl d5).bl d6)
                  have m7 : U.heap.size ≤ u2.heap.size := hS2.size
                  refine koS hK hS6 m7 e7 (fun u7 a7 o7 hS7 => ?_)
                  clear hK K
                  refine dn ?_
                  go_wp2_with fail
                  go_meet
                  exact ⟨u1.heap.size, u4.heap.size, u3.heap.size, u5.heap.size, u2.heap.size, rfl, hS7, o7 _ _ _ (by omega) ((((a2.bl d3).bl d4).bl d5).bl d6), o7 _ _ _ (by omega) (a5.bl d6), o7 _ _ _ (by omega) ((a4.bl d5).bl d6), o7 _ _ _ (by omega) a6, a7⟩
      · go_simp
        go_wp2_with fail
        refine koA hK hS1 hS1.size (fun u2 d2 a2 l2 hS2 => ?_)
        clear hK K
        refine tk 8 rfl ?_
        refine wpAnyH_ready (rs := [2, 11]) (by kernel_rfl) (by simp) ?_
        refine AllReadyH.cons (o := ⟨_, _, _, _, _, _⟩) rfl (fun K hK => ?_) (AllReadyH.cons (o := ⟨_, _, _, _, _, _⟩) rfl (fun K hK => ?_) AllReadyH.nil)
        · go_simp
          go_wp2_with fail
          refine koA hK hS2 hS2.size (fun u3 d3 a3 l3 hS3 => ?_)
          clear hK K
          refine tk 3 rfl ?_
          refine wpAnyH_ready (rs := [4, 11]) (by kernel_rfl) (by simp) ?_
          refine AllReadyH.cons (o := ⟨_, _, _, _, _, _⟩) rfl (fun K hK => ?_) (AllReadyH.cons (o := ⟨_, _, _, _, _, _⟩) rfl (fun K hK => ?_) AllReadyH.nil)
          · go_simp
            go_wp2_with fail
            refine koA hK hS3 hS3.size (fun u4 d4 a4 l4 hS4 => ?_)
            clear hK K
            refine tk 5 rfl ?_
            refine wpAnyH_ready (rs := [9, 11]) (by kernel_rfl) (by simp) ?_
            refine AllReadyH.cons (o := ⟨_, _, _, _, _, _⟩) rfl (fun K hK => ?_) (AllReadyH.cons (o := ⟨_, _, _, _, _, _⟩) rfl (fun K hK => ?_) AllReadyH.nil)
            · go_simp
              go_wp2_with fail
              refine koA hK hS4 hS4.size (fun u5 d5 a5 l5 hS5 => ?_)
              clear hK K
              refine tk 10 rfl ?_
              refine wpAnyH_ready (rs := [11]) (by kernel_rfl) (by simp) ?_
              refine AllReadyH.cons (o := ⟨_, _, _, _, _, _⟩) rfl (fun K hK => ?_) AllReadyH.nil
              · go_simp
                go_wp2_with fail
                refine koA hK hS5 hS5.size (fun u6 d6 a6 l6 hS6 => ?_)
                clear hK K
                refine wpAnyH_ready (rs := [12]) (by kernel_rfl) (by simp) ?_
                refine AllReadyH.cons (o := ⟨_, _, _, _, _, _⟩) rfl (fun K hK => ?_) AllReadyH.nil
                · refine step_want rfl (wp_store_row 40 (.tmp 3) (.tmp 17) rfl u5.heap.size #[.int .i64 1, .int .i64 2, .slice (some ⟨u4.heap.size, 0, none⟩) 2 2] rfl rfl 40 _ a6 s40 rfl (by simp [Value.oneCell']) ?_)
                  have e7 := a6
                  have m7 : U.heap.size ≤ u5.heap.size := hS5.size
                  refine koS hK hS6 m7 e7 (fun u7 a7 o7 hS7 => ?_)
                  clear hK K
                  refine dn ?_
                  go_wp2_with fail
                  go_meet
                  exact ⟨u2.heap.size, u3.heap.size, u1.heap.size, u4.heap.size, u5.heap.size, rfl, hS7, o7 _ _ _ (by omega) (((a3.bl d4).bl d5).bl d6), o7 _ _ _ (by omega) ((a4.bl d5).bl d6), o7 _ _ _ (by omega) ((((a2.bl d3).bl d4).bl d5).bl d6), o7 _ _ _ (by omega) (a5.bl d6), a7⟩
            · go_simp
              go_wp2_with fail
              refine koA hK hS4 hS4.size (fun u5 d5 a5 l5 hS5 => ?_)
              clear hK K
              refine wpAnyH_ready (rs := [9]) (by kernel_rfl) (by simp) ?_
              refine AllReadyH.cons (o := ⟨_, _, _, _, _, _⟩) rfl (fun K hK => ?_) AllReadyH.nil
              · go_simp
                go_wp2_with fail
                refine koA hK hS5 hS5.size (fun u6 d6 a6 l6 hS6 => ?_)
                clear hK K
                refine tk 10 rfl ?_
                refine wpAnyH_ready (rs := [12]) (by kernel_rfl) (by simp) ?_
                refine AllReadyH.cons (o := ⟨_, _, _, _, _, _⟩) rfl (fun K hK => ?_) AllReadyH.nil
                · refine step_want rfl (wp_store_row 40 (.tmp 3) (.tmp 17) rfl u4.heap.size #[.int .i64 1, .int .i64 2, .slice (some ⟨u5.heap.size, 0, none⟩) 2 2] rfl rfl 40 _ (a5.bl d6) s40 rfl (by simp [Value.oneCell']) ?_)
                  have e7 := (a5.bl d6)
                  have m7 : U.heap.size ≤ u4.heap.size := hS4.size
                  refine koS hK hS6 m7 e7 (fun u7 a7 o7 hS7 => ?_)
                  clear hK K
                  refine dn ?_
                  go_wp2_with fail
                  go_meet
                  exact ⟨u2.heap.size, u3.heap.size, u1.heap.size, u5.heap.size, u4.heap.size, rfl, hS7, o7 _ _ _ (by omega) (((a3.bl d4).bl d5).bl d6), o7 _ _ _ (by omega) ((a4.bl d5).bl d6), o7 _ _ _ (by omega) ((((a2.bl d3).bl d4).bl d5).bl d6), o7 _ _ _ (by omega) a6, a7⟩
          · go_simp
            go_wp2_with fail
            refine koA hK hS3 hS3.size (fun u4 d4 a4 l4 hS4 => ?_)
            clear hK K
            refine wpAnyH_ready (rs := [4]) (by kernel_rfl) (by simp) ?_
            refine AllReadyH.cons (o := ⟨_, _, _, _, _, _⟩) rfl (fun K hK => ?_) AllReadyH.nil
            · go_simp
              go_wp2_with fail
              refine koA hK hS4 hS4.size (fun u5 d5 a5 l5 hS5 => ?_)
              clear hK K
              refine tk 5 rfl ?_
              refine wpAnyH_ready (rs := [9]) (by kernel_rfl) (by simp) ?_
              refine AllReadyH.cons (o := ⟨_, _, _, _, _, _⟩) rfl (fun K hK => ?_) AllReadyH.nil
              · go_simp
                go_wp2_with fail
                refine koA hK hS5 hS5.size (fun u6 d6 a6 l6 hS6 => ?_)
                clear hK K
                refine tk 10 rfl ?_
                refine wpAnyH_ready (rs := [12]) (by kernel_rfl) (by simp) ?_
                refine AllReadyH.cons (o := ⟨_, _, _, _, _, _⟩) rfl (fun K hK => ?_) AllReadyH.nil
                · refine step_want rfl (wp_store_row 40 (.tmp 3) (.tmp 17) rfl u3.heap.size #[.int .i64 1, .int .i64 2, .slice (some ⟨u5.heap.size, 0, none⟩) 2 2] rfl rfl 40 _ ((a4.bl d5).bl d6) s40 rfl (by simp [Value.oneCell']) ?_)
                  have e7 := ((a4.bl d5).bl d6)
                  have m7 : U.heap.size ≤ u3.heap.size := hS3.size
                  refine koS hK hS6 m7 e7 (fun u7 a7 o7 hS7 => ?_)
                  clear hK K
                  refine dn ?_
                  go_wp2_with fail
                  go_meet
                  exact ⟨u2.heap.size, u4.heap.size, u1.heap.size, u5.heap.size, u3.heap.size, rfl, hS7, o7 _ _ _ (by omega) (((a3.bl d4).bl d5).bl d6), o7 _ _ _ (by omega) (a5.bl d6), o7 _ _ _ (by omega) ((((a2.bl d3).bl d4).bl d5).bl d6), o7 _ _ _ (by omega) a6, a7⟩
        · go_simp
          go_wp2_with fail
          refine koA hK hS2 hS2.size (fun u3 d3 a3 l3 hS3 => ?_)
          clear hK K
          refine wpAnyH_ready (rs := [2]) (by kernel_rfl) (by simp) ?_
          refine AllReadyH.cons (o := ⟨_, _, _, _, _, _⟩) rfl (fun K hK => ?_) AllReadyH.nil
          · go_simp
            go_wp2_with fail
            refine koA hK hS3 hS3.size (fun u4 d4 a4 l4 hS4 => ?_)
            clear hK K
            refine tk 3 rfl ?_
            refine wpAnyH_ready (rs := [4]) (by kernel_rfl) (by simp) ?_
            refine AllReadyH.cons (o := ⟨_, _, _, _, _, _⟩) rfl (fun K hK => ?_) AllReadyH.nil
            · go_simp
              go_wp2_with fail
              refine koA hK hS4 hS4.size (fun u5 d5 a5 l5 hS5 => ?_)
              clear hK K
              refine tk 5 rfl ?_
              refine wpAnyH_ready (rs := [9]) (by kernel_rfl) (by simp) ?_
              refine AllReadyH.cons (o := ⟨_, _, _, _, _, _⟩) rfl (fun K hK => ?_) AllReadyH.nil
              · go_simp
                go_wp2_with fail
                refine koA hK hS5 hS5.size (fun u6 d6 a6 l6 hS6 => ?_)
                clear hK K
                refine tk 10 rfl ?_
                refine wpAnyH_ready (rs := [12]) (by kernel_rfl) (by simp) ?_
                refine AllReadyH.cons (o := ⟨_, _, _, _, _, _⟩) rfl (fun K hK => ?_) AllReadyH.nil
                · refine step_want rfl (wp_store_row 40 (.tmp 3) (.tmp 17) rfl u2.heap.size #[.int .i64 1, .int .i64 2, .slice (some ⟨u5.heap.size, 0, none⟩) 2 2] rfl rfl 40 _ (((a3.bl d4).bl d5).bl d6) s40 rfl (by simp [Value.oneCell']) ?_)
                  have e7 := (((a3.bl d4).bl d5).bl d6)
                  have m7 : U.heap.size ≤ u2.heap.size := hS2.size
                  refine koS hK hS6 m7 e7 (fun u7 a7 o7 hS7 => ?_)
                  clear hK K
                  refine dn ?_
                  go_wp2_with fail
                  go_meet
                  exact ⟨u3.heap.size, u4.heap.size, u1.heap.size, u5.heap.size, u2.heap.size, rfl, hS7, o7 _ _ _ (by omega) ((a4.bl d5).bl d6), o7 _ _ _ (by omega) (a5.bl d6), o7 _ _ _ (by omega) ((((a2.bl d3).bl d4).bl d5).bl d6), o7 _ _ _ (by omega) a6, a7⟩
      · go_simp
        go_wp2_with fail
        refine koA hK hS1 hS1.size (fun u2 d2 a2 l2 hS2 => ?_)
        clear hK K
        refine wpAnyH_ready (rs := [2, 7]) (by kernel_rfl) (by simp) ?_
        refine AllReadyH.cons (o := ⟨_, _, _, _, _, _⟩) rfl (fun K hK => ?_) (AllReadyH.cons (o := ⟨_, _, _, _, _, _⟩) rfl (fun K hK => ?_) AllReadyH.nil)
        · go_simp
          go_wp2_with fail
          refine koA hK hS2 hS2.size (fun u3 d3 a3 l3 hS3 => ?_)
          clear hK K
          refine tk 3 rfl ?_
          refine wpAnyH_ready (rs := [4, 7]) (by kernel_rfl) (by simp) ?_
          refine AllReadyH.cons (o := ⟨_, _, _, _, _, _⟩) rfl (fun K hK => ?_) (AllReadyH.cons (o := ⟨_, _, _, _, _, _⟩) rfl (fun K hK => ?_) AllReadyH.nil)
          · go_simp
            go_wp2_with fail
            refine koA hK hS3 hS3.size (fun u4 d4 a4 l4 hS4 => ?_)
            clear hK K
            refine tk 5 rfl ?_
            refine wpAnyH_ready (rs := [7]) (by kernel_rfl) (by simp) ?_
            refine AllReadyH.cons (o := ⟨_, _, _, _, _, _⟩) rfl (fun K hK => ?_) AllReadyH.nil
            · go_simp
              go_wp2_with fail
              refine koA hK hS4 hS4.size (fun u5 d5 a5 l5 hS5 => ?_)
              clear hK K
              refine tk 8 rfl ?_
              refine wpAnyH_ready (rs := [9]) (by kernel_rfl) (by simp) ?_
              refine AllReadyH.cons (o := ⟨_, _, _, _, _, _⟩) rfl (fun K hK => ?_) AllReadyH.nil
              · go_simp
                go_wp2_with fail
                refine koA hK hS5 hS5.size (fun u6 d6 a6 l6 hS6 => ?_)
                clear hK K
                refine tk 10 rfl ?_
                refine wpAnyH_ready (rs := [12]) (by kernel_rfl) (by simp) ?_
                refine AllReadyH.cons (o := ⟨_, _, _, _, _, _⟩) rfl (fun K hK => ?_) AllReadyH.nil
                · refine step_want rfl (wp_store_row 40 (.tmp 3) (.tmp 17) rfl u1.heap.size #[.int .i64 1, .int .i64 2, .slice (some ⟨u5.heap.size, 0, none⟩) 2 2] rfl rfl 40 _ ((((a2.bl d3).bl d4).bl d5).bl d6) s40 rfl (by simp [Value.oneCell']) ?_)
                  have e7 := ((((a2.bl d3).bl d4).bl d5).bl d6)
                  have m7 : U.heap.size ≤ u1.heap.size := hS1.size
                  refine koS hK hS6 m7 e7 (fun u7 a7 o7 hS7 => ?_)
                  clear hK K
                  refine dn ?_
                  go_wp2_with fail
                  go_meet
                  exact ⟨u2.heap.size, u3.heap.size, u4.heap.size, u5.heap.size, u1.heap.size, rfl, hS7, o7 _ _ _ (by omega) (((a3.bl d4).bl d5).bl d6), o7 _ _ _ (by omega) ((a4.bl d5).bl d6), o7 _ _ _ (by omega) (a5.bl d6), o7 _ _ _ (by omega) a6, a7⟩
          · go_simp
            go_wp2_with fail
            refine koA hK hS3 hS3.size (fun u4 d4 a4 l4 hS4 => ?_)
            clear hK K
            refine tk 8 rfl ?_
            refine wpAnyH_ready (rs := [4]) (by kernel_rfl) (by simp) ?_
            refine AllReadyH.cons (o := ⟨_, _, _, _, _, _⟩) rfl (fun K hK => ?_) AllReadyH.nil
            · go_simp
              go_wp2_with fail
              refine koA hK hS4 hS4.size (fun u5 d5 a5 l5 hS5 => ?_)
              clear hK K
              refine tk 5 rfl ?_
              refine wpAnyH_ready (rs := [9]) (by kernel_rfl) (by simp) ?_
              refine AllReadyH.cons (o := ⟨_, _, _, _, _, _⟩) rfl (fun K hK => ?_) AllReadyH.nil
              · go_simp
                go_wp2_with fail
                refine koA hK hS5 hS5.size (fun u6 d6 a6 l6 hS6 => ?_)
                clear hK K
                refine tk 10 rfl ?_
                refine wpAnyH_ready (rs := [12]) (by kernel_rfl) (by simp) ?_
                refine AllReadyH.cons (o := ⟨_, _, _, _, _, _⟩) rfl (fun K hK => ?_) AllReadyH.nil
                · refine step_want rfl (wp_store_row 40 (.tmp 3) (.tmp 17) rfl u1.heap.size #[.int .i64 1, .int .i64 2, .slice (some ⟨u5.heap.size, 0, none⟩) 2 2] rfl rfl 40 _ ((((a2.bl d3).bl d4).bl d5).bl d6) s40 rfl (by simp [Value.oneCell']) ?_)
                  have e7 := ((((a2.bl d3).bl d4).bl d5).bl d6)
                  have m7 : U.heap.size ≤ u1.heap.size := hS1.size
                  refine koS hK hS6 m7 e7 (fun u7 a7 o7 hS7 => ?_)
                  clear hK K
                  refine dn ?_
                  go_wp2_with fail
                  go_meet
                  exact ⟨u2.heap.size, u4.heap.size, u3.heap.size, u5.heap.size, u1.heap.size, rfl, hS7, o7 _ _ _ (by omega) (((a3.bl d4).bl d5).bl d6), o7 _ _ _ (by omega) (a5.bl d6), o7 _ _ _ (by omega) ((a4.bl d5).bl d6), o7 _ _ _ (by omega) a6, a7⟩
        · go_simp
          go_wp2_with fail
          refine koA hK hS2 hS2.size (fun u3 d3 a3 l3 hS3 => ?_)
          clear hK K
          refine tk 8 rfl ?_
          refine wpAnyH_ready (rs := [2]) (by kernel_rfl) (by simp) ?_
          refine AllReadyH.cons (o := ⟨_, _, _, _, _, _⟩) rfl (fun K hK => ?_) AllReadyH.nil
          · go_simp
            go_wp2_with fail
            refine koA hK hS3 hS3.size (fun u4 d4 a4 l4 hS4 => ?_)
            clear hK K
            refine tk 3 rfl ?_
            refine wpAnyH_ready (rs := [4]) (by kernel_rfl) (by simp) ?_
            refine AllReadyH.cons (o := ⟨_, _, _, _, _, _⟩) rfl (fun K hK => ?_) AllReadyH.nil
            · go_simp
              go_wp2_with fail
              refine koA hK hS4 hS4.size (fun u5 d5 a5 l5 hS5 => ?_)
              clear hK K
              refine tk 5 rfl ?_
              refine wpAnyH_ready (rs := [9]) (by kernel_rfl) (by simp) ?_
              refine AllReadyH.cons (o := ⟨_, _, _, _, _, _⟩) rfl (fun K hK => ?_) AllReadyH.nil
              · go_simp
                go_wp2_with fail
                refine koA hK hS5 hS5.size (fun u6 d6 a6 l6 hS6 => ?_)
                clear hK K
                refine tk 10 rfl ?_
                refine wpAnyH_ready (rs := [12]) (by kernel_rfl) (by simp) ?_
                refine AllReadyH.cons (o := ⟨_, _, _, _, _, _⟩) rfl (fun K hK => ?_) AllReadyH.nil
                · refine step_want rfl (wp_store_row 40 (.tmp 3) (.tmp 17) rfl u1.heap.size #[.int .i64 1, .int .i64 2, .slice (some ⟨u5.heap.size, 0, none⟩) 2 2] rfl rfl 40 _ ((((a2.bl d3).bl d4).bl d5).bl d6) s40 rfl (by simp [Value.oneCell']) ?_)
                  have e7 := ((((a2.bl d3).bl d4).bl d5).bl d6)
                  have m7 : U.heap.size ≤ u1.heap.size := hS1.size
                  refine koS hK hS6 m7 e7 (fun u7 a7 o7 hS7 => ?_)
                  clear hK K
                  refine dn ?_
                  go_wp2_with fail
                  go_meet
                  exact ⟨u3.heap.size, u4.heap.size, u2.heap.size, u5.heap.size, u1.heap.size, rfl, hS7, o7 _ _ _ (by omega) ((a4.bl d5).bl d6), o7 _ _ _ (by omega) (a5.bl d6), o7 _ _ _ (by omega) (((a3.bl d4).bl d5).bl d6), o7 _ _ _ (by omega) a6, a7⟩
    · go_simp
      go_wp2_with fail
      refine koA hK hS0 hS0.size (fun u1 d1 a1 l1 hS1 => ?_)
      clear hK K
      refine wpAnyH_ready (rs := [2, 6]) (by kernel_rfl) (by simp) ?_
      refine AllReadyH.cons (o := ⟨_, _, _, _, _, _⟩) rfl (fun K hK => ?_) (AllReadyH.cons (o := ⟨_, _, _, _, _, _⟩) rfl (fun K hK => ?_) AllReadyH.nil)
      · go_simp
        go_wp2_with fail
        refine koA hK hS1 hS1.size (fun u2 d2 a2 l2 hS2 => ?_)
        clear hK K
        refine tk 3 rfl ?_
        refine wpAnyH_ready (rs := [4, 6]) (by kernel_rfl) (by simp) ?_
        refine AllReadyH.cons (o := ⟨_, _, _, _, _, _⟩) rfl (fun K hK => ?_) (AllReadyH.cons (o := ⟨_, _, _, _, _, _⟩) rfl (fun K hK => ?_) AllReadyH.nil)
        · go_simp
          go_wp2_with fail
          refine koA hK hS2 hS2.size (fun u3 d3 a3 l3 hS3 => ?_)
          clear hK K
          refine tk 5 rfl ?_
          refine wpAnyH_ready (rs := [6]) (by kernel_rfl) (by simp) ?_
          refine AllReadyH.cons (o := ⟨_, _, _, _, _, _⟩) rfl (fun K hK => ?_) AllReadyH.nil
          · go_simp
            refine (var_any 1 _ (by decide)).mono ?_
            rintro e u4 ⟨rfl, d4⟩
            go_wp2_with fail
            refine ko hK (hS3.trans (d4.mono hS3.size)) (fun hS4 => ?_)
            clear hK K
            have l4 := d4.size
            refine wpAnyH_ready (rs := [7]) (by kernel_rfl) (by simp) ?_
            refine AllReadyH.cons (o := ⟨_, _, _, _, _, _⟩) rfl (fun K hK => ?_) AllReadyH.nil
            · go_simp
              go_wp2_with fail
              refine koA hK hS4 hS4.size (fun u5 d5 a5 l5 hS5 => ?_)
              clear hK K
              refine tk 8 rfl ?_
              refine wpAnyH_ready (rs := [9]) (by kernel_rfl) (by simp) ?_
              refine AllReadyH.cons (o := ⟨_, _, _, _, _, _⟩) rfl (fun K hK => ?_) AllReadyH.nil
              · go_simp
                go_wp2_with fail
                refine koA hK hS5 hS5.size (fun u6 d6 a6 l6 hS6 => ?_)
                clear hK K
                refine tk 10 rfl ?_
                refine wpAnyH_ready (rs := [12]) (by kernel_rfl) (by simp) ?_
                refine AllReadyH.cons (o := ⟨_, _, _, _, _, _⟩) rfl (fun K hK => ?_) AllReadyH.nil
                · refine step_want rfl (wp_store_row 40 (.tmp 3) (.tmp 17) rfl u0.heap.size #[.int .i64 1, .int .i64 2, .slice (some ⟨u5.heap.size, 0, none⟩) 2 2] rfl rfl 40 _ (((((a1.bl d2).bl d3).bl d4).bl d5).bl d6) s40 rfl (by simp [Value.oneCell']) ?_)
                  have e7 := (((((a1.bl d2).bl d3).bl d4).bl d5).bl d6)
                  have m7 : U.heap.size ≤ u0.heap.size := hS0.size
                  refine koS hK hS6 m7 e7 (fun u7 a7 o7 hS7 => ?_)
                  clear hK K
                  refine dn ?_
                  go_wp2_with fail
                  go_meet
                  exact ⟨u1.heap.size, u2.heap.size, u4.heap.size, u5.heap.size, u0.heap.size, rfl, hS7, o7 _ _ _ (by omega) ((((a2.bl d3).bl d4).bl d5).bl d6), o7 _ _ _ (by omega) (((a3.bl d4).bl d5).bl d6), o7 _ _ _ (by omega) (a5.bl d6), o7 _ _ _ (by omega) a6, a7⟩
        · go_simp
          refine (var_any 1 _ (by decide)).mono ?_
          rintro e u3 ⟨rfl, d3⟩
          go_wp2_with fail
          refine ko hK (hS2.trans (d3.mono hS2.size)) (fun hS3 => ?_)
          clear hK K
          have l3 := d3.size
          refine wpAnyH_ready (rs := [4, 7]) (by kernel_rfl) (by simp) ?_
          refine AllReadyH.cons (o := ⟨_, _, _, _, _, _⟩) rfl (fun K hK => ?_) (AllReadyH.cons (o := ⟨_, _, _, _, _, _⟩) rfl (fun K hK => ?_) AllReadyH.nil)
          · go_simp
            go_wp2_with fail
            refine koA hK hS3 hS3.size (fun u4 d4 a4 l4 hS4 => ?_)
            clear hK K
            refine tk 5 rfl ?_
            refine wpAnyH_ready (rs := [7]) (by kernel_rfl) (by simp) ?_
            refine AllReadyH.cons (o := ⟨_, _, _, _, _, _⟩) rfl (fun K hK => ?_) AllReadyH.nil
            · go_simp
              go_wp2_with fail
              refine koA hK hS4 hS4.size (fun u5 d5 a5 l5 hS5 => ?_)
              clear hK K
              refine tk 8 rfl ?_
              refine wpAnyH_ready (rs := [9]) (by kernel_rfl) (by simp) ?_
              refine AllReadyH.cons (o := ⟨_, _, _, _, _, _⟩) rfl (fun K hK => ?_) AllReadyH.nil
              · go_simp
                go_wp2_with fail
                refine koA hK hS5 hS5.size (fun u6 d6 a6 l6 hS6 => ?_)
                clear hK K
                refine tk 10 rfl ?_
                refine wpAnyH_ready (rs := [12]) (by kernel_rfl) (by simp) ?_
                refine AllReadyH.cons (o := ⟨_, _, _, _, _, _⟩) rfl (fun K hK => ?_) AllReadyH.nil
                · refine step_want rfl (wp_store_row 40 (.tmp 3) (.tmp 17) rfl u0.heap.size #[.int .i64 1, .int .i64 2, .slice (some ⟨u5.heap.size, 0, none⟩) 2 2] rfl rfl 40 _ (((((a1.bl d2).bl d3).bl d4).bl d5).bl d6) s40 rfl (by simp [Value.oneCell']) ?_)
                  have e7 := (((((a1.bl d2).bl d3).bl d4).bl d5).bl d6)
                  have m7 : U.heap.size ≤ u0.heap.size := hS0.size
                  refine koS hK hS6 m7 e7 (fun u7 a7 o7 hS7 => ?_)
                  clear hK K
                  refine dn ?_
                  go_wp2_with fail
                  go_meet
                  exact ⟨u1.heap.size, u3.heap.size, u4.heap.size, u5.heap.size, u0.heap.size, rfl, hS7, o7 _ _ _ (by omega) ((((a2.bl d3).bl d4).bl d5).bl d6), o7 _ _ _ (by omega) ((a4.bl d5).bl d6), o7 _ _ _ (by omega) (a5.bl d6), o7 _ _ _ (by omega) a6, a7⟩
          · go_simp
            go_wp2_with fail
            refine koA hK hS3 hS3.size (fun u4 d4 a4 l4 hS4 => ?_)
            clear hK K
            refine tk 8 rfl ?_
            refine wpAnyH_ready (rs := [4]) (by kernel_rfl) (by simp) ?_
            refine AllReadyH.cons (o := ⟨_, _, _, _, _, _⟩) rfl (fun K hK => ?_) AllReadyH.nil
            · go_simp
              go_wp2_with fail
              refine koA hK hS4 hS4.size (fun u5 d5 a5 l5 hS5 => ?_)
              clear hK K
              refine tk 5 rfl ?_
              refine wpAnyH_ready (rs := [9]) (by kernel_rfl) (by simp) ?_
              refine AllReadyH.cons (o := ⟨_, _, _, _, _, _⟩) rfl (fun K hK => ?_) AllReadyH.nil
              · go_simp
                go_wp2_with fail
                refine koA hK hS5 hS5.size (fun u6 d6 a6 l6 hS6 => ?_)
                clear hK K
                refine tk 10 rfl ?_
                refine wpAnyH_ready (rs := [12]) (by kernel_rfl) (by simp) ?_
                refine AllReadyH.cons (o := ⟨_, _, _, _, _, _⟩) rfl (fun K hK => ?_) AllReadyH.nil
                · refine step_want rfl (wp_store_row 40 (.tmp 3) (.tmp 17) rfl u0.heap.size #[.int .i64 1, .int .i64 2, .slice (some ⟨u5.heap.size, 0, none⟩) 2 2] rfl rfl 40 _ (((((a1.bl d2).bl d3).bl d4).bl d5).bl d6) s40 rfl (by simp [Value.oneCell']) ?_)
                  have e7 := (((((a1.bl d2).bl d3).bl d4).bl d5).bl d6)
                  have m7 : U.heap.size ≤ u0.heap.size := hS0.size
                  refine koS hK hS6 m7 e7 (fun u7 a7 o7 hS7 => ?_)
                  clear hK K
                  refine dn ?_
                  go_wp2_with fail
                  go_meet
                  exact ⟨u1.heap.size, u4.heap.size, u3.heap.size, u5.heap.size, u0.heap.size, rfl, hS7, o7 _ _ _ (by omega) ((((a2.bl d3).bl d4).bl d5).bl d6), o7 _ _ _ (by omega) (a5.bl d6), o7 _ _ _ (by omega) ((a4.bl d5).bl d6), o7 _ _ _ (by omega) a6, a7⟩
      · go_simp
        refine (var_any 1 _ (by decide)).mono ?_
        rintro e u2 ⟨rfl, d2⟩
        go_wp2_with fail
        refine ko hK (hS1.trans (d2.mono hS1.size)) (fun hS2 => ?_)
        clear hK K
        have l2 := d2.size
        refine wpAnyH_ready (rs := [2, 7]) (by kernel_rfl) (by simp) ?_
        refine AllReadyH.cons (o := ⟨_, _, _, _, _, _⟩) rfl (fun K hK => ?_) (AllReadyH.cons (o := ⟨_, _, _, _, _, _⟩) rfl (fun K hK => ?_) AllReadyH.nil)
        · go_simp
          go_wp2_with fail
          refine koA hK hS2 hS2.size (fun u3 d3 a3 l3 hS3 => ?_)
          clear hK K
          refine tk 3 rfl ?_
          refine wpAnyH_ready (rs := [4, 7]) (by kernel_rfl) (by simp) ?_
          refine AllReadyH.cons (o := ⟨_, _, _, _, _, _⟩) rfl (fun K hK => ?_) (AllReadyH.cons (o := ⟨_, _, _, _, _, _⟩) rfl (fun K hK => ?_) AllReadyH.nil)
          · go_simp
            go_wp2_with fail
            refine koA hK hS3 hS3.size (fun u4 d4 a4 l4 hS4 => ?_)
            clear hK K
            refine tk 5 rfl ?_
            refine wpAnyH_ready (rs := [7]) (by kernel_rfl) (by simp) ?_
            refine AllReadyH.cons (o := ⟨_, _, _, _, _, _⟩) rfl (fun K hK => ?_) AllReadyH.nil
            · go_simp
              go_wp2_with fail
              refine koA hK hS4 hS4.size (fun u5 d5 a5 l5 hS5 => ?_)
              clear hK K
              refine tk 8 rfl ?_
              refine wpAnyH_ready (rs := [9]) (by kernel_rfl) (by simp) ?_
              refine AllReadyH.cons (o := ⟨_, _, _, _, _, _⟩) rfl (fun K hK => ?_) AllReadyH.nil
              · go_simp
                go_wp2_with fail
                refine koA hK hS5 hS5.size (fun u6 d6 a6 l6 hS6 => ?_)
                clear hK K
                refine tk 10 rfl ?_
                refine wpAnyH_ready (rs := [12]) (by kernel_rfl) (by simp) ?_
                refine AllReadyH.cons (o := ⟨_, _, _, _, _, _⟩) rfl (fun K hK => ?_) AllReadyH.nil
                · refine step_want rfl (wp_store_row 40 (.tmp 3) (.tmp 17) rfl u0.heap.size #[.int .i64 1, .int .i64 2, .slice (some ⟨u5.heap.size, 0, none⟩) 2 2] rfl rfl 40 _ (((((a1.bl d2).bl d3).bl d4).bl d5).bl d6) s40 rfl (by simp [Value.oneCell']) ?_)
                  have e7 := (((((a1.bl d2).bl d3).bl d4).bl d5).bl d6)
                  have m7 : U.heap.size ≤ u0.heap.size := hS0.size
                  refine koS hK hS6 m7 e7 (fun u7 a7 o7 hS7 => ?_)
                  clear hK K
                  refine dn ?_
                  go_wp2_with fail
                  go_meet
                  exact ⟨u2.heap.size, u3.heap.size, u4.heap.size, u5.heap.size, u0.heap.size, rfl, hS7, o7 _ _ _ (by omega) (((a3.bl d4).bl d5).bl d6), o7 _ _ _ (by omega) ((a4.bl d5).bl d6), o7 _ _ _ (by omega) (a5.bl d6), o7 _ _ _ (by omega) a6, a7⟩
          · go_simp
            go_wp2_with fail
            refine koA hK hS3 hS3.size (fun u4 d4 a4 l4 hS4 => ?_)
            clear hK K
            refine tk 8 rfl ?_
            refine wpAnyH_ready (rs := [4]) (by kernel_rfl) (by simp) ?_
            refine AllReadyH.cons (o := ⟨_, _, _, _, _, _⟩) rfl (fun K hK => ?_) AllReadyH.nil
            · go_simp
              go_wp2_with fail
              refine koA hK hS4 hS4.size (fun u5 d5 a5 l5 hS5 => ?_)
              clear hK K
              refine tk 5 rfl ?_
              refine wpAnyH_ready (rs := [9]) (by kernel_rfl) (by simp) ?_
              refine AllReadyH.cons (o := ⟨_, _, _, _, _, _⟩) rfl (fun K hK => ?_) AllReadyH.nil
              · go_simp
                go_wp2_with fail
                refine koA hK hS5 hS5.size (fun u6 d6 a6 l6 hS6 => ?_)
                clear hK K
                refine tk 10 rfl ?_
                refine wpAnyH_ready (rs := [12]) (by kernel_rfl) (by simp) ?_
                refine AllReadyH.cons (o := ⟨_, _, _, _, _, _⟩) rfl (fun K hK => ?_) AllReadyH.nil
                · refine step_want rfl (wp_store_row 40 (.tmp 3) (.tmp 17) rfl u0.heap.size #[.int .i64 1, .int .i64 2, .slice (some ⟨u5.heap.size, 0, none⟩) 2 2] rfl rfl 40 _ (((((a1.bl d2).bl d3).bl d4).bl d5).bl d6) s40 rfl (by simp [Value.oneCell']) ?_)
                  have e7 := (((((a1.bl d2).bl d3).bl d4).bl d5).bl d6)
                  have m7 : U.heap.size ≤ u0.heap.size := hS0.size
                  refine koS hK hS6 m7 e7 (fun u7 a7 o7 hS7 => ?_)
                  clear hK K
                  refine dn ?_
                  go_wp2_with fail
                  go_meet
                  exact ⟨u2.heap.size, u4.heap.size, u3.heap.size, u5.heap.size, u0.heap.size, rfl, hS7, o7 _ _ _ (by omega) (((a3.bl d4).bl d5).bl d6), o7 _ _ _ (by omega) (a5.bl d6), o7 _ _ _ (by omega) ((a4.bl d5).bl d6), o7 _ _ _ (by omega) a6, a7⟩
        · go_simp
          go_wp2_with fail
          refine koA hK hS2 hS2.size (fun u3 d3 a3 l3 hS3 => ?_)
          clear hK K
          refine tk 8 rfl ?_
          refine wpAnyH_ready (rs := [2]) (by kernel_rfl) (by simp) ?_
          refine AllReadyH.cons (o := ⟨_, _, _, _, _, _⟩) rfl (fun K hK => ?_) AllReadyH.nil
          · go_simp
            go_wp2_with fail
            refine koA hK hS3 hS3.size (fun u4 d4 a4 l4 hS4 => ?_)
            clear hK K
            refine tk 3 rfl ?_
            refine wpAnyH_ready (rs := [4]) (by kernel_rfl) (by simp) ?_
            refine AllReadyH.cons (o := ⟨_, _, _, _, _, _⟩) rfl (fun K hK => ?_) AllReadyH.nil
            · go_simp
              go_wp2_with fail
              refine koA hK hS4 hS4.size (fun u5 d5 a5 l5 hS5 => ?_)
              clear hK K
              refine tk 5 rfl ?_
              refine wpAnyH_ready (rs := [9]) (by kernel_rfl) (by simp) ?_
              refine AllReadyH.cons (o := ⟨_, _, _, _, _, _⟩) rfl (fun K hK => ?_) AllReadyH.nil
              · go_simp
                go_wp2_with fail
                refine koA hK hS5 hS5.size (fun u6 d6 a6 l6 hS6 => ?_)
                clear hK K
                refine tk 10 rfl ?_
                refine wpAnyH_ready (rs := [12]) (by kernel_rfl) (by simp) ?_
                refine AllReadyH.cons (o := ⟨_, _, _, _, _, _⟩) rfl (fun K hK => ?_) AllReadyH.nil
                · refine step_want rfl (wp_store_row 40 (.tmp 3) (.tmp 17) rfl u0.heap.size #[.int .i64 1, .int .i64 2, .slice (some ⟨u5.heap.size, 0, none⟩) 2 2] rfl rfl 40 _ (((((a1.bl d2).bl d3).bl d4).bl d5).bl d6) s40 rfl (by simp [Value.oneCell']) ?_)
                  have e7 := (((((a1.bl d2).bl d3).bl d4).bl d5).bl d6)
                  have m7 : U.heap.size ≤ u0.heap.size := hS0.size
                  refine koS hK hS6 m7 e7 (fun u7 a7 o7 hS7 => ?_)
                  clear hK K
                  refine dn ?_
                  go_wp2_with fail
                  go_meet
                  exact ⟨u3.heap.size, u4.heap.size, u2.heap.size, u5.heap.size, u0.heap.size, rfl, hS7, o7 _ _ _ (by omega) ((a4.bl d5).bl d6), o7 _ _ _ (by omega) (a5.bl d6), o7 _ _ _ (by omega) (((a3.bl d4).bl d5).bl d6), o7 _ _ _ (by omega) a6, a7⟩

  case rest =>
    obtain ⟨A, B, C, D, E, rfl, bX, hA, hB, hC, hD, hE⟩ := hcut
    have g0 := (bX.cell (p := ⟨w1.heap.size, 0, none⟩) lt1).trans c0; have g1 := (bX.cell (p := ⟨w1.heap.size, 1, none⟩) lt1).trans c1; have g2 := (bX.cell (p := ⟨w1.heap.size, 2, none⟩) lt1).trans c2; have g3 := (bX.cell (p := ⟨w1.heap.size, 3, none⟩) lt1).trans c3; have g4 := (bX.cell (p := ⟨w1.heap.size, 4, none⟩) lt1).trans c4
    have e0 := hE.cell 0; have e1 := hE.cell 1; have e2 := hE.cell 2
    have A2 := A1.bl bX
    clear c0 c1 c2 c3 c4 f0 f1 f2 f3 f4 B1 A1
    have hX := hW.trans (bX.mono hW.size)
    have ltU := bX.size
    have wA := hA.lt; have wB := hB.lt; have wC := hC.lt; have wD := hD.lt; have wE := hE.lt
    have v1 : w1.heap.size < wc.heap.size := by omega
    have v0 : w.heap.size < wc.heap.size := by omega
    have wE1 : E < wc.heap.size + 1 := by omega
    have wE2 : E < wc.heap.size + 1 + 1 := by omega
    have wE3 : E < wc.heap.size + 1 + 1 + 1 := by omega
    have v01 : w.heap.size < wc.heap.size + 1 := by omega
    have v02 : w.heap.size < wc.heap.size + 1 + 1 := by omega
    have v03 : w.heap.size < wc.heap.size + 1 + 1 + 1 := by omega
    have v04 : w.heap.size < wc.heap.size + 1 + 1 + 1 + 1 := by omega
    have hB5 := (((((A2.alloc (.cells #[.int .u8 1, .int .u64 7, .int .i64 0, .int .u8 0, .slice none 0 0] 80)).alloc (.cells #[.int .u8 1, .int .u64 0, .int .i64 0, .int .u8 0, .slice none 0 0, .int .u8 2, .int .u64 0, .int .i64 0, .int .u8 0, .slice none 0 0] 80)).alloc (.cells #[.int .u8 6, .int .i64 0, .int .i64 0, .int .i64 0, .slice (some ⟨wc.heap.size, 0, none⟩) 1 1, .slice none 0 0, .slice none 0 0, .int .u8 2, .int .i64 0, .int .i64 0, .int .i64 0, .slice (some ⟨wc.heap.size + 1, 0, none⟩) 2 2, .slice none 0 0, .slice none 0 0] 66)).alloc (.cells #[.int .i64 0, .int .i64 1, .slice (some ⟨wc.heap.size + 1 + 1, 0, none⟩) 2 2] 40)).alloc (.cells #[.int .i64 1, .int .i64 2, .slice (some ⟨D, 0, none⟩) 2 2, .int .i64 0, .int .i64 1, .slice (some ⟨wc.heap.size + 1 + 1, 0, none⟩) 2 2] 40))
    have aA := (((((hA.alloc (.cells #[.int .u8 1, .int .u64 7, .int .i64 0, .int .u8 0, .slice none 0 0] 80)).alloc (.cells #[.int .u8 1, .int .u64 0, .int .i64 0, .int .u8 0, .slice none 0 0, .int .u8 2, .int .u64 0, .int .i64 0, .int .u8 0, .slice none 0 0] 80)).alloc (.cells #[.int .u8 6, .int .i64 0, .int .i64 0, .int .i64 0, .slice (some ⟨wc.heap.size, 0, none⟩) 1 1, .slice none 0 0, .slice none 0 0, .int .u8 2, .int .i64 0, .int .i64 0, .int .i64 0, .slice (some ⟨wc.heap.size + 1, 0, none⟩) 2 2, .slice none 0 0, .slice none 0 0] 66)).alloc (.cells #[.int .i64 0, .int .i64 1, .slice (some ⟨wc.heap.size + 1 + 1, 0, none⟩) 2 2] 40)).alloc (.cells #[.int .i64 1, .int .i64 2, .slice (some ⟨D, 0, none⟩) 2 2, .int .i64 0, .int .i64 1, .slice (some ⟨wc.heap.size + 1 + 1, 0, none⟩) 2 2] 40))
    have aB := (((((hB.alloc (.cells #[.int .u8 1, .int .u64 7, .int .i64 0, .int .u8 0, .slice none 0 0] 80)).alloc (.cells #[.int .u8 1, .int .u64 0, .int .i64 0, .int .u8 0, .slice none 0 0, .int .u8 2, .int .u64 0, .int .i64 0, .int .u8 0, .slice none 0 0] 80)).alloc (.cells #[.int .u8 6, .int .i64 0, .int .i64 0, .int .i64 0, .slice (some ⟨wc.heap.size, 0, none⟩) 1 1, .slice none 0 0, .slice none 0 0, .int .u8 2, .int .i64 0, .int .i64 0, .int .i64 0, .slice (some ⟨wc.heap.size + 1, 0, none⟩) 2 2, .slice none 0 0, .slice none 0 0] 66)).alloc (.cells #[.int .i64 0, .int .i64 1, .slice (some ⟨wc.heap.size + 1 + 1, 0, none⟩) 2 2] 40)).alloc (.cells #[.int .i64 1, .int .i64 2, .slice (some ⟨D, 0, none⟩) 2 2, .int .i64 0, .int .i64 1, .slice (some ⟨wc.heap.size + 1 + 1, 0, none⟩) 2 2] 40))
    have aC := (((((hC.alloc (.cells #[.int .u8 1, .int .u64 7, .int .i64 0, .int .u8 0, .slice none 0 0] 80)).alloc (.cells #[.int .u8 1, .int .u64 0, .int .i64 0, .int .u8 0, .slice none 0 0, .int .u8 2, .int .u64 0, .int .i64 0, .int .u8 0, .slice none 0 0] 80)).alloc (.cells #[.int .u8 6, .int .i64 0, .int .i64 0, .int .i64 0, .slice (some ⟨wc.heap.size, 0, none⟩) 1 1, .slice none 0 0, .slice none 0 0, .int .u8 2, .int .i64 0, .int .i64 0, .int .i64 0, .slice (some ⟨wc.heap.size + 1, 0, none⟩) 2 2, .slice none 0 0, .slice none 0 0] 66)).alloc (.cells #[.int .i64 0, .int .i64 1, .slice (some ⟨wc.heap.size + 1 + 1, 0, none⟩) 2 2] 40)).alloc (.cells #[.int .i64 1, .int .i64 2, .slice (some ⟨D, 0, none⟩) 2 2, .int .i64 0, .int .i64 1, .slice (some ⟨wc.heap.size + 1 + 1, 0, none⟩) 2 2] 40))
    have aD := (((((hD.alloc (.cells #[.int .u8 1, .int .u64 7, .int .i64 0, .int .u8 0, .slice none 0 0] 80)).alloc (.cells #[.int .u8 1, .int .u64 0, .int .i64 0, .int .u8 0, .slice none 0 0, .int .u8 2, .int .u64 0, .int .i64 0, .int .u8 0, .slice none 0 0] 80)).alloc (.cells #[.int .u8 6, .int .i64 0, .int .i64 0, .int .i64 0, .slice (some ⟨wc.heap.size, 0, none⟩) 1 1, .slice none 0 0, .slice none 0 0, .int .u8 2, .int .i64 0, .int .i64 0, .int .i64 0, .slice (some ⟨wc.heap.size + 1, 0, none⟩) 2 2, .slice none 0 0, .slice none 0 0] 66)).alloc (.cells #[.int .i64 0, .int .i64 1, .slice (some ⟨wc.heap.size + 1 + 1, 0, none⟩) 2 2] 40)).alloc (.cells #[.int .i64 1, .int .i64 2, .slice (some ⟨D, 0, none⟩) 2 2, .int .i64 0, .int .i64 1, .slice (some ⟨wc.heap.size + 1 + 1, 0, none⟩) 2 2] 40))
    have aF := ((((Arr.new wc 80 #[.int .u8 1, .int .u64 7, .int .i64 0, .int .u8 0, .slice none 0 0]).alloc (.cells #[.int .u8 1, .int .u64 0, .int .i64 0, .int .u8 0, .slice none 0 0, .int .u8 2, .int .u64 0, .int .i64 0, .int .u8 0, .slice none 0 0] 80)).alloc (.cells #[.int .u8 6, .int .i64 0, .int .i64 0, .int .i64 0, .slice (some ⟨wc.heap.size, 0, none⟩) 1 1, .slice none 0 0, .slice none 0 0, .int .u8 2, .int .i64 0, .int .i64 0, .int .i64 0, .slice (some ⟨wc.heap.size + 1, 0, none⟩) 2 2, .slice none 0 0, .slice none 0 0] 66)).alloc (.cells #[.int .i64 0, .int .i64 1, .slice (some ⟨wc.heap.size + 1 + 1, 0, none⟩) 2 2] 40)).alloc (.cells #[.int .i64 1, .int .i64 2, .slice (some ⟨D, 0, none⟩) 2 2, .int .i64 0, .int .i64 1, .slice (some ⟨wc.heap.size + 1 + 1, 0, none⟩) 2 2] 40)
    have aG := (((Arr.new (wc.alloc (.cells #[.int .u8 1, .int .u64 7, .int .i64 0, .int .u8 0, .slice none 0 0] 80)) 80 #[.int .u8 1, .int .u64 0, .int .i64 0, .int .u8 0, .slice none 0 0, .int .u8 2, .int .u64 0, .int .i64 0, .int .u8 0, .slice none 0 0]).alloc (.cells #[.int .u8 6, .int .i64 0, .int .i64 0, .int .i64 0, .slice (some ⟨wc.heap.size, 0, none⟩) 1 1, .slice none 0 0, .slice none 0 0, .int .u8 2, .int .i64 0, .int .i64 0, .int .i64 0, .slice (some ⟨wc.heap.size + 1, 0, none⟩) 2 2, .slice none 0 0, .slice none 0 0] 66)).alloc (.cells #[.int .i64 0, .int .i64 1, .slice (some ⟨wc.heap.size + 1 + 1, 0, none⟩) 2 2] 40)).alloc (.cells #[.int .i64 1, .int .i64 2, .slice (some ⟨D, 0, none⟩) 2 2, .int .i64 0, .int .i64 1, .slice (some ⟨wc.heap.size + 1 + 1, 0, none⟩) 2 2] 40)
    have aH := ((Arr.new ((wc.alloc (.cells #[.int .u8 1, .int .u64 7, .int .i64 0, .int .u8 0, .slice none 0 0] 80)).alloc (.cells #[.int .u8 1, .int .u64 0, .int .i64 0, .int .u8 0, .slice none 0 0, .int .u8 2, .int .u64 0, .int .i64 0, .int .u8 0, .slice none 0 0] 80)) 66 #[.int .u8 6, .int .i64 0, .int .i64 0, .int .i64 0, .slice (some ⟨wc.heap.size, 0, none⟩) 1 1, .slice none 0 0, .slice none 0 0, .int .u8 2, .int .i64 0, .int .i64 0, .int .i64 0, .slice (some ⟨wc.heap.size + 1, 0, none⟩) 2 2, .slice none 0 0, .slice none 0 0]).alloc (.cells #[.int .i64 0, .int .i64 1, .slice (some ⟨wc.heap.size + 1 + 1, 0, none⟩) 2 2] 40)).alloc (.cells #[.int .i64 1, .int .i64 2, .slice (some ⟨D, 0, none⟩) 2 2, .int .i64 0, .int .i64 1, .slice (some ⟨wc.heap.size + 1 + 1, 0, none⟩) 2 2] 40)
    have aJ := Arr.new ((((wc.alloc (.cells #[.int .u8 1, .int .u64 7, .int .i64 0, .int .u8 0, .slice none 0 0] 80)).alloc (.cells #[.int .u8 1, .int .u64 0, .int .i64 0, .int .u8 0, .slice none 0 0, .int .u8 2, .int .u64 0, .int .i64 0, .int .u8 0, .slice none 0 0] 80)).alloc (.cells #[.int .u8 6, .int .i64 0, .int .i64 0, .int .i64 0, .slice (some ⟨wc.heap.size, 0, none⟩) 1 1, .slice none 0 0, .slice none 0 0, .int .u8 2, .int .i64 0, .int .i64 0, .int .i64 0, .slice (some ⟨wc.heap.size + 1, 0, none⟩) 2 2, .slice none 0 0, .slice none 0 0] 66)).alloc (.cells #[.int .i64 0, .int .i64 1, .slice (some ⟨wc.heap.size + 1 + 1, 0, none⟩) 2 2] 40)) 40 #[.int .i64 1, .int .i64 2, .slice (some ⟨D, 0, none⟩) 2 2, .int .i64 0, .int .i64 1, .slice (some ⟨wc.heap.size + 1 + 1, 0, none⟩) 2 2]
    have bl := (((((Below.refl wc.heap.size wc).alloc (Nat.le_refl _) (.cells #[.int .u8 1, .int .u64 7, .int .i64 0, .int .u8 0, .slice none 0 0] 80)).alloc (by simp only [World.size_alloc]; omega) (.cells #[.int .u8 1, .int .u64 0, .int .i64 0, .int .u8 0, .slice none 0 0, .int .u8 2, .int .u64 0, .int .i64 0, .int .u8 0, .slice none 0 0] 80)).alloc (by simp only [World.size_alloc]; omega) (.cells #[.int .u8 6, .int .i64 0, .int .i64 0, .int .i64 0, .slice (some ⟨wc.heap.size, 0, none⟩) 1 1, .slice none 0 0, .slice none 0 0, .int .u8 2, .int .i64 0, .int .i64 0, .int .i64 0, .slice (some ⟨wc.heap.size + 1, 0, none⟩) 2 2, .slice none 0 0, .slice none 0 0] 66)).alloc (by simp only [World.size_alloc]; omega) (.cells #[.int .i64 0, .int .i64 1, .slice (some ⟨wc.heap.size + 1 + 1, 0, none⟩) 2 2] 40)).alloc (by simp only [World.size_alloc]; omega) (.cells #[.int .i64 1, .int .i64 2, .slice (some ⟨D, 0, none⟩) 2 2, .int .i64 0, .int .i64 1, .slice (some ⟨wc.heap.size + 1 + 1, 0, none⟩) 2 2] 40)
    simp only [World.size_alloc] at aG aH aJ
    have hBL := below_setRow (hX.trans (bl.mono hX.size)) (Nat.le_refl w.heap.size) #[.slice (some ⟨wc.heap.size + 1 + 1 + 1 + 1, 0, none⟩) 2 2, .int .i64 4]
    have hPG := q_pgw (aA.sro #[.slice (some ⟨wc.heap.size + 1 + 1 + 1 + 1, 0, none⟩) 2 2, .int .i64 4] (arr_ne aA hB5 (by decide))) (aB.sro #[.slice (some ⟨wc.heap.size + 1 + 1 + 1 + 1, 0, none⟩) 2 2, .int .i64 4] (arr_ne aB hB5 (by decide))) (aC.sro #[.slice (some ⟨wc.heap.size + 1 + 1 + 1 + 1, 0, none⟩) 2 2, .int .i64 4] (arr_ne aC hB5 (by decide))) (aD.sro #[.slice (some ⟨wc.heap.size + 1 + 1 + 1 + 1, 0, none⟩) 2 2, .int .i64 4] (arr_ne aD hB5 (by decide))) (aF.sro #[.slice (some ⟨wc.heap.size + 1 + 1 + 1 + 1, 0, none⟩) 2 2, .int .i64 4] (arr_ne aF hB5 (by decide))) (aG.sro #[.slice (some ⟨wc.heap.size + 1 + 1 + 1 + 1, 0, none⟩) 2 2, .int .i64 4] (arr_ne aG hB5 (by decide))) (aH.sro #[.slice (some ⟨wc.heap.size + 1 + 1 + 1 + 1, 0, none⟩) 2 2, .int .i64 4] (arr_ne aH hB5 (by decide))) (aJ.sro #[.slice (some ⟨wc.heap.size + 1 + 1 + 1 + 1, 0, none⟩) 2 2, .int .i64 4] (by omega))
    replace hPG := hid hPG
    replace hBL := hid hBL
    clear aA aB aC aD aF aG aH aJ bl hA hB hC hD hE A2 A0 b0
    have hN := hB5
    go_wp2_with (refine wpList_store_row rfl 24 (.tmp 0) (.tmp 30) rfl w.heap.size #[.slice (some ⟨wc.heap.size + 1 + 1 + 1 + 1, 0, none⟩) 2 2, .int .i64 4] rfl rfl 24 _ hN s24 rfl (by simp [Value.oneCell']) ?_)
    refine bodyPost_ret (v := .agg #[.slice (some ⟨wc.heap.size + 1 + 1 + 1 + 1, 0, none⟩) 2 2, .int .i64 4]) (results_cell_row Tryd.results26 _ _ w.heap.size 24 _ (0, 0) _ rfl (setRow_heap _ _ _ _ _ _ hN) Tryd.underlying24 rfl s24) rfl ⟨_, rfl, hPG.out, hBL.out⟩
end Go.Proofs.YtoopgppahfnncaaDoor
