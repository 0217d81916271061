/- Iu, Iu2. -/
import Derived.Test.YtmljihggooaboaaW29
import Derived.Handy
import Derived.BigQuiet
import Derived.BigRegion
/- Layer interp: which statements may be, by the document. -/
namespace Go.Proofs.Ytmljihggooaboaa
open Go.RowKit
set_option maxRecDepth 100000
set_option linter.unusedVariables false
set_option linter.unusedSimpArgs false

set_option maxHeartbeats 4000000 in
theorem dstmt_s {N d : Nat} {sp : Option Addr} {n cap : Nat} {fs : List FuT} {da vs : Int} {fi : Nat} {fn : FuT} (hd100 : d ≤ 100) (hfi : fs[fi]? = some fn) (hvs : fn.v = vs) (hE : DsAt N sp n cap fs da vs fi d) : DsAt N sp n cap fs da vs fi (d + 1) := by
  intro w cs t kk hk hN hF hM
  obtain ⟨sa, na, ca, sb, nb, cb, sc, nc, cc, rfl, hok, hSa, hSb, hSc⟩ := hM
  have b0 : Below w.heap.size w ((w.alloc (.cells #[.slice sp n cap, .int .i64 da] 24)).alloc (.cells (stC t.nd.k t.nd.v t.nd.f t.nd.t (.slice sa na ca) (.slice sb nb cb) (.slice sc nc cc)).toArray 78)) := (ab w _).alloc (by simp) _
  have A0 := (Arr.new w 24 #[.slice sp n cap, .int .i64 da]).alloc (.cells (stC t.nd.k t.nd.v t.nd.f t.nd.t (.slice sa na ca) (.slice sb nb cb) (.slice sc nc cc)).toArray 78)
  have A1 := Arr.new (w.alloc (.cells #[.slice sp n cap, .int .i64 da] 24)) 78 (stC t.nd.k t.nd.v t.nd.f t.nd.t (.slice sa na ca) (.slice sb nb cb) (.slice sc nc cc)).toArray
  simp only [World.size_alloc] at A1
  by_cases h0 : kk = 0
  · subst h0
    have e : stN ((fs.take fi).map FuT.p) vs (d + 1) t 0 = none := by unfold stN; rw [if_pos (.inl rfl)]
    rw [e]
    have hsub : IntKind.i64.wrap (((0 : Nat) : Int) - 1) = -1 := by rw [IntKind.wrap_i64]; omega
    clear hE hSa hSb hSc hF A0 A1
    unfold stC at *
    go_enter Try.func38, Try.ntmps38
    go_upto_region 2 with fail
    go_quiet (fail)
    go_wp2_with fail
    go_ret
    exact ⟨rfl, dwN b0 _⟩
  obtain ⟨r, hr⟩ : ∃ r, r = stN ((fs.take fi).map FuT.p) vs (d + 1) t kk := ⟨_, rfl⟩
  rw [← hr]
  rw [stN_f h0] at hr
  have hsub : IntKind.i64.wrap ((kk : Int) - 1) = ((kk - 1 : Nat) : Int) := by rw [IntKind.wrap_i64]; omega
  have hneg : ¬ (((kk - 1 : Nat) : Int) < 0) := by omega
  have hd0 : (((d + 1 : Nat) : Int) == 0) = false := by simp; omega
  have hdw : IntKind.i64.wrap (((d + 1 : Nat) : Int) - 1) = (d : Int) := by rw [IntKind.wrap_i64]; omega
  have hk1 : kk - 1 ≤ 4096 := by omega
  have hna := hSa.len.out
  have harg := fun (u : World) (hu : Below ((w.alloc (.cells #[.slice sp n cap, .int .i64 da] 24)).alloc (.cells (stC t.nd.k t.nd.v t.nd.f t.nd.t (.slice sa na ca) (.slice sb nb cb) (.slice sc nc cc)).toArray 78)).heap.size ((w.alloc (.cells #[.slice sp n cap, .int .i64 da] 24)).alloc (.cells (stC t.nd.k t.nd.v t.nd.f t.nd.t (.slice sa na ca) (.slice sb nb cb) (.slice sc nc cc)).toArray 78)) u) => args_any (da := da) (vs := vs) u (hF.imp ((b0.trans (hu.mono b0.size)).mono hN) (FuM.below ((b0.trans (hu.mono b0.size)).mono hN))) (by have := (b0.trans (hu.mono b0.size)).size; omega) hfi hvs t.nd sa na ca sb nb cb sc nc cc hSb.len.out hSc.len.out
  have hth := fun (u : World) (hu : Below ((w.alloc (.cells #[.slice sp n cap, .int .i64 da] 24)).alloc (.cells (stC t.nd.k t.nd.v t.nd.f t.nd.t (.slice sa na ca) (.slice sb nb cb) (.slice sc nc cc)).toArray 78)).heap.size ((w.alloc (.cells #[.slice sp n cap, .int .i64 da] 24)).alloc (.cells (stC t.nd.k t.nd.v t.nd.f t.nd.t (.slice sa na ca) (.slice sb nb cb) (.slice sc nc cc)).toArray 78)) u) (q : Option Nat) (hq : ∀ k, q = some k → k ≤ 4096) (x y : Int) (hx : x = doR q) (hy : y = d) => dstmts hE u (hSb.imp ((b0.trans (hu.mono b0.size)).mono hN) (StM.below ((b0.trans (hu.mono b0.size)).mono hN) d)) (by have := (b0.trans (hu.mono b0.size)).size; omega) (hF.imp ((b0.trans (hu.mono b0.size)).mono hN) (FuM.below ((b0.trans (hu.mono b0.size)).mono hN))) q hq x y hx hy
  have hel := fun (u : World) (hu : Below ((w.alloc (.cells #[.slice sp n cap, .int .i64 da] 24)).alloc (.cells (stC t.nd.k t.nd.v t.nd.f t.nd.t (.slice sa na ca) (.slice sb nb cb) (.slice sc nc cc)).toArray 78)).heap.size ((w.alloc (.cells #[.slice sp n cap, .int .i64 da] 24)).alloc (.cells (stC t.nd.k t.nd.v t.nd.f t.nd.t (.slice sa na ca) (.slice sb nb cb) (.slice sc nc cc)).toArray 78)) u) (q : Option Nat) (hq : ∀ k, q = some k → k ≤ 4096) (x y : Int) (hx : x = doR q) (hy : y = d) => dstmts hE u (hSc.imp ((b0.trans (hu.mono b0.size)).mono hN) (StM.below ((b0.trans (hu.mono b0.size)).mono hN) d)) (by have := (b0.trans (hu.mono b0.size)).size; omega) (hF.imp ((b0.trans (hu.mono b0.size)).mono hN) (FuM.below ((b0.trans (hu.mono b0.size)).mono hN))) q hq x y hx hy
  have hSaU := hSa.imp (b0.mono hN) (ExM.below (b0.mono hN) 8)
  have hFU := hF.imp (b0.mono hN) (FuM.below (b0.mono hN))
  have hNU : N ≤ ((w.alloc (.cells #[.slice sp n cap, .int .i64 da] 24)).alloc (.cells (stC t.nd.k t.nd.v t.nd.f t.nd.t (.slice sa na ca) (.slice sb nb cb) (.slice sc nc cc)).toArray 78)).heap.size := by simp; omega
  have hFl := hF.len.out
  have hfl := (List.getElem?_eq_some_iff.1 hfi).1
  have hin : fi < n := by omega
  have hin' : (fi : Int) < n := by omega
  have hsa := hSa.small
  clear hE hSb hSc hF hSa hFl hfl
  replace hr := hid hr
  replace hna := hid hna
  generalize hdd : ((d + 1 : Nat) : Int) = dd at *
  generalize kk - 1 = k1 at *
  unfold DoP at hth hel
  unfold stC at *
  go_enter Try.func38, Try.ntmps38
  go_upto_region 2 with fail
  generalize hU : (w.alloc (.cells #[.slice sp n cap, .int .i64 da] 24)).alloc (.cells #[.int .u8 t.nd.k, .int .i64 t.nd.v, .int .i64 t.nd.f, .int .i64 t.nd.t, .slice sa na ca, .slice sb nb cb, .slice sc nc cc] 78) = U at *
  have hUs : w.heap.size + 1 < U.heap.size := A1.lt
  by_cases hag : agN ((fs.take fi).map FuT.p) vs t.nd = (na : Int)
  · have hr2 : Hid (r = ((fld (exN vs 8) t.nd.a k1).bind (fld (stN ((fs.take fi).map FuT.p) vs d) t.nd.th)).bind (fld (stN ((fs.take fi).map FuT.p) vs d) t.nd.el)) := hid (by rw [hr.out, if_pos (by rw [hag, hna.out])])
    rw [hag] at harg
    clear hag hr
    refine wp_region_held_drew (S := fun u => Below U.heap.size U u) (by kernel_rfl) ((Below.refl _ U).drew) (fun hHeld => ?_)
    refine wpAnyH_take (i := 0) (oi := ⟨_, _, _, _, _, _⟩) (v := ?_) rfl (by kernel_rfl) (by kernel_rfl) (by kernel_rfl) (fun _ _ _ h => h) (Or.inl ⟨by rfl, ?_⟩) (by assumption) ?_
    rotate_left
    · intro u hSw
      go_simp
      try (with_reducible rfl)
    try simp only [Act.put, List.setIfInBounds_toArray, List.set_cons_zero, List.set_cons_succ]
    refine wpAnyH_take (i := 1) (oi := ⟨_, _, _, _, _, _⟩) (v := ?_) rfl (by kernel_rfl) (by kernel_rfl) (by kernel_rfl) (fun _ _ _ h => h) (Or.inl ⟨by rfl, ?_⟩) (by assumption) ?_
    rotate_left
    · intro u hSw
      go_simp
      try (with_reducible rfl)
    try simp only [Act.put, List.setIfInBounds_toArray, List.set_cons_zero, List.set_cons_succ]
    refine wpAnyH_take (i := 2) (oi := ⟨_, _, _, _, _, _⟩) (v := ?_) rfl (by kernel_rfl) (by kernel_rfl) (by kernel_rfl) (fun _ _ _ h => h) (Or.inl ⟨by rfl, ?_⟩) (by assumption) ?_
    rotate_left
    · intro u hSw
      go_simp
      try (with_reducible rfl)
    try simp only [Act.put, List.setIfInBounds_toArray, List.set_cons_zero, List.set_cons_succ]
    refine wpAnyH_take (i := 3) (oi := ⟨_, _, _, _, _, _⟩) (v := ?_) rfl (by kernel_rfl) (by kernel_rfl) (by kernel_rfl) (fun _ _ _ h => h) (Or.inl ⟨by rfl, ?_⟩) (by assumption) ?_
    rotate_left
    · intro u hSw
      go_simp
      try (with_reducible rfl)
    try simp only [Act.put, List.setIfInBounds_toArray, List.set_cons_zero, List.set_cons_succ]
    refine wpAnyH_take (i := 4) (oi := ⟨_, _, _, _, _, _⟩) (v := ?_) rfl (by kernel_rfl) (by kernel_rfl) (by kernel_rfl) (fun _ _ _ h => h) (Or.inl ⟨by rfl, ?_⟩) (by assumption) ?_
    rotate_left
    · intro u hSw
      go_simp
      try (with_reducible rfl)
    try simp only [Act.put, List.setIfInBounds_toArray, List.set_cons_zero, List.set_cons_succ]
    refine wpAnyH_take (i := 5) (oi := ⟨_, _, _, _, _, _⟩) (v := ?_) rfl (by kernel_rfl) (by kernel_rfl) (by kernel_rfl) (fun _ _ _ h => h) (Or.inl ⟨by rfl, ?_⟩) (by assumption) ?_
    rotate_left
    · intro u hSw
      go_simp
      try (with_reducible rfl)
    try simp only [Act.put, List.setIfInBounds_toArray, List.set_cons_zero, List.set_cons_succ]
    refine wpAnyH_take (i := 6) (oi := ⟨_, _, _, _, _, _⟩) (v := ?_) rfl (by kernel_rfl) (by kernel_rfl) (by kernel_rfl) (fun _ _ _ h => h) (Or.inl ⟨by rfl, ?_⟩) (by assumption) ?_
    rotate_left
    · intro u hSw
      go_simp
      try (with_reducible rfl)
    try simp only [Act.put, List.setIfInBounds_toArray, List.set_cons_zero, List.set_cons_succ]
    refine wpAnyH_take (i := 7) (oi := ⟨_, _, _, _, _, _⟩) (v := ?_) rfl (by kernel_rfl) (by kernel_rfl) (by kernel_rfl) (fun _ _ _ h => h) (Or.inl ⟨by rfl, ?_⟩) (by assumption) ?_
    rotate_left
    · intro u hSw
      have s0 := (hSw.cell (p := ⟨w.heap.size, 0, none⟩) (by show w.heap.size < _; omega)).trans (A0.cell 0)
      have s1 := (hSw.cell (p := ⟨w.heap.size, 1, none⟩) (by show w.heap.size < _; omega)).trans (A0.cell 1)
      go_simp
      try (with_reducible rfl)
    try simp only [Act.put, List.setIfInBounds_toArray, List.set_cons_zero, List.set_cons_succ]
    refine wpAnyH_take (i := 8) (oi := ⟨_, _, _, _, _, _⟩) (v := ?_) rfl (by kernel_rfl) (by kernel_rfl) (by kernel_rfl) (fun _ _ _ h => h) (Or.inl ⟨by rfl, ?_⟩) (by assumption) ?_
    rotate_left
    · intro u hSw
      go_simp
      try (with_reducible rfl)
    try simp only [Act.put, List.setIfInBounds_toArray, List.set_cons_zero, List.set_cons_succ]
    refine wpAnyH_take (i := 9) (oi := ⟨_, _, _, _, _, _⟩) (v := ?_) rfl (by kernel_rfl) (by kernel_rfl) (by kernel_rfl) (fun _ _ _ h => h) (Or.inl ⟨by rfl, ?_⟩) (by assumption) ?_
    rotate_left
    · intro u hSw
      have s0 := (hSw.cell (p := ⟨(w.heap.size + 1), 0, none⟩) (by show (w.heap.size + 1) < _; omega)).trans (A1.cell 0)
      have s1 := (hSw.cell (p := ⟨(w.heap.size + 1), 1, none⟩) (by show (w.heap.size + 1) < _; omega)).trans (A1.cell 1)
      have s2 := (hSw.cell (p := ⟨(w.heap.size + 1), 2, none⟩) (by show (w.heap.size + 1) < _; omega)).trans (A1.cell 2)
      have s3 := (hSw.cell (p := ⟨(w.heap.size + 1), 3, none⟩) (by show (w.heap.size + 1) < _; omega)).trans (A1.cell 3)
      have s4 := (hSw.cell (p := ⟨(w.heap.size + 1), 4, none⟩) (by show (w.heap.size + 1) < _; omega)).trans (A1.cell 4)
      have s5 := (hSw.cell (p := ⟨(w.heap.size + 1), 5, none⟩) (by show (w.heap.size + 1) < _; omega)).trans (A1.cell 5)
      have s6 := (hSw.cell (p := ⟨(w.heap.size + 1), 6, none⟩) (by show (w.heap.size + 1) < _; omega)).trans (A1.cell 6)
      go_simp
      try (with_reducible rfl)
    try simp only [Act.put, List.setIfInBounds_toArray, List.set_cons_zero, List.set_cons_succ]
    refine wpAnyH_take (i := 11) (oi := ⟨_, _, _, _, _, _⟩) (v := ?_) rfl (by kernel_rfl) (by kernel_rfl) (by kernel_rfl) (fun _ _ _ h => h) (Or.inl ⟨by rfl, ?_⟩) (by assumption) ?_
    rotate_left
    · intro u hSw
      go_simp
      try (with_reducible rfl)
    try simp only [Act.put, List.setIfInBounds_toArray, List.set_cons_zero, List.set_cons_succ]
    refine wpAnyH_take (i := 12) (oi := ⟨_, _, _, _, _, _⟩) (v := ?_) rfl (by kernel_rfl) (by kernel_rfl) (by kernel_rfl) (fun _ _ _ h => h) (Or.inl ⟨by rfl, ?_⟩) (by assumption) ?_
    rotate_left
    · intro u hSw
      have s4 := (hSw.cell (p := ⟨(w.heap.size + 1), 4, none⟩) (by show (w.heap.size + 1) < _; omega)).trans (A1.cell 4)
      go_simp
      try (with_reducible rfl)
    try simp only [Act.put, List.setIfInBounds_toArray, List.set_cons_zero, List.set_cons_succ]
    refine wpAnyH_take (i := 13) (oi := ⟨_, _, _, _, _, _⟩) (v := ?_) rfl (by kernel_rfl) (by kernel_rfl) (by kernel_rfl) (fun _ _ _ h => h) (Or.inl ⟨by rfl, ?_⟩) (by assumption) ?_
    rotate_left
    · intro u hSw
      go_simp
      try (with_reducible rfl)
    try simp only [Act.put, List.setIfInBounds_toArray, List.set_cons_zero, List.set_cons_succ]
    refine wpAnyH_ready (rs := [10]) (by kernel_rfl) (by simp) ?_
    refine AllReadyH.cons (o := ⟨_, _, _, _, _, _⟩) rfl (fun K hK => ?_) AllReadyH.nil
    go_simp
    refine (harg U.drew (dw1 (Below.refl _ _))).mono ?_
    rintro e w1 ⟨rfl, hb1⟩
    have hB1 : Below U.heap.size U w1 := (dw1 (Below.refl _ U)).trans hb1
    go_wp2_with fail
    refine hK.out _ _ hB1 (fun hHeld => ?_)
    clear hK K
    try simp only [Act.put, List.setIfInBounds_toArray, List.set_cons_zero, List.set_cons_succ]
    refine wpAnyH_take (i := 14) (oi := ⟨_, _, _, _, _, _⟩) (v := ?_) rfl (by kernel_rfl) (by kernel_rfl) (by kernel_rfl) (fun _ _ _ h => h) (Or.inl ⟨by rfl, ?_⟩) (by assumption) ?_
    rotate_left
    · intro u hSw
      go_simp
      try (with_reducible rfl)
    try simp only [Act.put, List.setIfInBounds_toArray, List.set_cons_zero, List.set_cons_succ]
    refine wpAnyH_take (i := 15) (oi := ⟨_, _, _, _, _, _⟩) (v := ?_) rfl (by kernel_rfl) (by kernel_rfl) (by kernel_rfl) (fun _ _ _ h => h) (Or.inl ⟨by rfl, ?_⟩) (by assumption) ?_
    rotate_left
    · intro u hSw
      go_simp
      try (with_reducible rfl)
    try simp only [Act.put, List.setIfInBounds_toArray, List.set_cons_zero, List.set_cons_succ]
    refine wpAnyH_done (by kernel_rfl) ?_ _
    have B1 := b0.trans (hB1.mono b0.size)
    go_upto_region 5 with fail
    go_loopw [3, 11] (fun a i wr => ∃ (j : Nat), i = .int .i64 (j : Int) ∧ j ≤ na ∧ ((∃ q : Nat, q ≤ 4096 ∧ a = .int .i64 (q : Int) ∧ Hid (fld (exN vs 8) t.nd.a k1 = fld (exN vs 8) (t.nd.a.drop j) q)) ∨ (a = .int .i64 (-1) ∧ Hid (fld (exN vs 8) t.nd.a k1 = none))) ∧ Below U.heap.size U wr)
      (fun _ i _ => na - (intOf i).toNat)
    case atStart => exact ⟨0, rfl, by omega, .inl ⟨k1, hk1, rfl, hid (by rw [List.drop_zero])⟩, hB1⟩
    case round =>
      obtain ⟨j, rfl, hj, hqq, hb⟩ := hrel
      have B2 := b0.trans (hb.mono b0.size)
      have e4 := (A1.bl hb).cell 4
      have e5 := (A1.bl hb).cell 5
      have f0 := (A0.bl hb).cell 0
      have f1 := (A0.bl hb).cell 1
      have FIN : ∀ (q : Option Nat), (∀ k, q = some k → k ≤ 4096) → Hid (fld (exN vs 8) t.nd.a k1 = q) → Hid (r = (q.bind (fld (stN ((fs.take fi).map FuT.p) vs d) t.nd.th)).bind (fld (stN ((fs.take fi).map FuT.p) vs d) t.nd.el)) := fun q _ h => hid (by rw [hr2.out, h.out])
      rcases hqq with ⟨q, hq, rfl, hf⟩ | ⟨rfl, hf⟩
      · have hq0 : (0 : Int) ≤ q := by omega
        by_cases hlt : j < na
        · obtain ⟨x, ht⟩ : ∃ t', t.nd.a[j]? = some t' := ⟨t.nd.a[j]'(by rw [← hna.out]; exact hlt), List.getElem?_eq_getElem _⟩
          obtain ⟨g, off, rfl, hg, hR⟩ := hSaU.at0 (by omega)
          obtain ⟨cs, hrg, hM⟩ := hR j x ht
          have hrg2 := rb hrg hb (by omega)
          have hM2 := ExM.below (hb.mono hNU) 8 cs x hM
          obtain ⟨ek, en, ev, eo, es, em, ec, rfl⟩ := hM.cells
          have c0 := hrg2 0 _ rfl
          have c1 := hrg2 1 _ rfl
          have c2 := hrg2 2 _ rfl
          have c3 := hrg2 3 _ rfl
          have c4 := hrg2 4 _ rfl
          simp only [Nat.add_zero] at c0
          obtain ⟨gf, of, rfl, hgf, hRf⟩ := hFU.at0 (by omega)
          obtain ⟨cf, hrf, hMf⟩ := hRf fi fn hfi
          obtain ⟨qa, qb, qc, rfl, -, -⟩ := hMf
          have v1 : wr.cell? ⟨gf, of + fi * 3 + 1, none⟩ = some (.int .i64 vs) := by rw [← hvs]; exact rb hrf hb (by omega) 1 _ rfl
          have hlt' : (j : Int) < na := by omega
          have h0' : (0 : Int) ≤ j := by omega
          have hfd := fld_drop (f := exN vs 8) ht q
          have bd : Below wr.heap.size wr wr.drew := dw1 (Below.refl _ _)
          have hcc := dexpr_any (vs := vs) 8 (by omega) wr.drew _ x q hq (by have := hb.size; show N ≤ wr.heap.size; omega) (ExM.below (bd.mono (by have := hb.size; omega)) 8 _ x hM2)
          unfold DoP at hcc
          clear hSaU hR hrg hrg2 hM hM2 hna ht A0 A1 hFU hrf hRf hth hel harg hr2 FIN
          cases hx : exN vs 8 x q with
          | none =>
            rw [hx] at hcc hfd
            have hrn : Hid (fld (exN vs 8) t.nd.a k1 = none) := hid (hf.out.trans hfd)
            clear hx hfd hf
            unfold exC at *
            go_upto_region 7 with fail
            go_region_with (go_at_call 56; go_must (refine hcc.mono ?_; rintro e w3 ⟨rfl, hb3⟩))
            all_goals
              go_wp2_with fail
              go_roundw
              case rel => exact ⟨j + 1, by go_num, by omega, .inr ⟨rfl, hrn⟩, hb.trans ((bd.trans hb3).mono hb.size)⟩
              case measure => simp [intOf]; omega
          | some q' =>
            have hq' := exN_le 8 x q q' hx
            rw [hx] at hcc hfd
            have hrn : Hid (fld (exN vs 8) t.nd.a k1 = fld (exN vs 8) (t.nd.a.drop (j + 1)) q') := hid (hf.out.trans hfd)
            clear hx hfd hf
            unfold exC at *
            go_upto_region 7 with fail
            go_region_with (go_at_call 56; go_must (refine hcc.mono ?_; rintro e w3 ⟨rfl, hb3⟩))
            all_goals
              go_wp2_with fail
              go_roundw
              case rel => exact ⟨j + 1, by go_num, by omega, .inl ⟨q', by omega, rfl, hrn⟩, hb.trans ((bd.trans hb3).mono hb.size)⟩
              case measure => simp [intOf]; omega
        · obtain rfl : j = na := by omega
          have hlt' : ¬ (j : Int) < j := by omega
          have hfin := FIN (some q) (fun k h => by cases h; exact hq) (hid (by rw [hf.out, hna.out, List.drop_length]; rfl))
          have ht1 := hth wr hb (some q) (fun k h => by cases h; exact hq) _ _ rfl rfl
          have hq1 : ∀ k, (some q).bind (fld (stN ((fs.take fi).map FuT.p) vs d) t.nd.th) = some k → k ≤ 4096 := fun k h => by have := fld_le (stN_le d) _ _ _ h; omega
          have he1 := fun (u : World) (hu : Below U.heap.size U u) => hel u hu _ hq1 _ _ rfl rfl
          replace ht1 : Calls Try.prog 30 #[.agg #[.slice sp n cap, .int .i64 da], .int .i64 (fi : Int), .slice sb nb cb, .int .i64 (q : Int), .int .i64 (d : Int)] wr _ := ht1
          generalize (some q).bind (fld (stN ((fs.take fi).map FuT.p) vs d) t.nd.th) = q2 at *
          generalize q2.bind (fld (stN ((fs.take fi).map FuT.p) vs d) t.nd.el) = q3 at *
          clear hSaU hna hFU hth hel harg hr2 FIN hf hq1
          go_upto_region 9 with (go_at_call 30; go_must (refine ht1.mono ?_; rintro e w4 ⟨rfl, hb4⟩; have hb5 := hb.trans (hb4.mono hb.size); have p0 := (A0.bl hb5).cell 0; have p1 := (A0.bl hb5).cell 1; have p6 := (A1.bl hb5).cell 6; clear ht1; replace he1 := he1 w4 hb5))
          go_wp2_with (go_at_call 30; go_must (refine he1.mono ?_; rintro e w6 ⟨rfl, hb6⟩))
          go_ret
          rw [hfin.out]
          have B5 := b0.trans (hb5.mono b0.size)
          exact ⟨rfl, B5.trans (hb6.mono B5.size)⟩
      · have hfin := FIN none (fun k h => by cases h) hf
        have ht1 := hth wr hb none (fun k h => by cases h) _ _ rfl rfl
        have he1 := fun (u : World) (hu : Below U.heap.size U u) => hel u hu ((none : Option Nat).bind (fld (stN ((fs.take fi).map FuT.p) vs d) t.nd.th)) (fun k h => by cases h) _ _ rfl rfl
        replace ht1 : Calls Try.prog 30 #[.agg #[.slice sp n cap, .int .i64 da], .int .i64 (fi : Int), .slice sb nb cb, .int .i64 (-1), .int .i64 (d : Int)] wr _ := ht1
        generalize (none : Option Nat).bind (fld (stN ((fs.take fi).map FuT.p) vs d) t.nd.th) = q2 at *
        generalize q2.bind (fld (stN ((fs.take fi).map FuT.p) vs d) t.nd.el) = q3 at *
        clear hSaU hna hFU hth hel harg hr2 FIN hf
        by_cases hlt : j < na
        · have hlt' : (j : Int) < na := by omega
          go_upto_region 9 with (go_at_call 30; go_must (refine ht1.mono ?_; rintro e w4 ⟨rfl, hb4⟩; have hb5 := hb.trans (hb4.mono hb.size); have p0 := (A0.bl hb5).cell 0; have p1 := (A0.bl hb5).cell 1; have p6 := (A1.bl hb5).cell 6; clear ht1; replace he1 := he1 w4 hb5))
          go_wp2_with (go_at_call 30; go_must (refine he1.mono ?_; rintro e w6 ⟨rfl, hb6⟩))
          go_ret
          rw [hfin.out]
          have B5 := b0.trans (hb5.mono b0.size)
          exact ⟨rfl, B5.trans (hb6.mono B5.size)⟩
        · have hlt' : ¬ (j : Int) < na := by omega
          go_upto_region 9 with (go_at_call 30; go_must (refine ht1.mono ?_; rintro e w4 ⟨rfl, hb4⟩; have hb5 := hb.trans (hb4.mono hb.size); have p0 := (A0.bl hb5).cell 0; have p1 := (A0.bl hb5).cell 1; have p6 := (A1.bl hb5).cell 6; clear ht1; replace he1 := he1 w4 hb5))
          go_wp2_with (go_at_call 30; go_must (refine he1.mono ?_; rintro e w6 ⟨rfl, hb6⟩))
          go_ret
          rw [hfin.out]
          have B5 := b0.trans (hb5.mono b0.size)
          exact ⟨rfl, B5.trans (hb6.mono B5.size)⟩
  · have hz : Hid (r = none) := hid (by rw [hr.out, if_neg (by rw [← hna.out]; exact hag)])
    have hagb : (agN ((fs.take fi).map FuT.p) vs t.nd != (na : Int)) = true := by simpa using hag
    generalize agN ((fs.take fi).map FuT.p) vs t.nd = ag at *
    clear hag hr hth hel hSaU hFU
    refine wp_region_held_drew (S := fun u => Below U.heap.size U u) (by kernel_rfl) ((Below.refl _ U).drew) (fun hHeld => ?_)
    refine wpAnyH_take (i := 0) (oi := ⟨_, _, _, _, _, _⟩) (v := ?_) rfl (by kernel_rfl) (by kernel_rfl) (by kernel_rfl) (fun _ _ _ h => h) (Or.inl ⟨by rfl, ?_⟩) (by assumption) ?_
    rotate_left
    · intro u hSw
      go_simp
      try (with_reducible rfl)
    try simp only [Act.put, List.setIfInBounds_toArray, List.set_cons_zero, List.set_cons_succ]
    refine wpAnyH_take (i := 1) (oi := ⟨_, _, _, _, _, _⟩) (v := ?_) rfl (by kernel_rfl) (by kernel_rfl) (by kernel_rfl) (fun _ _ _ h => h) (Or.inl ⟨by rfl, ?_⟩) (by assumption) ?_
    rotate_left
    · intro u hSw
      go_simp
      try (with_reducible rfl)
    try simp only [Act.put, List.setIfInBounds_toArray, List.set_cons_zero, List.set_cons_succ]
    refine wpAnyH_take (i := 2) (oi := ⟨_, _, _, _, _, _⟩) (v := ?_) rfl (by kernel_rfl) (by kernel_rfl) (by kernel_rfl) (fun _ _ _ h => h) (Or.inl ⟨by rfl, ?_⟩) (by assumption) ?_
    rotate_left
    · intro u hSw
      go_simp
      try (with_reducible rfl)
    try simp only [Act.put, List.setIfInBounds_toArray, List.set_cons_zero, List.set_cons_succ]
    refine wpAnyH_take (i := 3) (oi := ⟨_, _, _, _, _, _⟩) (v := ?_) rfl (by kernel_rfl) (by kernel_rfl) (by kernel_rfl) (fun _ _ _ h => h) (Or.inl ⟨by rfl, ?_⟩) (by assumption) ?_
    rotate_left
    · intro u hSw
      go_simp
      try (with_reducible rfl)
    try simp only [Act.put, List.setIfInBounds_toArray, List.set_cons_zero, List.set_cons_succ]
    refine wpAnyH_take (i := 4) (oi := ⟨_, _, _, _, _, _⟩) (v := ?_) rfl (by kernel_rfl) (by kernel_rfl) (by kernel_rfl) (fun _ _ _ h => h) (Or.inl ⟨by rfl, ?_⟩) (by assumption) ?_
    rotate_left
    · intro u hSw
      go_simp
      try (with_reducible rfl)
    try simp only [Act.put, List.setIfInBounds_toArray, List.set_cons_zero, List.set_cons_succ]
    refine wpAnyH_take (i := 5) (oi := ⟨_, _, _, _, _, _⟩) (v := ?_) rfl (by kernel_rfl) (by kernel_rfl) (by kernel_rfl) (fun _ _ _ h => h) (Or.inl ⟨by rfl, ?_⟩) (by assumption) ?_
    rotate_left
    · intro u hSw
      go_simp
      try (with_reducible rfl)
    try simp only [Act.put, List.setIfInBounds_toArray, List.set_cons_zero, List.set_cons_succ]
    refine wpAnyH_take (i := 6) (oi := ⟨_, _, _, _, _, _⟩) (v := ?_) rfl (by kernel_rfl) (by kernel_rfl) (by kernel_rfl) (fun _ _ _ h => h) (Or.inl ⟨by rfl, ?_⟩) (by assumption) ?_
    rotate_left
    · intro u hSw
      go_simp
      try (with_reducible rfl)
    try simp only [Act.put, List.setIfInBounds_toArray, List.set_cons_zero, List.set_cons_succ]
    refine wpAnyH_take (i := 7) (oi := ⟨_, _, _, _, _, _⟩) (v := ?_) rfl (by kernel_rfl) (by kernel_rfl) (by kernel_rfl) (fun _ _ _ h => h) (Or.inl ⟨by rfl, ?_⟩) (by assumption) ?_
    rotate_left
    · intro u hSw
      have s0 := (hSw.cell (p := ⟨w.heap.size, 0, none⟩) (by show w.heap.size < _; omega)).trans (A0.cell 0)
      have s1 := (hSw.cell (p := ⟨w.heap.size, 1, none⟩) (by show w.heap.size < _; omega)).trans (A0.cell 1)
      go_simp
      try (with_reducible rfl)
    try simp only [Act.put, List.setIfInBounds_toArray, List.set_cons_zero, List.set_cons_succ]
    refine wpAnyH_take (i := 8) (oi := ⟨_, _, _, _, _, _⟩) (v := ?_) rfl (by kernel_rfl) (by kernel_rfl) (by kernel_rfl) (fun _ _ _ h => h) (Or.inl ⟨by rfl, ?_⟩) (by assumption) ?_
    rotate_left
    · intro u hSw
      go_simp
      try (with_reducible rfl)
    try simp only [Act.put, List.setIfInBounds_toArray, List.set_cons_zero, List.set_cons_succ]
    refine wpAnyH_take (i := 9) (oi := ⟨_, _, _, _, _, _⟩) (v := ?_) rfl (by kernel_rfl) (by kernel_rfl) (by kernel_rfl) (fun _ _ _ h => h) (Or.inl ⟨by rfl, ?_⟩) (by assumption) ?_
    rotate_left
    · intro u hSw
      have s0 := (hSw.cell (p := ⟨(w.heap.size + 1), 0, none⟩) (by show (w.heap.size + 1) < _; omega)).trans (A1.cell 0)
      have s1 := (hSw.cell (p := ⟨(w.heap.size + 1), 1, none⟩) (by show (w.heap.size + 1) < _; omega)).trans (A1.cell 1)
      have s2 := (hSw.cell (p := ⟨(w.heap.size + 1), 2, none⟩) (by show (w.heap.size + 1) < _; omega)).trans (A1.cell 2)
      have s3 := (hSw.cell (p := ⟨(w.heap.size + 1), 3, none⟩) (by show (w.heap.size + 1) < _; omega)).trans (A1.cell 3)
      have s4 := (hSw.cell (p := ⟨(w.heap.size + 1), 4, none⟩) (by show (w.heap.size + 1) < _; omega)).trans (A1.cell 4)
      have s5 := (hSw.cell (p := ⟨(w.heap.size + 1), 5, none⟩) (by show (w.heap.size + 1) < _; omega)).trans (A1.cell 5)
      have s6 := (hSw.cell (p := ⟨(w.heap.size + 1), 6, none⟩) (by show (w.heap.size + 1) < _; omega)).trans (A1.cell 6)
      go_simp
      try (with_reducible rfl)
    try simp only [Act.put, List.setIfInBounds_toArray, List.set_cons_zero, List.set_cons_succ]
    refine wpAnyH_take (i := 11) (oi := ⟨_, _, _, _, _, _⟩) (v := ?_) rfl (by kernel_rfl) (by kernel_rfl) (by kernel_rfl) (fun _ _ _ h => h) (Or.inl ⟨by rfl, ?_⟩) (by assumption) ?_
    rotate_left
    · intro u hSw
      go_simp
      try (with_reducible rfl)
    try simp only [Act.put, List.setIfInBounds_toArray, List.set_cons_zero, List.set_cons_succ]
    refine wpAnyH_take (i := 12) (oi := ⟨_, _, _, _, _, _⟩) (v := ?_) rfl (by kernel_rfl) (by kernel_rfl) (by kernel_rfl) (fun _ _ _ h => h) (Or.inl ⟨by rfl, ?_⟩) (by assumption) ?_
    rotate_left
    · intro u hSw
      have s4 := (hSw.cell (p := ⟨(w.heap.size + 1), 4, none⟩) (by show (w.heap.size + 1) < _; omega)).trans (A1.cell 4)
      go_simp
      try (with_reducible rfl)
    try simp only [Act.put, List.setIfInBounds_toArray, List.set_cons_zero, List.set_cons_succ]
    refine wpAnyH_take (i := 13) (oi := ⟨_, _, _, _, _, _⟩) (v := ?_) rfl (by kernel_rfl) (by kernel_rfl) (by kernel_rfl) (fun _ _ _ h => h) (Or.inl ⟨by rfl, ?_⟩) (by assumption) ?_
    rotate_left
    · intro u hSw
      go_simp
      try (with_reducible rfl)
    try simp only [Act.put, List.setIfInBounds_toArray, List.set_cons_zero, List.set_cons_succ]
    refine wpAnyH_ready (rs := [10]) (by kernel_rfl) (by simp) ?_
    refine AllReadyH.cons (o := ⟨_, _, _, _, _, _⟩) rfl (fun K hK => ?_) AllReadyH.nil
    go_simp
    refine (harg U.drew (dw1 (Below.refl _ _))).mono ?_
    rintro e w1 ⟨rfl, hb1⟩
    have hB1 : Below U.heap.size U w1 := (dw1 (Below.refl _ U)).trans hb1
    go_wp2_with fail
    refine hK.out _ _ hB1 (fun hHeld => ?_)
    clear hK K
    try simp only [Act.put, List.setIfInBounds_toArray, List.set_cons_zero, List.set_cons_succ]
    refine wpAnyH_take (i := 14) (oi := ⟨_, _, _, _, _, _⟩) (v := ?_) rfl (by kernel_rfl) (by kernel_rfl) (by kernel_rfl) (fun _ _ _ h => h) (Or.inl ⟨by rfl, ?_⟩) (by assumption) ?_
    rotate_left
    · intro u hSw
      go_simp
      try (with_reducible rfl)
    try simp only [Act.put, List.setIfInBounds_toArray, List.set_cons_zero, List.set_cons_succ]
    refine wpAnyH_take (i := 15) (oi := ⟨_, _, _, _, _, _⟩) (v := ?_) rfl (by kernel_rfl) (by kernel_rfl) (by kernel_rfl) (fun _ _ _ h => h) (Or.inl ⟨by rfl, ?_⟩) (by assumption) ?_
    rotate_left
    · intro u hSw
      go_simp
      try (with_reducible rfl)
    try simp only [Act.put, List.setIfInBounds_toArray, List.set_cons_zero, List.set_cons_succ]
    refine wpAnyH_done (by kernel_rfl) ?_ _
    go_wp2_with fail
    go_ret
    rw [hz.out]
    exact ⟨rfl, b0.trans (hB1.mono b0.size)⟩
end Go.Proofs.Ytmljihggooaboaa
/- Layer interp: which statements may be, by the document, at every depth. -/
namespace Go.Proofs.Ytmljihggooaboaa
open Go.RowKit
set_option maxRecDepth 100000
set_option linter.unusedVariables false
set_option linter.unusedSimpArgs false

set_option maxHeartbeats 1000000 in
theorem dstmt_0 {N : Nat} {sp : Option Addr} {n cap : Nat} {fs : List FuT} {da vs : Int} {fi : Nat} : DsAt N sp n cap fs da vs fi 0 := by
  intro w cs t k hk hN hF hM
  obtain ⟨xk, xv, xf, xt, xa, ya, za, xb, yb, zb, xc, yc, zc, rfl⟩ := hM.cells
  have b0 : Below w.heap.size w ((w.alloc (.cells #[.slice sp n cap, .int .i64 da] 24)).alloc (.cells (stC xk xv xf xt (.slice xa ya za) (.slice xb yb zb) (.slice xc yc zc)).toArray 78)) := (ab w _).alloc (by simp) _
  rw [show stN ((fs.take fi).map FuT.p) vs 0 t k = none from rfl]
  clear hM hF
  have hsub : IntKind.i64.wrap ((k : Int) - 1) = (k : Int) - 1 := by rw [IntKind.wrap_i64]; omega
  unfold stC at *
  by_cases h0 : (k : Int) - 1 < 0
  · go_enter Try.func38, Try.ntmps38
    go_upto_region 2 with fail
    go_quiet (fail)
    go_wp2_with fail
    go_ret
    exact ⟨rfl, dwN b0 _⟩
  · go_enter Try.func38, Try.ntmps38
    go_upto_region 2 with fail
    go_quiet (fail)
    go_wp2_with fail
    go_ret
    exact ⟨rfl, dwN b0 _⟩
theorem dstmt_any {N : Nat} {sp : Option Addr} {n cap : Nat} {fs : List FuT} {da vs : Int} {fi : Nat} {fn : FuT} (hfi : fs[fi]? = some fn) (hvs : fn.v = vs) : ∀ d : Nat, d ≤ 100 → DsAt N sp n cap fs da vs fi d
  | 0, _ => dstmt_0
  | d + 1, h => dstmt_s (by omega) hfi hvs (dstmt_any hfi hvs d (by omega))
end Go.Proofs.Ytmljihggooaboaa
