/- Layer frame, the document's answer: List, Raw, a frame's item, Write. -/
import Derived.Test.YtbjlmekafnpllabJb
import Derived.Test.YtbjlmekafnpllabSe
import Derived.Test.YtbjlmekafnpllabFc
namespace Go.Proofs.Ytbjlmekafnpllab
open Go.RowKit
set_option linter.unusedVariables false
set_option linter.unusedSimpArgs false

set_option maxRecDepth 100000 in
set_option maxHeartbeats 400000 in
theorem refList_any (sp : Option Addr) (n cap : Nat) (w : World) :
    Calls Try.prog 44 #[.slice sp n cap] w fun e w' => e = .returned (.agg #[.bool true, .slice none 0 0, .slice sp n cap]) ∧ Below w.heap.size w w' := by
  have Z2 := Arr.new w 59 #[.bool false, .slice none 0 0, .slice none 0 0]
  go_enter Try.func44, Try.ntmps44
  have Z3 := Arr.new w 59 #[.bool true, .slice none 0 0, .slice sp n cap]
  go_wp2
  exact bodyPost_ret (v := .agg #[.bool true, .slice none 0 0, .slice sp n cap]) (res_item Try.results44 rfl Z3) rfl ⟨rfl, alloc_bel' w _⟩

set_option maxRecDepth 100000 in
set_option maxHeartbeats 400000 in
theorem refRaw_any (sp : Option Addr) (n cap : Nat) (L : List Int) (N : Nat) (w : World) (hS : BS N w sp n cap L) (hn : L.length ≤ 140737488355328) :
    Calls Try.prog 46 #[.slice sp n cap] w fun e w' => ∃ sp' cap', e = .returned (.agg #[.bool false, .slice sp' n cap', .slice none 0 0]) ∧ BS w'.heap.size w' sp' n cap' L ∧ Below w.heap.size w w' := by
  have hS0 := hS.here.below (alloc_bel' w (.cells #[.bool false, .slice none 0 0, .slice none 0 0] 59))
  have hl := hS.len
  have hsm := hS.small
  go_enter Try.func46, Try.ntmps46
  go_wp2_with (first
    | (go_at_call 21; go_must (refine (copy01_any sp n cap L _ _ hS0).mono ?_; rintro e w2 ⟨v2, rfl, hown2, hb2⟩; have Z2 := (Arr.new w 59 #[.bool false, .slice none 0 0, .slice none 0 0]).below hb2 (by simp); rw [hl.out] at hown2; obtain ⟨s2, c2, rfl, hbs2, hge2⟩ := own_bs hown2 hS.bts (by omega)))
    | (refine wpList_store_arr (by rfl) 59 (.tmp 2) (.tmp 5) (by rfl) w.heap.size #[.bool false, .slice s2 L.length c2, .slice none 0 0] (by rfl) (by rfl) 59 _ Z2 size25 rfl (one3 _ _ _ _ _ _ _) ?_))
  refine bodyPost_ret (v := .agg #[.bool false, .slice s2 L.length c2, .slice none 0 0]) (res_item Try.results46 rfl (Z2.setRow _)) rfl ⟨s2, c2, by rw [hl.out], ?_, below_row (((Below.refl _ _).alloc (Nat.le_refl _) _).trans (hb2.mono (by simp))) (Nat.le_refl _) _⟩
  have hh : BSs (fun b => w.heap.size < b) w2 s2 L.length c2 L := ⟨hbs2, own_mono hown2 (Nat.zero_le _), fun b off e => by have := (hge2 b off e).1; simp at this; omega⟩
  rw [hl.out]
  exact (hh.agree (w' := w2.setRow w.heap.size #[.bool false, .slice s2 L.length c2, .slice none 0 0]) ⟨by simp, fun b _ h => setRow_other _ _ _ _ (by omega)⟩).1

theorem BS.rowOther {N : Nat} {w : World} {sp : Option Addr} {n cap : Nat} {L : List Int} (h : BS N w sp n cap L) {g ty : Nat} {C : Array Value} (hA : Arr w g ty C) (hC : ∀ (j : Nat) k, C[j]? ≠ some (.int .u8 k)) (C' : Array Value) : BS N (w.setRow g C') sp n cap L :=
  ⟨h.len, h.nil, h.le, h.big, h.small, fun h0 => by
    obtain ⟨b, off, e, hb, hB⟩ := h.at0 h0
    have hne : b ≠ g := by
      rintro rfl
      have := hB 0 h0
      rw [hA.cell] at this
      exact hC _ _ this
    exact ⟨b, off, e, hb, fun t ht => (World.cell?_of_block (w := w) (setRow_other _ _ _ _ hne)).trans (hB t ht)⟩, h.bts⟩
theorem no59 (j : Nat) (k : Int) : (#[.bool false, .slice none 0 0, .slice none 0 0] : Array Value)[j]? ≠ some (.int .u8 k) := by
  match j with
  | 0 => simp
  | 1 => simp
  | 2 => simp
  | j + 3 => simp
/-- The item of a frame, in whatever world. -/
theorem item4u {u : World} {N3 N4 N5 N6 g : Nat} {s3 s4 s5 s6 : Option Addr} {k3 k4 k5 n6 k6 c s t : Nat} {bs : List Int}
    (hA : Arr u g 59 #[.bool false, .slice s3 (be c).length k3, .slice none 0 0, .bool false, .slice s4 (be s).length k4, .slice none 0 0, .bool false, .slice s5 (be t).length k5, .slice none 0 0, .bool false, .slice s6 n6 k6, .slice none 0 0])
    (h3 : BS N3 u s3 (be c).length k3 (be c)) (h4 : BS N4 u s4 (be s).length k4 (be s)) (h5 : BS N5 u s5 (be t).length k5 (be t)) (h6 : BS N6 u s6 n6 k6 bs) :
    Is u.heap.size u 16 (.agg #[.bool true, .slice none 0 0, .slice (some ⟨g, 0, none⟩) 4 4]) (some (wf c s t bs)) := by
  have hlt := hA.lt
  refine ⟨true, none, 0, 0, [], some ⟨g, 0, none⟩, 4, 4, [.agg #[.bool false, .slice s3 (be c).length k3, .slice none 0 0], .agg #[.bool false, .slice s4 (be s).length k4, .slice none 0 0], .agg #[.bool false, .slice s5 (be t).length k5, .slice none 0 0], .agg #[.bool false, .slice s6 n6 k6, .slice none 0 0]], ⟨rfl, BS.nil0 _ _, ⟨rfl, (fun e => by cases e), Nat.le_refl _, by omega, by omega, fun _ => ⟨_, 0, rfl, by omega, fun i v hv => ?_⟩⟩⟩, .inr (.inr ⟨rfl, rfl, (wf4 c s t bs).map some, rfl, fun i v o hv ho => ?_, by rw [cat_map]; rfl⟩)⟩
  · match i, hv with
    | 0, hv => cases hv; exact ⟨_, _, _, rfl, hA.cell 0, hA.cell 1, hA.cell 2⟩
    | 1, hv => cases hv; exact ⟨_, _, _, rfl, hA.cell 3, hA.cell 4, hA.cell 5⟩
    | 2, hv => cases hv; exact ⟨_, _, _, rfl, hA.cell 6, hA.cell 7, hA.cell 8⟩
    | 3, hv => cases hv; exact ⟨_, _, _, rfl, hA.cell 9, hA.cell 10, hA.cell 11⟩
  · match i, hv, ho with
    | 0, hv, ho => cases hv; cases ho; exact bytes_is 14 h3.here
    | 1, hv, ho => cases hv; cases ho; exact bytes_is 14 h4.here
    | 2, hv, ho => cases hv; cases ho; exact bytes_is 14 h5.here
    | 3, hv, ho => cases hv; cases ho; exact bytes_is 14 h6.here
theorem refNum_at (x : Int) (m : Nat) (hx : x = m) (w : World) (hm : m ≤ 18446744073709551615) :
    Calls Try.prog 45 #[.int .u64 x] w fun e w' => ∃ sp cap, e = .returned (.agg #[.bool false, .slice sp (be m).length cap, .slice none 0 0]) ∧ BS w'.heap.size w' sp (be m).length cap (be m) ∧ Below w.heap.size w w' := by
  subst hx; exact refNum_any m w hm
set_option maxRecDepth 100000 in
set_option maxHeartbeats 1000000 in
theorem refItem_any (f : Fr) (N : Nat) (w : World) (hf : FrOK N w f) (hN : N ≤ w.heap.size) (hm : f.may = true) :
    Calls Try.prog 27 #[f.val] w fun e w' => ∃ g, e = .returned (.agg #[.bool true, .slice none 0 0, .slice (some ⟨g, 0, none⟩) 4 4]) ∧ Is w'.heap.size w' 16 (.agg #[.bool true, .slice none 0 0, .slice (some ⟨g, 0, none⟩) 4 4]) (some f.form) ∧ Below w.heap.size w w' := by
  obtain ⟨h1, h2, h3⟩ := (Fr.may_iff f).1 hm
  have hbd := hf.body
  have hcm : f.ch = (f.ch.toNat : Nat) ∧ f.ch.toNat ≤ 18446744073709551615 := by have := hf.ch0; have := hf.ch1; omega
  have hsm2 : f.seq = (f.seq.toNat : Nat) ∧ f.seq.toNat ≤ 18446744073709551615 := by omega
  have hws : IntKind.u64.wrap f.seq = f.seq := by rw [IntKind.wrap_u64]; omega
  obtain ⟨t, ht⟩ : ∃ t, tn f.last = t := ⟨_, rfl⟩
  have htm : t ≤ 18446744073709551615 := by rw [← ht]; unfold tn; split <;> omega
  have hfm : Hid (f.form = wf f.ch.toNat f.seq.toNat t f.bs) := Hid.mk' (by unfold Fr.form; rw [ht])
  replace ht := Hid.mk' ht
  replace hcm := Hid.mk' hcm
  replace hsm2 := Hid.mk' hsm2
  have hbl : f.bs.length ≤ 140737488355328 := by have := hbd.len.out; omega
  replace hbl := hbl
  have hX0 := (Arr.new w 25 #[.int .u64 f.ch, .int .i64 f.seq, .bool f.last, .slice f.sp f.n f.cap]).alloc (.cells #[.bool false, .slice none 0 0, .slice none 0 0] 59)
  have hZ0 := Arr.new (w.alloc (.cells #[.int .u64 f.ch, .int .i64 f.seq, .bool f.last, .slice f.sp f.n f.cap] 25)) 59 #[.bool false, .slice none 0 0, .slice none 0 0]
  have hw2 : Below w.heap.size w ((w.alloc (.cells #[.int .u64 f.ch, .int .i64 f.seq, .bool f.last, .slice f.sp f.n f.cap] 25)).alloc (.cells #[.bool false, .slice none 0 0, .slice none 0 0] 59)) := (alloc_bel' w _).alloc (by simp) _
  have hs2 : ((w.alloc (.cells #[.int .u64 f.ch, .int .i64 f.seq, .bool f.last, .slice f.sp f.n f.cap] 25)).alloc (.cells #[.bool false, .slice none 0 0, .slice none 0 0] 59)).heap.size = w.heap.size + 2 := by simp
  rw [World.size_alloc] at hZ0
  unfold Fr.val
  go_enter Try.func27, Try.ntmps27
  go_wp2_with fail
  all_goals
    have X2 : Arr ((w.alloc (.cells #[.int .u64 f.ch, .int .i64 f.seq, .bool f.last, .slice f.sp f.n f.cap] 25)).alloc (.cells #[.bool false, .slice none 0 0, .slice none 0 0] 59)) w.heap.size 25 #[.int .u64 f.ch, .int .i64 f.seq, .bool f.last, .slice f.sp f.n f.cap] := hX0
    have Z2 := hZ0
    have hBd := (hbd.below (hw2.mono hN)).here
    generalize hW2 : (w.alloc (.cells #[.int .u64 f.ch, .int .i64 f.seq, .bool f.last, .slice f.sp f.n f.cap] 25)).alloc (.cells #[.bool false, .slice none 0 0, .slice none 0 0] 59) = w2 at *
    clear hW2
    refine wp_region_held_drew (S := fun u => Below (w.heap.size + 1) w2 u) (by kernel_rfl) ((Below.refl _ _).drew) (fun hHeld => ?_)
    refine wpAnyH_take (i := 0) (oi := ⟨_, _, _, _, _, _⟩) (v := ?_) rfl (by kernel_rfl) (by kernel_rfl) (by kernel_rfl) (fun _ _ _ h => h) (Or.inl ⟨by rfl, ?_⟩) (by assumption) ?_
    rotate_left
    · intro u hSw
      go_simp
      try (with_reducible rfl)
    try simp only [Act.put, List.setIfInBounds_toArray, List.set_cons_zero, List.set_cons_succ]
    refine wpAnyH_take (i := 1) (oi := ⟨_, _, _, _, _, _⟩) (v := ?_) rfl (by kernel_rfl) (by kernel_rfl) (by kernel_rfl) (fun _ _ _ h => h) (Or.inl ⟨by rfl, ?_⟩) (by assumption) ?_
    rotate_left
    · intro u hSw
      have Xu := X2.below hSw (by omega)
      have u0 := Xu.cell 0
      have u1 := Xu.cell 1
      have u3 := Xu.cell 3
      simp at u0 u1 u3
      go_simp
      try (with_reducible rfl)
    try simp only [Act.put, List.setIfInBounds_toArray, List.set_cons_zero, List.set_cons_succ]
    refine wpAnyH_take (i := 3) (oi := ⟨_, _, _, _, _, _⟩) (v := ?_) rfl (by kernel_rfl) (by kernel_rfl) (by kernel_rfl) (fun _ _ _ h => h) (Or.inl ⟨by rfl, ?_⟩) (by assumption) ?_
    rotate_left
    · intro u hSw
      go_simp
      try (with_reducible rfl)
    try simp only [Act.put, List.setIfInBounds_toArray, List.set_cons_zero, List.set_cons_succ]
    refine wpAnyH_take (i := 4) (oi := ⟨_, _, _, _, _, _⟩) (v := ?_) rfl (by kernel_rfl) (by kernel_rfl) (by kernel_rfl) (fun _ _ _ h => h) (Or.inl ⟨by rfl, ?_⟩) (by assumption) ?_
    rotate_left
    · intro u hSw
      have Xu := X2.below hSw (by omega)
      have u0 := Xu.cell 0
      have u1 := Xu.cell 1
      have u3 := Xu.cell 3
      simp at u0 u1 u3
      go_simp
      try (with_reducible rfl)
    try simp only [Act.put, List.setIfInBounds_toArray, List.set_cons_zero, List.set_cons_succ]
    refine wpAnyH_take (i := 5) (oi := ⟨_, _, _, _, _, _⟩) (v := ?_) rfl (by kernel_rfl) (by kernel_rfl) (by kernel_rfl) (fun _ _ _ h => h) (Or.inl ⟨by rfl, ?_⟩) (by assumption) ?_
    rotate_left
    · intro u hSw
      go_simp
      try (with_reducible rfl)
    try simp only [Act.put, List.setIfInBounds_toArray, List.set_cons_zero, List.set_cons_succ]
    refine wpAnyH_take (i := 7) (oi := ⟨_, _, _, _, _, _⟩) (v := ?_) rfl (by kernel_rfl) (by kernel_rfl) (by kernel_rfl) (fun _ _ _ h => h) (Or.inl ⟨by rfl, ?_⟩) (by assumption) ?_
    rotate_left
    · intro u hSw
      go_simp
      try (with_reducible rfl)
    try simp only [Act.put, List.setIfInBounds_toArray, List.set_cons_zero, List.set_cons_succ]
    refine wpAnyH_take (i := 9) (oi := ⟨_, _, _, _, _, _⟩) (v := ?_) rfl (by kernel_rfl) (by kernel_rfl) (by kernel_rfl) (fun _ _ _ h => h) (Or.inl ⟨by rfl, ?_⟩) (by assumption) ?_
    rotate_left
    · intro u hSw
      go_simp
      try (with_reducible rfl)
    try simp only [Act.put, List.setIfInBounds_toArray, List.set_cons_zero, List.set_cons_succ]
    refine wpAnyH_take (i := 10) (oi := ⟨_, _, _, _, _, _⟩) (v := ?_) rfl (by kernel_rfl) (by kernel_rfl) (by kernel_rfl) (fun _ _ _ h => h) (Or.inl ⟨by rfl, ?_⟩) (by assumption) ?_
    rotate_left
    · intro u hSw
      have Xu := X2.below hSw (by omega)
      have u0 := Xu.cell 0
      have u1 := Xu.cell 1
      have u3 := Xu.cell 3
      simp at u0 u1 u3
      go_simp
      try (with_reducible rfl)
    try simp only [Act.put, List.setIfInBounds_toArray, List.set_cons_zero, List.set_cons_succ]
    refine wpAnyH_ready (rs := [2]) (by kernel_rfl) (by simp) ?_
    refine AllReadyH.cons (o := ⟨_, _, _, _, _, _⟩) rfl (fun K hK => ?_) AllReadyH.nil
    go_simp
    refine (refNum_at f.ch f.ch.toNat hcm.out.1 _ hcm.out.2).mono ?_; rintro e w3 ⟨s3, k3, rfl, B3, hb3⟩; have hs3 := hb3.size; have hH2 : Below w2.heap.size w2 w2.drew := (Below.refl _ _).drew; have hH3 := hH2.trans (hb3.mono hH2.size)
    go_wp2_with fail
    refine hK.out _ _ (hH3.mono (by omega)) (fun hHeld => ?_)
    clear hK K
    try simp only [Act.put, List.setIfInBounds_toArray, List.set_cons_zero, List.set_cons_succ]
    refine wpAnyH_ready (rs := [6]) (by kernel_rfl) (by simp) ?_
    refine AllReadyH.cons (o := ⟨_, _, _, _, _, _⟩) rfl (fun K hK => ?_) AllReadyH.nil
    go_simp
    refine (refNum_at f.seq f.seq.toNat hsm2.out.1 _ hsm2.out.2).mono ?_; rintro e w4 ⟨s4, k4, rfl, B4, hb4⟩; have hs4 := hb4.size; have hH4 := hH3.trans (hb4.mono hH3.size)
    go_wp2_with fail
    refine hK.out _ _ (hH4.mono (by omega)) (fun hHeld => ?_)
    clear hK K
    try simp only [Act.put, List.setIfInBounds_toArray, List.set_cons_zero, List.set_cons_succ]
    refine wpAnyH_ready (rs := [8]) (by kernel_rfl) (by simp) ?_
    refine AllReadyH.cons (o := ⟨_, _, _, _, _, _⟩) rfl (fun K hK => ?_) AllReadyH.nil
    go_simp
    refine (refNum_at _ t (by rw [← ht.out]; simp [tn, *]) _ htm).mono ?_; rintro e w5 ⟨s5, k5, rfl, B5, hb5⟩; have hs5 := hb5.size; have hH5 := hH4.trans (hb5.mono hH4.size); have hq5 := hH5.size
    go_wp2_with fail
    refine hK.out _ _ (hH5.mono (by omega)) (fun hHeld => ?_)
    clear hK K
    try simp only [Act.put, List.setIfInBounds_toArray, List.set_cons_zero, List.set_cons_succ]
    refine wpAnyH_ready (rs := [11]) (by kernel_rfl) (by simp) ?_
    refine AllReadyH.cons (o := ⟨_, _, _, _, _, _⟩) rfl (fun K hK => ?_) AllReadyH.nil
    go_simp
    refine (refRaw_any f.sp f.n f.cap f.bs _ _ (hBd.below hH5) hbl).mono ?_; rintro e w6 ⟨s6, k6, rfl, B6, hb6⟩; have hs6 := hb6.size; have hH6 := hH5.trans (hb6.mono hH5.size); have hq6 := hH6.size
    go_wp2_with fail
    refine hK.out _ _ (hH6.mono (by omega)) (fun hHeld => ?_)
    clear hK K
    try simp only [Act.put, List.setIfInBounds_toArray, List.set_cons_zero, List.set_cons_succ]
    refine wpAnyH_ready (rs := [12]) (by kernel_rfl) (by simp) ?_
    refine AllReadyH.cons (o := ⟨_, _, _, _, _, _⟩) rfl (fun K hK => ?_) AllReadyH.nil
    go_simp
    go_wp2_with fail
    refine hK.out _ _ ((hH6.alloc hH6.size _).mono (by omega)) (fun hHeld => ?_)
    clear hK K
    try simp only [Act.put, List.setIfInBounds_toArray, List.set_cons_zero, List.set_cons_succ]
    have hH7 := hH6.alloc hH6.size (.cells #[.bool false, .slice s3 (be f.ch.toNat).length k3, .slice none 0 0, .bool false, .slice s4 (be f.seq.toNat).length k4, .slice none 0 0, .bool false, .slice s5 (be t).length k5, .slice none 0 0, .bool false, .slice s6 f.n k6, .slice none 0 0] 59)
    refine wpAnyH_ready (rs := [13]) (by kernel_rfl) (by simp) ?_
    refine AllReadyH.cons (o := ⟨_, _, _, _, _, _⟩) rfl (fun K hK => ?_) AllReadyH.nil
    go_simp
    refine (refList_any _ _ _ _).mono ?_; rintro e w8 ⟨rfl, hb8⟩; have hs8 := hb8.size; simp at hs8; have hH8 := hH7.trans (hb8.mono (by simp; omega)); have Z8 := Z2.below hH8 (by omega)
    go_wp2_with fail
    refine hK.out _ _ (hH8.mono (by omega)) (fun hHeld => ?_)
    clear hK K
    try simp only [Act.put, List.setIfInBounds_toArray, List.set_cons_zero, List.set_cons_succ]
    refine wpAnyH_ready (rs := [14]) (by kernel_rfl) (by simp) ?_
    refine AllReadyH.cons (o := ⟨_, _, _, _, _, _⟩) rfl (fun K hK => ?_) AllReadyH.nil
    refine step_want rfl (wp_store_row 59 (.tmp 2) (.tmp 19) rfl (w.heap.size + 1) #[.bool true, .slice none 0 0, .slice (some ⟨w6.heap.size, 0, none⟩) 4 4] rfl rfl 59 _ Z8 size25 rfl (one3 _ _ _ _ _ _ _) ?_)
    refine hK.out _ _ (below_row (hH8.mono (by omega)) (Nat.le_refl _) _) (fun hHeld => ?_)
    refine wpAnyH_done (by kernel_rfl) ?_ _
    go_wp2
    have A7 := ((Arr.new w6 59 #[.bool false, .slice s3 (be f.ch.toNat).length k3, .slice none 0 0, .bool false, .slice s4 (be f.seq.toNat).length k4, .slice none 0 0, .bool false, .slice s5 (be t).length k5, .slice none 0 0, .bool false, .slice s6 f.n k6, .slice none 0 0]).below hb8 (by simp)).setRowOther #[.bool true, .slice none 0 0, .slice (some ⟨w6.heap.size, 0, none⟩) 4 4] (show w6.heap.size ≠ w.heap.size + 1 by omega)
    have hq8 : Below w6.heap.size w6 w8 := (alloc_bel' w6 _).trans (hb8.mono (by simp))
    have C3 := (((B3.below hb4).below (hb5.mono hs4)).below (hb6.mono (by omega))).below (hq8.mono (by omega))
    have C4 := ((B4.below hb5).below (hb6.mono (by omega))).below (hq8.mono (by omega))
    have C5 := (B5.below hb6).below (hq8.mono (by omega))
    have C6 := B6.below hq8
    have hIs := item4u A7 (C3.rowOther Z8 no59 _) (C4.rowOther Z8 no59 _) (C5.rowOther Z8 no59 _) (C6.rowOther Z8 no59 _)
    exact bodyPost_ret (v := .agg #[.bool true, .slice none 0 0, .slice (some ⟨w6.heap.size, 0, none⟩) 4 4]) (res_item Try.results27 rfl (Z8.setRow _)) rfl ⟨w6.heap.size, rfl, by rw [hfm.out]; exact hIs, below_row (hw2.trans (hH8.mono (by omega))) (by omega) _⟩

set_option maxRecDepth 100000 in
set_option maxHeartbeats 1000000 in
theorem refWrite_any (f : Fr) (N : Nat) (w : World) (hf : FrOK N w f) (hN : N ≤ w.heap.size) : Calls Try.prog 9 #[f.val] w (WPost f w) := by
  have hsm := hf.body.small
  have X0 := Arr.new w 25 #[.int .u64 f.ch, .int .i64 f.seq, .bool f.last, .slice f.sp f.n f.cap]
  have hb0 := alloc_bel' w (.cells #[.int .u64 f.ch, .int .i64 f.seq, .bool f.last, .slice f.sp f.n f.cap] 25)
  cases hm : f.may with
  | false =>
    unfold Fr.val
    go_enter Try.func9, Try.ntmps9
    go_wp2_with (go_at_call 20; go_must (refine (refMayF_any f _ hsm).mono ?_; rw [hm]; rintro e w2 ⟨rfl, hb2⟩))
    go_ret2
    exact ⟨hb0.trans (hb2.mono (by simp)), .inl ⟨hm, rfl⟩⟩
  | true =>
    have hlen : f.form.length ≤ 65536 := by
      have := ((Fr.may_iff f).1 hm).2.2
      have h1 := (wf4_len f.ch.toNat f.seq.toNat (tn f.last) f.bs).2
      have := hf.body.len.out
      unfold Fr.form; omega
    replace hlen := Hid.mk' hlen
    replace hm := Hid.mk' hm
    unfold Fr.val
    go_enter Try.func9, Try.ntmps9
    go_wp2_with (first
      | (go_at_call 20; go_must (refine (refMayF_any f _ hsm).mono ?_; rw [hm.out]; rintro e w2 ⟨rfl, hb2⟩; have hs2 := hb2.size; simp at hs2; have X2 := X0.below hb2 (by simp); have x0 := X2.cell 0; have x1 := X2.cell 1; have x2 := X2.cell 2; have x3 := X2.cell 3; simp at x0 x1 x2 x3; have hw2 : Below w.heap.size w w2 := hb0.trans (hb2.mono (by simp)); have hf2 := hf.below (hw2.mono hN)))
      | (go_at_call 27; go_must (refine (refItem_any f N _ hf2 (by omega) hm.out).mono ?_; rintro e w3 ⟨g3, rfl, hI3, hb3⟩; have hs3 := hb3.size; have hw3 : Below w.heap.size w w3 := hw2.trans (hb3.mono (by omega))))
      | (go_at_call 26; go_must (refine (refEncode_any _ _ _ _ hI3).mono ?_; rintro e w4 he; obtain ⟨v4, rfl, hown4, hb4⟩ := enc_ok hlen.out he)))
    go_ret2
    exact ⟨hw3.trans (hb4.mono (by omega)), .inr ⟨hm.out, v4, rfl, own_mono hown4 (by omega)⟩⟩
end Go.Proofs.Ytbjlmekafnpllab
