/- Layer frame: Write. -/
import Derived.Test.YtbjlmekafnpllabJa
import Derived.Test.YtbjlmekafnpllabFd
import Derived.Test.YtbjlmekafnpllabRl
namespace Go.Proofs.Ytbjlmekafnpllab
open Go.RowKit
set_option linter.unusedVariables false
set_option linter.unusedSimpArgs false

/-- What Write answers. -/
def WPost (f : Fr) (w : World) (e : Ending) (w' : World) : Prop :=
  Below w.heap.size w w' ∧ ((f.may = false ∧ e = .returned (.tuple #[.slice none 0 0, .int .i64 2])) ∨ (f.may = true ∧ ∃ v, e = .returned (.tuple #[v, .int .i64 0]) ∧ w'.ownsRow w.heap.size 5 1 v f.form.length (by8 f.form)))
theorem num_at (x : Int) (m : Nat) (hx : x = m) (w : World) (hm : m ≤ 18446744073709551615) :
    Calls Try.prog 25 #[.int .u64 x] w fun e w' => ∃ sp cap, e = .returned (.agg #[.bool false, .slice sp (be m).length cap, .slice none 0 0]) ∧ BS w'.heap.size w' sp (be m).length cap (be m) ∧ Below w.heap.size w w' := by
  subst hx; exact num_any m w hm
theorem bytes_is {N : Nat} {w : World} {sp : Option Addr} {n cap : Nat} {bs : List Int} (d : Nat) (h : BS N w sp n cap bs) : Is N w (d + 1) (.agg #[.bool false, .slice sp n cap, .slice none 0 0]) (some (wrap false bs)) :=
  ⟨false, sp, n, cap, bs, none, 0, 0, [], ⟨rfl, h, IS.nil0 _ _⟩, .inl ⟨rfl, rfl⟩⟩
/-- The item of a frame: a row of four. -/
theorem item4 {w : World} {N3 N4 N5 N6 : Nat} {s3 s4 s5 s6 : Option Addr} {k3 k4 k5 n6 k6 c s t : Nat} {bs : List Int}
    (hA : Arr (w.alloc (.cells #[.bool false, .slice s3 (be c).length k3, .slice none 0 0, .bool false, .slice s4 (be s).length k4, .slice none 0 0, .bool false, .slice s5 (be t).length k5, .slice none 0 0, .bool false, .slice s6 n6 k6, .slice none 0 0] 59)) w.heap.size 59 #[.bool false, .slice s3 (be c).length k3, .slice none 0 0, .bool false, .slice s4 (be s).length k4, .slice none 0 0, .bool false, .slice s5 (be t).length k5, .slice none 0 0, .bool false, .slice s6 n6 k6, .slice none 0 0])
    (h3 : BS N3 w s3 (be c).length k3 (be c)) (h4 : BS N4 w s4 (be s).length k4 (be s)) (h5 : BS N5 w s5 (be t).length k5 (be t)) (h6 : BS N6 w s6 n6 k6 bs) :
    Is (w.heap.size + 1) (w.alloc (.cells #[.bool false, .slice s3 (be c).length k3, .slice none 0 0, .bool false, .slice s4 (be s).length k4, .slice none 0 0, .bool false, .slice s5 (be t).length k5, .slice none 0 0, .bool false, .slice s6 n6 k6, .slice none 0 0] 59)) 16 (.agg #[.bool true, .slice none 0 0, .slice (some ⟨w.heap.size, 0, none⟩) 4 4]) (some (wf c s t bs)) := by
  have up : ∀ {N : Nat} {sp : Option Addr} {n cap : Nat} {L : List Int}, BS N w sp n cap L → BS (w.heap.size + 1) (w.alloc (.cells #[.bool false, .slice s3 (be c).length k3, .slice none 0 0, .bool false, .slice s4 (be s).length k4, .slice none 0 0, .bool false, .slice s5 (be t).length k5, .slice none 0 0, .bool false, .slice s6 n6 k6, .slice none 0 0] 59)) sp n cap L := fun h => (h.here.below (alloc_bel' w _)).mono (by omega)
  refine ⟨true, none, 0, 0, [], some ⟨w.heap.size, 0, none⟩, 4, 4, [.agg #[.bool false, .slice s3 (be c).length k3, .slice none 0 0], .agg #[.bool false, .slice s4 (be s).length k4, .slice none 0 0], .agg #[.bool false, .slice s5 (be t).length k5, .slice none 0 0], .agg #[.bool false, .slice s6 n6 k6, .slice none 0 0]], ⟨rfl, BS.nil0 _ _, ⟨rfl, (fun e => by cases e), Nat.le_refl _, by omega, by omega, fun _ => ⟨_, 0, rfl, by omega, fun i v hv => ?_⟩⟩⟩, .inr (.inr ⟨rfl, rfl, (wf4 c s t bs).map some, rfl, fun i v o hv ho => ?_, by rw [cat_map]; rfl⟩)⟩
  · match i, hv with
    | 0, hv => cases hv; exact ⟨_, _, _, rfl, hA.cell 0, hA.cell 1, hA.cell 2⟩
    | 1, hv => cases hv; exact ⟨_, _, _, rfl, hA.cell 3, hA.cell 4, hA.cell 5⟩
    | 2, hv => cases hv; exact ⟨_, _, _, rfl, hA.cell 6, hA.cell 7, hA.cell 8⟩
    | 3, hv => cases hv; exact ⟨_, _, _, rfl, hA.cell 9, hA.cell 10, hA.cell 11⟩
  · match i, hv, ho with
    | 0, hv, ho => cases hv; cases ho; exact bytes_is 14 (up h3)
    | 1, hv, ho => cases hv; cases ho; exact bytes_is 14 (up h4)
    | 2, hv, ho => cases hv; cases ho; exact bytes_is 14 (up h5)
    | 3, hv, ho => cases hv; cases ho; exact bytes_is 14 (up h6)
theorem enc_ok {w : World} {F : List Int} {e : Ending} {w' : World} (hl : F.length ≤ 65536) (h : Enc w (some F) e w') : ∃ v, e = .returned (.tuple #[v, .int .i64 0]) ∧ w'.ownsRow w.heap.size 5 1 v F.length (by8 F) ∧ Below w.heap.size w w' := by
  obtain ⟨hb, ⟨F', v', e', -, he, hown⟩ | ⟨hno, -⟩⟩ := h
  · cases e'; exact ⟨v', he, hown, hb⟩
  · have := hno _ rfl; omega

set_option maxRecDepth 100000 in
set_option maxHeartbeats 1000000 in
theorem write_any (f : Fr) (N : Nat) (w : World) (hf : FrOK N w f) (hN : N ≤ w.heap.size) : Calls Try.prog 8 #[f.val] w (WPost f w) := by
  have hsm := hf.body.small
  cases hm : f.may with
  | false =>
    unfold Fr.val
    go_enter Try.func8, Try.ntmps8
    go_wp2_with (go_at_call 23; go_must (refine (may_any f _ hsm).mono ?_; rw [hm]; rintro e w2 ⟨rfl, hb2⟩))
    go_ret2
    exact ⟨(alloc_bel' w _).trans (hb2.mono (by simp)), .inl ⟨hm, rfl⟩⟩
  | true =>
    obtain ⟨h1, h2, h3⟩ := (Fr.may_iff f).1 hm
    have hbd := hf.body
    have hcm : f.ch = (f.ch.toNat : Nat) ∧ f.ch.toNat ≤ 18446744073709551615 := by have := hf.ch0; have := hf.ch1; omega
    have hsm2 : f.seq = (f.seq.toNat : Nat) ∧ f.seq.toNat ≤ 18446744073709551615 := by omega
    have hws : IntKind.u64.wrap f.seq = f.seq := by rw [IntKind.wrap_u64]; omega
    obtain ⟨t, ht⟩ : ∃ t, tn f.last = t := ⟨_, rfl⟩
    have htm : t ≤ 18446744073709551615 := by rw [← ht]; unfold tn; split <;> omega
    have hlen : (wf f.ch.toNat f.seq.toNat t f.bs).length ≤ 65536 := by have := (wf4_len f.ch.toNat f.seq.toNat t f.bs).2; have := hbd.len.out; omega
    have hfm : Hid (f.form = wf f.ch.toNat f.seq.toNat t f.bs) := Hid.mk' (by unfold Fr.form; rw [ht])
    replace ht := Hid.mk' ht
    replace hlen := Hid.mk' hlen
    replace hcm := Hid.mk' hcm
    replace hsm2 := Hid.mk' hsm2
    have X0 := Arr.new w 25 #[.int .u64 f.ch, .int .i64 f.seq, .bool f.last, .slice f.sp f.n f.cap]
    unfold Fr.val
    go_enter Try.func8, Try.ntmps8
    go_wp2_with (go_at_call 23; go_must (refine (may_any f _ hsm).mono ?_; rw [hm]; rintro e w2 ⟨rfl, hb2⟩; have hs2 := hb2.size; simp at hs2; have X2 := X0.below hb2 (by simp); have x0 := X2.cell 0; have x1 := X2.cell 1; have x2 := X2.cell 2; have x3 := X2.cell 3; simp at x0 x1 x2 x3))
    all_goals
      have hw2 : Below w.heap.size w w2 := (alloc_bel' w _).trans (hb2.mono (by simp))
      have hBd := (hbd.below (hw2.mono hN)).here
      refine wp_region_held_drew (S := fun u => Below w2.heap.size w2 u) (by kernel_rfl) ((Below.refl _ _).drew) (fun hHeld => ?_)
      refine wpAnyH_take (i := 0) (oi := ⟨_, _, _, _, _, _⟩) (v := ?_) rfl (by kernel_rfl) (by kernel_rfl) (by kernel_rfl) (fun _ _ _ h => h) (Or.inl ⟨by rfl, ?_⟩) (by assumption) ?_
      rotate_left
      · intro u hSw
        go_simp
        try (with_reducible rfl)
      try simp only [Act.put, List.setIfInBounds_toArray, List.set_cons_zero, List.set_cons_succ]
      refine wpAnyH_take (i := 1) (oi := ⟨_, _, _, _, _, _⟩) (v := ?_) rfl (by kernel_rfl) (by kernel_rfl) (by kernel_rfl) (fun _ _ _ h => h) (Or.inl ⟨by rfl, ?_⟩) (by assumption) ?_
      rotate_left
      · intro u hSw
        have Xu := X2.below hSw (by omega)
        have u0 := Xu.cell 0
        have u1 := Xu.cell 1
        have u3 := Xu.cell 3
        simp at u0 u1 u3
        go_simp
        try (with_reducible rfl)
      try simp only [Act.put, List.setIfInBounds_toArray, List.set_cons_zero, List.set_cons_succ]
      refine wpAnyH_take (i := 3) (oi := ⟨_, _, _, _, _, _⟩) (v := ?_) rfl (by kernel_rfl) (by kernel_rfl) (by kernel_rfl) (fun _ _ _ h => h) (Or.inl ⟨by rfl, ?_⟩) (by assumption) ?_
      rotate_left
      · intro u hSw
        go_simp
        try (with_reducible rfl)
      try simp only [Act.put, List.setIfInBounds_toArray, List.set_cons_zero, List.set_cons_succ]
      refine wpAnyH_take (i := 4) (oi := ⟨_, _, _, _, _, _⟩) (v := ?_) rfl (by kernel_rfl) (by kernel_rfl) (by kernel_rfl) (fun _ _ _ h => h) (Or.inl ⟨by rfl, ?_⟩) (by assumption) ?_
      rotate_left
      · intro u hSw
        have Xu := X2.below hSw (by omega)
        have u0 := Xu.cell 0
        have u1 := Xu.cell 1
        have u3 := Xu.cell 3
        simp at u0 u1 u3
        go_simp
        try (with_reducible rfl)
      try simp only [Act.put, List.setIfInBounds_toArray, List.set_cons_zero, List.set_cons_succ]
      refine wpAnyH_take (i := 5) (oi := ⟨_, _, _, _, _, _⟩) (v := ?_) rfl (by kernel_rfl) (by kernel_rfl) (by kernel_rfl) (fun _ _ _ h => h) (Or.inl ⟨by rfl, ?_⟩) (by assumption) ?_
      rotate_left
      · intro u hSw
        go_simp
        try (with_reducible rfl)
      try simp only [Act.put, List.setIfInBounds_toArray, List.set_cons_zero, List.set_cons_succ]
      refine wpAnyH_take (i := 7) (oi := ⟨_, _, _, _, _, _⟩) (v := ?_) rfl (by kernel_rfl) (by kernel_rfl) (by kernel_rfl) (fun _ _ _ h => h) (Or.inl ⟨by rfl, ?_⟩) (by assumption) ?_
      rotate_left
      · intro u hSw
        go_simp
        try (with_reducible rfl)
      try simp only [Act.put, List.setIfInBounds_toArray, List.set_cons_zero, List.set_cons_succ]
      refine wpAnyH_take (i := 9) (oi := ⟨_, _, _, _, _, _⟩) (v := ?_) rfl (by kernel_rfl) (by kernel_rfl) (by kernel_rfl) (fun _ _ _ h => h) (Or.inl ⟨by rfl, ?_⟩) (by assumption) ?_
      rotate_left
      · intro u hSw
        go_simp
        try (with_reducible rfl)
      try simp only [Act.put, List.setIfInBounds_toArray, List.set_cons_zero, List.set_cons_succ]
      refine wpAnyH_take (i := 10) (oi := ⟨_, _, _, _, _, _⟩) (v := ?_) rfl (by kernel_rfl) (by kernel_rfl) (by kernel_rfl) (fun _ _ _ h => h) (Or.inl ⟨by rfl, ?_⟩) (by assumption) ?_
      rotate_left
      · intro u hSw
        have Xu := X2.below hSw (by omega)
        have u0 := Xu.cell 0
        have u1 := Xu.cell 1
        have u3 := Xu.cell 3
        simp at u0 u1 u3
        go_simp
        try (with_reducible rfl)
      try simp only [Act.put, List.setIfInBounds_toArray, List.set_cons_zero, List.set_cons_succ]
      refine wpAnyH_take (i := 11) (oi := ⟨_, _, _, _, _, _⟩) (v := ?_) rfl (by kernel_rfl) (by kernel_rfl) (by kernel_rfl) (fun _ _ _ h => h) (Or.inl ⟨by rfl, ?_⟩) (by assumption) ?_
      rotate_left
      · intro u hSw
        go_simp
        try (with_reducible rfl)
      try simp only [Act.put, List.setIfInBounds_toArray, List.set_cons_zero, List.set_cons_succ]
      refine wpAnyH_ready (rs := [2]) (by kernel_rfl) (by simp) ?_
      refine AllReadyH.cons (o := ⟨_, _, _, _, _, _⟩) rfl (fun K hK => ?_) AllReadyH.nil
      go_simp
      refine (num_at f.ch f.ch.toNat hcm.out.1 _ hcm.out.2).mono ?_; rintro e w3 ⟨s3, k3, rfl, B3, hb3⟩; have hs3 := hb3.size; have hH3 := hHeld.trans (hb3.mono hHeld.size)
      go_wp2_with fail
      refine hK.out _ _ hH3 (fun hHeld => ?_)
      clear hK K
      try simp only [Act.put, List.setIfInBounds_toArray, List.set_cons_zero, List.set_cons_succ]
      refine wpAnyH_ready (rs := [6]) (by kernel_rfl) (by simp) ?_
      refine AllReadyH.cons (o := ⟨_, _, _, _, _, _⟩) rfl (fun K hK => ?_) AllReadyH.nil
      go_simp
      refine (num_at f.seq f.seq.toNat hsm2.out.1 _ hsm2.out.2).mono ?_; rintro e w4 ⟨s4, k4, rfl, B4, hb4⟩; have hs4 := hb4.size; have hH4 := hH3.trans (hb4.mono hH3.size)
      go_wp2_with fail
      refine hK.out _ _ hH4 (fun hHeld => ?_)
      clear hK K
      try simp only [Act.put, List.setIfInBounds_toArray, List.set_cons_zero, List.set_cons_succ]
      refine wpAnyH_ready (rs := [8]) (by kernel_rfl) (by simp) ?_
      refine AllReadyH.cons (o := ⟨_, _, _, _, _, _⟩) rfl (fun K hK => ?_) AllReadyH.nil
      go_simp
      refine (num_at _ t (by rw [← ht.out]; simp [tn, *]) _ htm).mono ?_; rintro e w5 ⟨s5, k5, rfl, B5, hb5⟩; have hs5 := hb5.size; have hH5 := hH4.trans (hb5.mono hH4.size); have hq5 := hH5.size
      go_wp2_with fail
      refine hK.out _ _ hH5 (fun hHeld => ?_)
      clear hK K
      try simp only [Act.put, List.setIfInBounds_toArray, List.set_cons_zero, List.set_cons_succ]
      refine wpAnyH_ready (rs := [12]) (by kernel_rfl) (by simp) ?_
      refine AllReadyH.cons (o := ⟨_, _, _, _, _, _⟩) rfl (fun K hK => ?_) AllReadyH.nil
      go_simp
      go_wp2_with fail
      refine hK.out _ _ (hH5.alloc hH5.size _) (fun hHeld => ?_)
      clear hK K
      try simp only [Act.put, List.setIfInBounds_toArray, List.set_cons_zero, List.set_cons_succ]
      refine wpAnyH_take (i := 13) (oi := ⟨_, _, _, _, _, _⟩) (v := ?_) rfl (by kernel_rfl) (by kernel_rfl) (by kernel_rfl) (fun _ _ _ h => h) (Or.inl ⟨by rfl, ?_⟩) (by assumption) ?_
      rotate_left
      · intro u hSw
        go_simp
        try (with_reducible rfl)
      try simp only [Act.put, List.setIfInBounds_toArray, List.set_cons_zero, List.set_cons_succ]
      refine wpAnyH_ready (rs := [14]) (by kernel_rfl) (by simp) ?_
      refine AllReadyH.cons (o := ⟨_, _, _, _, _, _⟩) rfl (fun K hK => ?_) AllReadyH.nil
      go_simp
      refine (encode_any _ _ _ _ (item4 (Arr.new w5 59 _) ((B3.below hb4).below (hb5.mono hs4)) (B4.below hb5) B5 (hBd.below hH5))).mono ?_; rintro e w6 he; obtain ⟨v6, rfl, hown6, hb6⟩ := enc_ok hlen.out he; have hs6 := hb6.size; have hH6 := (hH5.alloc hH5.size _).trans (hb6.mono (by simp; omega))
      go_wp2_with fail
      refine hK.out _ _ hH6 (fun hHeld => ?_)
      clear hK K
      try simp only [Act.put, List.setIfInBounds_toArray, List.set_cons_zero, List.set_cons_succ]
      refine wpAnyH_take (i := 15) (oi := ⟨_, _, _, _, _, _⟩) (v := ?_) rfl (by kernel_rfl) (by kernel_rfl) (by kernel_rfl) (fun _ _ _ h => h) (Or.inl ⟨by rfl, ?_⟩) (by assumption) ?_
      rotate_left
      · intro u hSw
        go_simp
        try (with_reducible rfl)
      try simp only [Act.put, List.setIfInBounds_toArray, List.set_cons_zero, List.set_cons_succ]
      refine wpAnyH_take (i := 16) (oi := ⟨_, _, _, _, _, _⟩) (v := ?_) rfl (by kernel_rfl) (by kernel_rfl) (by kernel_rfl) (fun _ _ _ h => h) (Or.inl ⟨by rfl, ?_⟩) (by assumption) ?_
      rotate_left
      · intro u hSw
        go_simp
        try (with_reducible rfl)
      try simp only [Act.put, List.setIfInBounds_toArray, List.set_cons_zero, List.set_cons_succ]
      refine wpAnyH_take (i := 17) (oi := ⟨_, _, _, _, _, _⟩) (v := ?_) rfl (by kernel_rfl) (by kernel_rfl) (by kernel_rfl) (fun _ _ _ h => h) (Or.inl ⟨by rfl, ?_⟩) (by assumption) ?_
      rotate_left
      · intro u hSw
        go_simp
        try (with_reducible rfl)
      try simp only [Act.put, List.setIfInBounds_toArray, List.set_cons_zero, List.set_cons_succ]
      refine wpAnyH_take (i := 18) (oi := ⟨_, _, _, _, _, _⟩) (v := ?_) rfl (by kernel_rfl) (by kernel_rfl) (by kernel_rfl) (fun _ _ _ h => h) (Or.inl ⟨by rfl, ?_⟩) (by assumption) ?_
      rotate_left
      · intro u hSw
        go_simp
        try (with_reducible rfl)
      try simp only [Act.put, List.setIfInBounds_toArray, List.set_cons_zero, List.set_cons_succ]
      refine wpAnyH_done (by kernel_rfl) ?_ _
      go_wp2
      go_ret2
      exact ⟨hw2.trans (hH6.mono (by omega)), .inr ⟨hm, v6, rfl, by rw [hfm.out]; exact own_mono hown6 (by simp; omega)⟩⟩
end Go.Proofs.Ytbjlmekafnpllab
