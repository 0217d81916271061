/- S6, S7. -/
import Derived.Test.YtimmiidkjpbffaaX38
import Derived.Test.YtimmiidkjpbffaaX31
import Derived.Handy
import Derived.BigQuiet
import Derived.BigRegion
import Derived.Great.BuildSlice
import Derived.Deep.RegionHeld3
import Derived.Deep.DeepCutAuto
import Derived.Deep.RegionWith
import Derived.Test.YtimmiidkjpbffaaX35
/- Layer compile: Result, of the program. -/
namespace Go.Proofs.Ytimmiidkjpbffaa
open Go.RowKit
set_option maxRecDepth 100000
set_option linter.unusedVariables false
set_option linter.unusedSimpArgs false


theorem ne_of {p : Prop} {sp : Option Addr} {a : Nat} {q : Nat → Prop} (h : p → ∃ g, sp = some ⟨g, 0, none⟩ ∧ g ≠ a ∧ q g) : p → ∃ g, sp = some ⟨g, 0, none⟩ ∧ g ≠ a := fun h0 => by
  obtain ⟨g, e, h1, -⟩ := h h0
  exact ⟨g, e, h1⟩
theorem dt_row {w : World} {sp : Option Addr} {n g : Nat} {L : List Int} {C : Array Value} (h : DT w sp n L) (hne : 0 < n → ∃ k, sp = some ⟨k, 0, none⟩ ∧ k ≠ g) : DT (w.setRow g C) sp n L :=
  ⟨h.len, h.few, fun h0 => by
    obtain ⟨k, e, hk, hc⟩ := h.at0 h0
    obtain ⟨k2, e2, hne⟩ := hne h0
    rw [e] at e2
    obtain rfl : k = k2 := by cases e2; rfl
    refine ⟨k, e, by simpa using hk, fun i x hx => ?_⟩
    have := hc i x hx
    unfold World.cell? at this ⊢
    simp only at this ⊢
    rw [setRow_other _ _ _ _ hne]
    exact this⟩
theorem dt_cell {w : World} {sp : Option Addr} {n g : Nat} {L : List Int} (h : DT w sp n L) (hne : 0 < n → ∃ k, sp = some ⟨k, 0, none⟩ ∧ k ≠ g) (j : Nat) (v : Value) : DT (w.setCell ⟨g, j, none⟩ v) sp n L :=
  ⟨h.len, h.few, fun h0 => by
    obtain ⟨k, e, hk, hc⟩ := h.at0 h0
    obtain ⟨k2, e2, hne⟩ := hne h0
    rw [e] at e2
    obtain rfl : k = k2 := by cases e2; rfl
    exact ⟨k, e, by simpa using hk, fun i x hx => (World.cell?_setCell_other w _ _ v (fun e => by cases e; exact hne rfl)).trans (hc i x hx)⟩⟩

set_option maxHeartbeats 1000000 in
theorem result8_ok {N : Nat} (bN dN : Nat) (m : Mc) (sp : Option Addr) (n cap : Nat) (gq oq cd : Nat) (w : World) (hns : n ≤ 17592186044416) (hok : m.ok) (hMq : MS N w (some ⟨gq, oq, none⟩) n cd m.me) (hyes0 : rsOk n bN dN m = true) :
    Calls Try.prog 8 #[.agg #[.slice sp n cap, .int .i64 (bN : Int), .int .i64 (dN : Int)], .agg (mcA m (some ⟨gq, oq, none⟩) n cd)] w (RsP n bN dN m w) := by
  obtain ⟨hs, hr, hmy⟩ : szB n = true ∧ (0 ≤ (dN : Int) ∧ 0 ≤ (bN : Int) ∧ (bN : Int) ≤ n - dN) ∧ mayM m = true := by
    unfold rsOk imOk at hyes0
    obtain ⟨h1, h2⟩ := Bool.and_eq_true_iff.1 hyes0
    obtain ⟨h3, h4⟩ := Bool.and_eq_true_iff.1 h1
    exact ⟨h3, of_decide_eq_true h4, (Bool.and_eq_true_iff.1 h2).1⟩
  have him : imOk n bN dN = true := (Bool.and_eq_true_iff.1 hyes0).1
  have hn4 := szB_le hs
  have A0 := ((Arr.new w 24 #[.slice sp n cap, .int .i64 (bN : Int), .int .i64 (dN : Int)]).alloc (.cells (mcA m (some ⟨gq, oq, none⟩) n cd) 29)).alloc (.cells (ouA 0 0 none 0 0 0) 36)
  have A1 := (Arr.new (w.alloc (.cells #[.slice sp n cap, .int .i64 (bN : Int), .int .i64 (dN : Int)] 24)) 29 (mcA m (some ⟨gq, oq, none⟩) n cd)).alloc (.cells (ouA 0 0 none 0 0 0) 36)
  have A2 := Arr.new ((w.alloc (.cells #[.slice sp n cap, .int .i64 (bN : Int), .int .i64 (dN : Int)] 24)).alloc (.cells (mcA m (some ⟨gq, oq, none⟩) n cd) 29)) 36 (ouA 0 0 none 0 0 0)
  simp only [World.size_alloc] at A1 A2
  have hb0 := ((alloc_bel' w (.cells #[.slice sp n cap, .int .i64 (bN : Int), .int .i64 (dN : Int)] 24)).alloc (by simp) (.cells (mcA m (some ⟨gq, oq, none⟩) n cd) 29)).alloc (by simp; omega) (.cells (ouA 0 0 none 0 0 0) 36)
  have hl := hMq.len
  have hmay : ∀ U, Calls Try.prog 19 #[.agg #[.slice sp n cap, .int .i64 (bN : Int), .int .i64 (dN : Int)]] U fun e w' => e = .returned (.bool true) ∧ Below U.heap.size U w' := fun U => by
    have := may19_any sp n cap bN dN U hns (by omega) (by omega)
    rw [him] at this; exact this
  have hmm : ∀ U, Calls Try.prog 21 #[.agg (mcA m (some ⟨gq, oq, none⟩) n cd)] U fun e w' => e = .returned (.bool true) ∧ Below U.heap.size U w' := fun U => by
    have := may_anyV m (some ⟨gq, oq, none⟩) n cd U hok hl hMq.small
    rw [hmy] at this; exact this
  have hs0 := mcA_size hok.r16 (some ⟨gq, oq, none⟩) n cd
  have h18 := hid (mcA_18 hok.r16 (some ⟨gq, oq, none⟩) n cd)
  have h17 := hid (mcA_17 hok.r16 (some ⟨gq, oq, none⟩) n cd)
  have hr1 := hid (mcA_r hok.r16 (some ⟨gq, oq, none⟩) n cd (a := 1) (by omega))
  have hyes : ∀ w' sp2 cap2, Below w.heap.size w w' → DT w' sp2 dN ((m.me.drop bN).take dN) → RsP n bN dN m w (.returned (.tuple #[.agg (ouA m.st (if m.st = 1 then m.get 1 else 0) sp2 dN cap2 0), .int .i64 0])) w' := fun w' sp2 cap2 h1 h2 => rsYes hyes0 h1 h2
  have hst0 := hok.st
  obtain ⟨Pa, hPa⟩ : ∃ Pa, (if cd = bN then some (⟨gq, oq, none⟩ : Addr) else some ⟨gq, oq + bN, none⟩) = some Pa := by
    by_cases h : cd = bN
    · exact ⟨_, if_pos h⟩
    · exact ⟨_, if_neg h⟩
  have hsub : MS N w (some Pa) dN (cd - bN) ((m.me.drop bN).take dN) := by
    have := hMq.sub (b := bN) (d := dN) (by omega)
    rw [Addr.add_mid, hPa] at this
    exact this
  have hMs := hsub.here
  have hcdn := hMq.le
  have hcdb := hMq.big
  have a0 := A0.cell 0
  have a1 := A0.cell 1
  have a2 := A0.cell 2
  generalize hD : (m.me.drop bN).take dN = D at *
  generalize hC : mcA m (some ⟨gq, oq, none⟩) n cd = C at *
  have hfit : bN + dN ≤ n := by omega
  have heq : ((n : Int) != (n : Int)) = false := by simp
  obtain ⟨E, hE⟩ : ∃ E : Nat, E = bN + dN := ⟨_, rfl⟩
  have hwr : IntKind.i64.wrap ((bN : Int) + (dN : Int)) = (E : Int) := by rw [IntKind.wrap_i64]; omega
  have hdd : E - bN = dN := by omega
  have hEc : E ≤ cd := by omega
  have hEb : bN ≤ E := by omega
  clear hE
  clear hD hC hl him hs hr hmy hyes0 hsub hMq
  replace hyes := hid hyes
  go_enter Try.func8, Try.ntmps8
  go_upto_region 3 with (first
    | (go_at_call 19; go_must (refine (hmay _).mono ?_; rintro e w1 ⟨rfl, hb1⟩; have B1 := hb0.trans (hb1.mono (by simp; omega)); have A01 := A0.bl hb1; have A11 := A1.bl hb1; have A21 := A2.bl hb1; clear a0 a1 a2 hmay))
    | (refine lR (by rfl) 29 (.tmp 3) (by rfl) (w.heap.size + 1) (by rfl) C A11 Try.underlying29 rfl (by rw [hs0]; exact size45) ?_)
    | (go_at_call 21; go_must (refine (hmm _).mono ?_; rintro e w2 ⟨rfl, hb2⟩; have B2 := B1.trans (hb2.mono B1.size); have E0 := A01.bl hb2; have E1 := A11.bl hb2; have E2 := A21.bl hb2; have c18 := (E1.cell 18).trans h18.out; have c0 := E0.cell 0; clear hmm)))
  have hs2 := hb2.size
  have hs1 := hb1.size
  simp only [World.size_alloc] at hs1
  clear A0 A1 A2 A01 A11 A21 c18 c0 hb0
  have hMs2 := hMs.below B2
  have hcl : ∀ U, Below w2.heap.size w2 U → Calls Try.prog 20 #[.slice (some Pa) dN (cd - bN)] U fun e w' => ∃ sp cap', e = .returned (.slice sp dN cap') ∧ DT w' sp dN D ∧ (0 < dN → ∃ g, sp = some ⟨g, 0, none⟩ ∧ U.heap.size ≤ g) ∧ Below U.heap.size U w' := fun U hU => clone_dt Pa dN (cd - bN) D U (hMs2.here.below hU) (by omega)
  go_cut [6] from 25 to 38 (fun p wc => ∃ G sp2 cap2, p = .pointer (some ⟨G, 0, none⟩) ∧ Arr wc G 36 (ouA m.st 0 sp2 dN cap2 0) ∧ DT wc sp2 dN D ∧ Below w2.heap.size w2 wc ∧ w2.heap.size ≤ G ∧ (0 < dN → ∃ g, sp2 = some ⟨g, 0, none⟩ ∧ g ≠ G ∧ w2.heap.size ≤ g))
  case first =>
    refine wp_region_held_drew (S := fun u => Below w2.heap.size w2 u) (by kernel_rfl) ((Below.refl _ _).drew) (fun hHeld => ?_)
    refine wpAnyH_take (i := 0) (oi := ⟨_, _, _, _, _, _⟩) (v := ?_) rfl (by kernel_rfl) (by kernel_rfl) (by kernel_rfl) (fun _ _ _ h => h) (Or.inl ⟨by rfl, ?_⟩) (by assumption) ?_
    rotate_left
    · intro u hSw
      go_simp
      try (with_reducible rfl)
    try simp only [Act.put, List.setIfInBounds_toArray, List.set_cons_zero, List.set_cons_succ]
    refine wpAnyH_take (i := 1) (oi := ⟨_, _, _, _, _, _⟩) (v := ?_) rfl (by kernel_rfl) (by kernel_rfl) (by kernel_rfl) (fun _ _ _ h => h) (Or.inl ⟨by rfl, ?_⟩) (by assumption) ?_
    rotate_left
    · intro u hSw
      have c17 := ((E1.bl hSw).cell 17).trans h17.out
      go_simp
      try (with_reducible rfl)
    try simp only [Act.put, List.setIfInBounds_toArray, List.set_cons_zero, List.set_cons_succ]
    refine wpAnyH_take (i := 2) (oi := ⟨_, _, _, _, _, _⟩) (v := ?_) rfl (by kernel_rfl) (by kernel_rfl) (by kernel_rfl) (fun _ _ _ h => h) (Or.inl ⟨by rfl, ?_⟩) (by assumption) ?_
    rotate_left
    · intro u hSw
      go_simp
      try (with_reducible rfl)
    try simp only [Act.put, List.setIfInBounds_toArray, List.set_cons_zero, List.set_cons_succ]
    refine wpAnyH_take (i := 3) (oi := ⟨_, _, _, _, _, _⟩) (v := ?_) rfl (by kernel_rfl) (by kernel_rfl) (by kernel_rfl) (fun _ _ _ h => h) (Or.inl ⟨by rfl, ?_⟩) (by assumption) ?_
    rotate_left
    · intro u hSw
      have c18 := ((E1.bl hSw).cell 18).trans h18.out
      go_simp
      try (with_reducible rfl)
    try simp only [Act.put, List.setIfInBounds_toArray, List.set_cons_zero, List.set_cons_succ]
    refine wpAnyH_take (i := 4) (oi := ⟨_, _, _, _, _, _⟩) (v := ?_) rfl (by kernel_rfl) (by kernel_rfl) (by kernel_rfl) (fun _ _ _ h => h) (Or.inl ⟨by rfl, ?_⟩) (by assumption) ?_
    rotate_left
    · intro u hSw
      go_simp
      try (with_reducible rfl)
    try simp only [Act.put, List.setIfInBounds_toArray, List.set_cons_zero, List.set_cons_succ]
    refine wpAnyH_take (i := 5) (oi := ⟨_, _, _, _, _, _⟩) (v := ?_) rfl (by kernel_rfl) (by kernel_rfl) (by kernel_rfl) (fun _ _ _ h => h) (Or.inl ⟨by rfl, ?_⟩) (by assumption) ?_
    rotate_left
    · intro u hSw
      have cb := (E0.bl hSw).cell 1
      go_simp
      try (with_reducible rfl)
    try simp only [Act.put, List.setIfInBounds_toArray, List.set_cons_zero, List.set_cons_succ]
    refine wpAnyH_take (i := 6) (oi := ⟨_, _, _, _, _, _⟩) (v := ?_) rfl (by kernel_rfl) (by kernel_rfl) (by kernel_rfl) (fun _ _ _ h => h) (Or.inl ⟨by rfl, ?_⟩) (by assumption) ?_
    rotate_left
    · intro u hSw
      go_simp
      try (with_reducible rfl)
    try simp only [Act.put, List.setIfInBounds_toArray, List.set_cons_zero, List.set_cons_succ]
    refine wpAnyH_take (i := 7) (oi := ⟨_, _, _, _, _, _⟩) (v := ?_) rfl (by kernel_rfl) (by kernel_rfl) (by kernel_rfl) (fun _ _ _ h => h) (Or.inl ⟨by rfl, ?_⟩) (by assumption) ?_
    rotate_left
    · intro u hSw
      have cb := (E0.bl hSw).cell 1
      go_simp
      try (with_reducible rfl)
    try simp only [Act.put, List.setIfInBounds_toArray, List.set_cons_zero, List.set_cons_succ]
    refine wpAnyH_take (i := 8) (oi := ⟨_, _, _, _, _, _⟩) (v := ?_) rfl (by kernel_rfl) (by kernel_rfl) (by kernel_rfl) (fun _ _ _ h => h) (Or.inl ⟨by rfl, ?_⟩) (by assumption) ?_
    rotate_left
    · intro u hSw
      go_simp
      try (with_reducible rfl)
    try simp only [Act.put, List.setIfInBounds_toArray, List.set_cons_zero, List.set_cons_succ]
    refine wpAnyH_take (i := 9) (oi := ⟨_, _, _, _, _, _⟩) (v := ?_) rfl (by kernel_rfl) (by kernel_rfl) (by kernel_rfl) (fun _ _ _ h => h) (Or.inl ⟨by rfl, ?_⟩) (by assumption) ?_
    rotate_left
    · intro u hSw
      have cd := (E0.bl hSw).cell 2
      go_simp
      try (with_reducible rfl)
    try simp only [Act.put, List.setIfInBounds_toArray, List.set_cons_zero, List.set_cons_succ]
    refine wpAnyH_take (i := 10) (oi := ⟨_, _, _, _, _, _⟩) (v := ?_) rfl (by kernel_rfl) (by kernel_rfl) (by kernel_rfl) (fun _ _ _ h => h) (Or.inl ⟨by rfl, ?_⟩) (by assumption) ?_
    rotate_left
    · intro u hSw
      go_simp
      try (with_reducible rfl)
    try simp only [Act.put, List.setIfInBounds_toArray, List.set_cons_zero, List.set_cons_succ]
    refine wpAnyH_take (i := 11) (oi := ⟨_, _, _, _, _, _⟩) (v := ?_) rfl (by kernel_rfl) (by kernel_rfl) (by kernel_rfl) (fun _ _ _ h => h) (Or.inl ⟨by rfl, ?_⟩) (by assumption) ?_
    rotate_left
    · intro u hSw
      go_simp
      try (with_reducible rfl)
    try simp only [Act.put, List.setIfInBounds_toArray, List.set_cons_zero, List.set_cons_succ]
    refine wpAnyH_ready (rs := [12, 14]) (by kernel_rfl) (by simp) ?_
    refine AllReadyH.cons (o := ⟨_, _, _, _, _, _⟩) rfl (fun K hK => ?_) (AllReadyH.cons (o := ⟨_, _, _, _, _, _⟩) rfl (fun K hK => ?_) AllReadyH.nil)
    · go_simp
      refine (hcl _ hHeld).mono ?_
      rintro e w3 ⟨sp2, cap2, rfl, hDT, hg3, hb3⟩
      have hB3 : Below w2.heap.size w2 w3 := hHeld.trans (hb3.mono hHeld.size)
      have hs3 := hb3.size
      go_wp2_with fail
      refine hK.out _ _ hB3 (fun hHeld => ?_)
      clear hK K
      try simp only [Act.put, List.setIfInBounds_toArray, List.set_cons_zero, List.set_cons_succ]
      refine wpAnyH_take (i := 13) (oi := ⟨_, _, _, _, _, _⟩) rfl (by kernel_rfl) (by kernel_rfl) (by kernel_rfl) (fun _ _ _ h => h) (y_bd (by rfl) 36 #[(0, .tmp 26), (2, .tmp 37)] rfl (by rfl) (built36 m.st sp2 dN cap2)) (by assumption) ?_
      try simp only [Act.put, List.setIfInBounds_toArray, List.set_cons_zero, List.set_cons_succ]
      refine wpAnyH_ready (rs := [14]) (by kernel_rfl) (by simp) ?_
      refine AllReadyH.cons (o := ⟨_, _, _, _, _, _⟩) rfl (fun K hK => ?_) AllReadyH.nil
      go_simp
      go_wp2_with fail
      refine hK.out _ _ (hB3.alloc hB3.size _) (fun hHeld => ?_)
      clear hK K
      try simp only [Act.put, List.setIfInBounds_toArray, List.set_cons_zero, List.set_cons_succ]
      refine wpAnyH_ready (rs := [15]) (by kernel_rfl) (by simp) ?_
      refine AllReadyH.cons (o := ⟨_, _, _, _, _, _⟩) rfl (fun K hK => ?_) AllReadyH.nil
      refine step_want rfl (wp_store_row 36 (.tmp 6) (.tmp 38) rfl w3.heap.size (ouA m.st 0 sp2 dN cap2 0) rfl rfl 36 _ (Arr.new w3 36 #[.int .u8 0, .int .u64 0, .slice none 0 0, .int .i64 0]) size36 rfl (ouA_one _ _ _ _ _ _) ?_)
      refine hK.out _ _ (below_setRow (hB3.alloc hB3.size _) hB3.size _) (fun hHeld => ?_)
      clear hK K
      try simp only [Act.put, List.setIfInBounds_toArray, List.set_cons_zero, List.set_cons_succ]
      have hne1 : 0 < dN → ∃ g, sp2 = some ⟨g, 0, none⟩ ∧ g ≠ w3.heap.size ∧ w2.heap.size ≤ g := fun h => by
        obtain ⟨g, e, hg⟩ := hg3 h
        obtain ⟨g', e', hg', -⟩ := hDT.at0 h
        rw [e] at e'
        cases e'
        exact ⟨g, e, by omega, hg⟩
      refine wpAnyH_done (by kernel_rfl) ?_ _
      go_wp2_with fail
      go_meet
      exact ⟨w3.heap.size, sp2, cap2, rfl, (Arr.new w3 36 _).setRow _, dt_row (hDT.bl (ab w3 _)) (ne_of hne1), below_setRow (hB3.alloc hB3.size _) hB3.size _, ⟨hB3.size, hne1⟩⟩
    · go_simp
      go_wp2_with fail
      refine hK.out _ _ ((Below.refl _ w2).drew.alloc (Nat.le_refl _) _) (fun hHeld => ?_)
      clear hK K
      try simp only [Act.put, List.setIfInBounds_toArray, List.set_cons_zero, List.set_cons_succ]
      refine wpAnyH_ready (rs := [12]) (by kernel_rfl) (by simp) ?_
      refine AllReadyH.cons (o := ⟨_, _, _, _, _, _⟩) rfl (fun K hK => ?_) AllReadyH.nil
      go_simp
      refine (hcl _ hHeld).mono ?_
      rintro e w3 ⟨sp2, cap2, rfl, hDT, hg3, hb3⟩
      have hB3 : Below w2.heap.size w2 w3 := hHeld.trans (hb3.mono hHeld.size)
      have hs3 := hb3.size
      go_wp2_with fail
      have AZ : Arr w3 w2.heap.size 36 #[.int .u8 0, .int .u64 0, .slice none 0 0, .int .i64 0] := Arr.bl (w := (w2.alloc (.cells #[.int .u8 0, .int .u64 0, .slice none 0 0, .int .i64 0] 36)).drew) (Arr.new w2 36 #[.int .u8 0, .int .u64 0, .slice none 0 0, .int .i64 0]) hb3
      have hs4 : (w2.alloc (.cells #[.int .u8 0, .int .u64 0, .slice none 0 0, .int .i64 0] 36)).drew.heap.size = w2.heap.size + 1 := by show (w2.alloc _).heap.size = _; simp
      rw [hs4] at hs3 hg3
      refine hK.out _ _ hB3 (fun hHeld => ?_)
      clear hK K
      try simp only [Act.put, List.setIfInBounds_toArray, List.set_cons_zero, List.set_cons_succ]
      refine wpAnyH_take (i := 13) (oi := ⟨_, _, _, _, _, _⟩) rfl (by kernel_rfl) (by kernel_rfl) (by kernel_rfl) (fun _ _ _ h => h) (y_bd (by rfl) 36 #[(0, .tmp 26), (2, .tmp 37)] rfl (by rfl) (built36 m.st sp2 dN cap2)) (by assumption) ?_
      try simp only [Act.put, List.setIfInBounds_toArray, List.set_cons_zero, List.set_cons_succ]
      refine wpAnyH_ready (rs := [15]) (by kernel_rfl) (by simp) ?_
      refine AllReadyH.cons (o := ⟨_, _, _, _, _, _⟩) rfl (fun K hK => ?_) AllReadyH.nil
      refine step_want rfl (wp_store_row 36 (.tmp 6) (.tmp 38) rfl w2.heap.size (ouA m.st 0 sp2 dN cap2 0) rfl rfl 36 _ AZ size36 rfl (ouA_one _ _ _ _ _ _) ?_)
      refine hK.out _ _ (below_setRow hB3 (Nat.le_refl _) _) (fun hHeld => ?_)
      clear hK K
      try simp only [Act.put, List.setIfInBounds_toArray, List.set_cons_zero, List.set_cons_succ]
      have hne1 : 0 < dN → ∃ g, sp2 = some ⟨g, 0, none⟩ ∧ g ≠ w2.heap.size ∧ w2.heap.size ≤ g := fun h => by
        obtain ⟨g, e, hg⟩ := hg3 h
        exact ⟨g, e, by omega, by omega⟩
      refine wpAnyH_done (by kernel_rfl) ?_ _
      go_wp2_with fail
      go_meet
      exact ⟨w2.heap.size, sp2, cap2, rfl, AZ.setRow _, dt_row hDT (ne_of hne1), below_setRow hB3 (Nat.le_refl _) _, ⟨Nat.le_refl _, hne1⟩⟩
  case rest =>
    obtain ⟨G, sp2, cap2, rfl, AG, hDT, hBc, hG, hne⟩ := hcut
    have F1 := E1.bl hBc
    have F2 := E2.bl hBc
    have d17 := (F1.cell 17).trans h17.out
    have dr := (F1.cell 2).trans hr1.out
    have BB := B2.trans (hBc.mono B2.size)
    have hGw : w.heap.size + 2 < G := by omega
    have hn3 : (0 < dN → ∃ g, sp2 = some ⟨g, 0, none⟩ ∧ g ≠ G ∧ w2.heap.size ≤ g) → (0 < dN → ∃ g, sp2 = some ⟨g, 0, none⟩ ∧ g ≠ w.heap.size + 2) := fun h h0 => by
      obtain ⟨g, e, -, hg⟩ := h h0
      exact ⟨g, e, by omega⟩
    clear E0 E1 E2 hcl hb1 hb2 B1 B2
    by_cases hst : m.st = 1
    · have hyes2 : Hid (∀ w' sp2 cap2, Below w.heap.size w w' → DT w' sp2 dN D → RsP n bN dN m w (.returned (.tuple #[.agg (ouA 1 (m.get 1) sp2 dN cap2 0), .int .i64 0])) w') := hid (fun w' sp2 cap2 h1 h2 => by have := hyes.out w' sp2 cap2 h1 h2; rw [if_pos hst, hst] at this; exact this)
      clear hyes
      rw [hst] at d17 AG
      clear hst hst0
      have g1 := AG.cell 1
      have f1 := AG.frozen 1
      go_upto_region 6 with fail
      have AG2 : Arr (wc.setCell ⟨G, 1, none⟩ (.int .u64 (m.get 1))) G 36 (ouA 1 (m.get 1) sp2 dN cap2 0) := AG.set 1 _
      have F3 := F2.setOther (a := ⟨G, 1, none⟩) (.int .u64 (m.get 1)) (by show w.heap.size + 2 ≠ G; omega)
      have D3 := dt_cell hDT (ne_of hne) 1 (.int .u64 (m.get 1))
      have B4 : Below w.heap.size w (wc.setCell ⟨G, 1, none⟩ (.int .u64 (m.get 1))) := BB.setCell (by show w.heap.size ≤ G; omega) _
      clear AG F2 hDT BB g1 f1 dr d17 F1
      generalize wc.setCell ⟨G, 1, none⟩ (.int .u64 (m.get 1)) = W4 at *
      go_wp2_with (first
        | (refine lR (by rfl) 36 (.tmp 6) (by rfl) G (by rfl) (ouA 1 (m.get 1) sp2 dN cap2 0) AG2 Try.underlying36 rfl size36 ?_)
        | (refine wpList_store_arr (by rfl) 36 (.tmp 4) (.tmp 46) (by rfl) (w.heap.size + 2) (ouA 1 (m.get 1) sp2 dN cap2 0) (by rfl) (by rfl) 36 _ F3 size36 rfl (ouA_one _ _ _ _ _ _) ?_))
      exact bodyPost_ret (v := .tuple #[.agg (ouA 1 (m.get 1) sp2 dN cap2 0), .int .i64 0]) (res36 Try.results8 rfl rfl rfl (F3.setRow _)) rfl (hyes2.out _ sp2 cap2 (below_setRow B4 (by omega) _) (dt_row D3 (hn3 hne)))
    · have hst2 : ¬ m.st = 1 := hst
      have hstb : (m.st == 1) = false := by simpa using hst
      go_wp2_with (first
        | (refine lR (by rfl) 36 (.tmp 6) (by rfl) G (by rfl) (ouA m.st 0 sp2 dN cap2 0) AG Try.underlying36 rfl size36 ?_)
        | (refine wpList_store_arr (by rfl) 36 (.tmp 4) (.tmp 46) (by rfl) (w.heap.size + 2) (ouA m.st 0 sp2 dN cap2 0) (by rfl) (by rfl) 36 _ F2 size36 rfl (ouA_one _ _ _ _ _ _) ?_))
      refine bodyPost_ret (v := .tuple #[.agg (ouA m.st 0 sp2 dN cap2 0), .int .i64 0]) (res36 Try.results8 rfl rfl rfl (F2.setRow _)) rfl ?_
      have := hyes.out _ sp2 cap2 (below_setRow BB (by omega) (ouA m.st 0 sp2 dN cap2 0)) (dt_row (C := ouA m.st 0 sp2 dN cap2 0) hDT (hn3 hne))
      rw [if_neg hst2] at this
      exact this
end Go.Proofs.Ytimmiidkjpbffaa
/- Layer compile: Result, of the document, that says no. -/
namespace Go.Proofs.Ytimmiidkjpbffaa
open Go.RowKit
set_option maxRecDepth 100000
set_option linter.unusedVariables false
set_option linter.unusedSimpArgs false

set_option maxHeartbeats 2000000 in
theorem result9_no (b d : Int) (m : Mc) (sp : Option Addr) (n cap : Nat) (sq : Option Addr) (nd cd : Nat) (w : World) (hns : n ≤ 17592186044416) (hok : m.ok) (hl : Hid (nd = m.me.length)) (hnd : nd ≤ 17592186044416) (hb : -9223372036854775808 ≤ b ∧ b ≤ 9223372036854775807) (hd : -9223372036854775808 ≤ d ∧ d ≤ 9223372036854775807) (hno : rsOk n b d m = false) :
    Calls Try.prog 9 #[.agg #[.slice sp n cap, .int .i64 b, .int .i64 d], .agg (mcA m sq nd cd)] w (RsP n b d m w) := by
  have A0 := ((Arr.new w 24 #[.slice sp n cap, .int .i64 b, .int .i64 d]).alloc (.cells (mcA m sq nd cd) 29)).alloc (.cells (ouA 0 0 none 0 0 0) 36)
  have A1 := (Arr.new (w.alloc (.cells #[.slice sp n cap, .int .i64 b, .int .i64 d] 24)) 29 (mcA m sq nd cd)).alloc (.cells (ouA 0 0 none 0 0 0) 36)
  have A2 := Arr.new ((w.alloc (.cells #[.slice sp n cap, .int .i64 b, .int .i64 d] 24)).alloc (.cells (mcA m sq nd cd) 29)) 36 (ouA 0 0 none 0 0 0)
  simp only [World.size_alloc] at A1 A2
  have hb0 := ((alloc_bel' w (.cells #[.slice sp n cap, .int .i64 b, .int .i64 d] 24)).alloc (by simp) (.cells (mcA m sq nd cd) 29)).alloc (by simp; omega) (.cells (ouA 0 0 none 0 0 0) 36)
  have hmay : ∀ U, Calls Try.prog 18 #[.agg #[.slice sp n cap, .int .i64 b, .int .i64 d]] U fun e w' => e = .returned (.bool (imOk n b d)) ∧ Below U.heap.size U w' := fun U => may18_any sp n cap b d U hns hb hd
  have hmm : ∀ U, Calls Try.prog 22 #[.agg (mcA m sq nd cd)] U fun e w' => e = .returned (.bool (mayM m)) ∧ Below U.heap.size U w' := fun U => refMay_anyV m sq nd cd U hok hl hnd
  have hs0 := mcA_size hok.r16 sq nd cd
  have h18 := mcA_18 hok.r16 sq nd cd
  have hrs : ∀ w', Below w.heap.size w w' → RsP n b d m w (.returned (.tuple #[.agg (ouA 0 0 none 0 0 0), .int .i64 2])) w' := fun w' h => rsNo hno h
  replace hrs := hid hrs
  have a0 := A0.cell 0
  have a1 := A0.cell 1
  have a2 := A0.cell 2
  obtain ⟨Z, hZ⟩ : ∃ Z, Z = ouA 0 0 none 0 0 0 := ⟨_, rfl⟩
  have hz4 : Z.size = 4 := by rw [hZ]; rfl
  have hz1 : Z.all (·.oneCell') = true := by rw [hZ]; exact ouA_one _ _ _ _ _ _
  replace hZ := hid hZ
  generalize hC : mcA m sq nd cd = C at *
  clear hC
  unfold rsOk at hno
  cases him : imOk n b d with
  | false =>
    rw [him] at hmay
    clear him hl
    go_enter Try.func9, Try.ntmps9
    go_upto_region 2 with (go_at_call 18; go_must (refine (hmay _).mono ?_; rintro e w1 ⟨rfl, hb1⟩; have B1 := hb0.trans (hb1.mono (by simp; omega)); have A21 := A2.bl hb1; clear a0 a1 a2 hmay))
    go_wp2_with (refine wpList_store_arr (by rfl) 36 (.tmp 4) (.tmp 24) (by rfl) (w.heap.size + 1 + 1) (ouA 0 0 none 0 0 0) (by rfl) (by rfl) 36 _ A21 size36 rfl (ouA_one _ _ _ _ _ _) ?_)
    exact bodyPost_ret (v := .tuple #[.agg (ouA 0 0 none 0 0 0), .int .i64 2]) (res36 Try.results9 rfl rfl rfl (A21.setRow _)) rfl (hrs.out _ (below_setRow B1 (by omega) _))
  | true =>
    rw [him] at hmay hno
    cases hm2 : mayM m with
    | false =>
      rw [hm2] at hmm
      clear him hl hm2 hno
      go_enter Try.func9, Try.ntmps9
      go_upto_region 2 with (first
        | (go_at_call 18; go_must (refine (hmay _).mono ?_; rintro e w1 ⟨rfl, hb1⟩; have B1 := hb0.trans (hb1.mono (by simp; omega)); have A11 := A1.bl hb1; have A21 := A2.bl hb1; clear a0 a1 a2 hmay))
        | (refine lR (by rfl) 29 (.tmp 3) (by rfl) (w.heap.size + 1) (by rfl) C A11 Try.underlying29 rfl (by rw [hs0]; exact size45) ?_)
        | (go_at_call 22; go_must (refine (hmm _).mono ?_; rintro e w2 ⟨rfl, hb2⟩; have B2 := B1.trans (hb2.mono B1.size); have A22 := A21.bl hb2; clear hmm)))
      go_wp2_with (refine wpList_store_arr (by rfl) 36 (.tmp 4) (.tmp 24) (by rfl) (w.heap.size + 1 + 1) (ouA 0 0 none 0 0 0) (by rfl) (by rfl) 36 _ A22 size36 rfl (ouA_one _ _ _ _ _ _) ?_)
      exact bodyPost_ret (v := .tuple #[.agg (ouA 0 0 none 0 0 0), .int .i64 2]) (res36 Try.results9 rfl rfl rfl (A22.setRow _)) rfl (hrs.out _ (below_setRow B2 (by omega) _))
    | true =>
      rw [hm2] at hmm hno
      have hne : nd ≠ n := by
        intro e
        rw [Bool.true_and, Bool.true_and] at hno
        exact of_decide_eq_false hno (by rw [← e]; exact hl.out.symm)
      have hne' : ((nd : Int) != (n : Int)) = true := by simp; omega
      have hnn : ¬ (nd : Int) = (n : Int) := by omega
      clear him hl hm2 hno hne
      go_enter Try.func9, Try.ntmps9
      go_upto_region 2 with (first
        | (go_at_call 18; go_must (refine (hmay _).mono ?_; rintro e w1 ⟨rfl, hb1⟩; have B1 := hb0.trans (hb1.mono (by simp; omega)); have A01 := A0.bl hb1; have A11 := A1.bl hb1; have A21 := A2.bl hb1; clear a0 a1 a2 hmay))
        | (refine lR (by rfl) 29 (.tmp 3) (by rfl) (w.heap.size + 1) (by rfl) C A11 Try.underlying29 rfl (by rw [hs0]; exact size45) ?_)
        | (go_at_call 22; go_must (refine (hmm _).mono ?_; rintro e w2 ⟨rfl, hb2⟩; have B2 := B1.trans (hb2.mono B1.size); have A02 := A01.bl hb2; have A12 := A11.bl hb2; have A22 := A21.bl hb2; have c18 := (A12.cell 18).trans h18; have c0 := A02.cell 0; clear hmm)))
      go_wp2_with (refine wpList_store_arr (by rfl) 36 (.tmp 4) (.tmp 24) (by rfl) (w.heap.size + 1 + 1) (ouA 0 0 none 0 0 0) (by rfl) (by rfl) 36 _ A22 size36 rfl (ouA_one _ _ _ _ _ _) ?_)
      exact bodyPost_ret (v := .tuple #[.agg (ouA 0 0 none 0 0 0), .int .i64 2]) (res36 Try.results9 rfl rfl rfl (A22.setRow _)) rfl (hrs.out _ (below_setRow B2 (by omega) _))
end Go.Proofs.Ytimmiidkjpbffaa
