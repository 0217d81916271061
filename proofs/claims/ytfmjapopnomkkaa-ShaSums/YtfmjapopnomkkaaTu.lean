import Derived.Test.YtfmjapopnomkkaaTt
import Derived.Test.YtfmjapopnomkkaaTs
import Derived.Test.YtfmjapopnomkkaaTm
import Derived.Deep.RegionHeld3
namespace Go.Proofs.Ytfmjapopnomkkaa
open Go.RowKit
set_option linter.unusedSimpArgs false

/-- Sum of whatever slice. -/
theorem sum_sl (sp : Option Addr) (n cap : Nat) (L : List Int) (w : World) (hn : n = L.length) (hnil : sp = none → n = 0 ∧ cap = 0) (hS : SlL w sp L) (hcap : n ≤ cap) (hb : n ≤ 140737488355328) :
    Calls Try.prog 8 #[.slice sp n cap] w fun e w' => e = .returned (.agg (sha L)) ∧ Below w.heap.size w w' := by
  by_cases h0 : 0 < L.length
  · obtain ⟨b, off, rfl, hB⟩ := hS h0
    subst hn
    exact sum_list b off cap L w hB hcap hb
  · obtain rfl : L = [] := List.eq_nil_of_length_eq_zero (by omega)
    simp only [List.length_nil] at hn
    subst hn
    have key : ∀ (e : Ending) (w' : World), (∃ C : Array Value, e = .returned (.agg C) ∧ C.size = 32 ∧ (∀ t, t < 32 → C[t]? = some (.int .u8 (outB (shaSt (bat []) 0 0) t))) ∧ Below w.heap.size w w') → e = .returned (.agg (sha [])) ∧ Below w.heap.size w w' := by
      rintro e w' ⟨C, rfl, hs, hC, hb⟩
      exact ⟨by rw [arr_eq hs hC]; rfl, hb⟩
    cases sp with
    | none =>
      obtain ⟨-, rfl⟩ := hnil rfl
      exact (sum_none (bat []) w).mono fun e w' h => key e w' h
    | some ad =>
      by_cases hc : 0 < cap
      · exact (sum_ad ad cap hc (bat []) w).mono fun e w' h => key e w' h
      · obtain rfl : cap = 0 := by omega
        exact (sum_ad0 ad (bat []) w).mono fun e w' h => key e w' h

theorem yields_arr {ops : Array Oper} {S : World → Prop} {op : Oper} {a : Act} (hw : Region.wanted op (yielded ops a.tmps) = true) (ty : TypeId) (x : Operand) (ho : op.op = .load ty x)
    (g : Nat) (hx : a.eval x = .pointer (some ⟨g, 0, none⟩)) (C : Array Value) {n e : Nat} (hS : ∀ w, S w → Arr w g ty C)
    (hu : Try.prog.underlying ty = some (.array n e)) (hi : (Try.prog.info? ty).map (·.size) = some C.size) : YieldsIf Try.prog ops S op (.agg C) a :=
  .inl ⟨hw, fun w hw' => by
    unfold execOp
    simp only [ho, hx, Instr.loadAt, Instr.sureAddr, Sem.run_bind, Sem.run_pure, Result.andThen_ok, run_loadVar_row w g ty ty C (0, 0) _ (hS w hw') hu rfl hi]⟩

theorem Bytes.take {w : World} {b off : Nat} {L M : List Int} (h : Bytes w b off (L ++ M).length (bat (L ++ M))) : Bytes w b off L.length (bat L) := fun t ht => by
  rw [h t (by simp; omega)]; simp [bat, List.getElem?_append_left ht]
theorem Bytes.back {w : World} {b : Nat} {L M : List Int} (h : Bytes w b 0 (L ++ M).length (bat (L ++ M))) {t : Nat} (ht : t < M.length) : w.cell? ⟨b, L.length + t, none⟩ = some (.int .u8 (bat M t)) := by
  have := h (L.length + t) (by simp; omega)
  rw [Nat.zero_add] at this
  rw [this]
  simp only [bat, List.getD_eq_getElem?_getD]
  rw [List.getElem?_append_right (by omega), Nat.add_sub_cancel_left]
def sevens : List Int := [7, 7, 7, 7, 7, 7, 7, 7, 7, 7, 7, 7]
theorem bat_sevens {t : Nat} (h : t < 12) : bat sevens t = 7 := by
  match t, h with
  | 0, _ => rfl
  | 1, _ => rfl
  | 2, _ => rfl
  | 3, _ => rfl
  | 4, _ => rfl
  | 5, _ => rfl
  | 6, _ => rfl
  | 7, _ => rfl
  | 8, _ => rfl
  | 9, _ => rfl
  | 10, _ => rfl
  | 11, _ => rfl

theorem keepK {L : List Int} {g5 g6 g : Nat} {sp : Option Addr} {w w1 w2 : World} (hb : Below w1.heap.size w1 w2) (h : Arr w1 g5 24 (sha L) ∧ Arr w1 g6 24 (sha (0 :: L)) ∧ SlL w1 sp L ∧ Bytes w1 g 0 L.length (bat L) ∧ Below w.heap.size w w1) :
    Arr w2 g5 24 (sha L) ∧ Arr w2 g6 24 (sha (0 :: L)) ∧ SlL w2 sp L ∧ Bytes w2 g 0 L.length (bat L) ∧ Below w.heap.size w w2 :=
  ⟨h.1.bel hb, h.2.1.bel hb, Sl.below h.2.2.1 hb, h.2.2.2.1.below hb, h.2.2.2.2.trans (hb.mono h.2.2.2.2.size)⟩

set_option maxHeartbeats 1000000 in
theorem kept_walk (sp : Option Addr) (n cap : Nat) (L : List Int) (w : World) (hn : n = L.length) (hnil : sp = none → n = 0 ∧ cap = 0) (hS : SlL w sp L) (hcap : n ≤ cap) (hb : n ≤ 140737488355000) :
    Calls Try.prog 7 #[.slice sp n cap] w fun e w' => e = .returned (.bool true) ∧ Below w.heap.size w w' := by
  have hnI : (n : Int) ≤ 140737488355000 := by omega
  have hn0 : (0 : Int) ≤ n := by omega
  have HN := Hid.mk' hn
  clear hn
  go_enter Try.func7, Try.ntmps7
  go_upto_region 2 with (first
    | (go_at_call 25; go_must (refine (copy_any sp n cap L _ HN hnil hS (by omega)).mono ?_; rintro e w1 ⟨v1, rfl, hown1, hb1⟩))
    | (at_builtin; go_must (refine append_bytes (by rfl) (.tmp 9) (.tmp 10) (by rfl) w.heap.size _ n L (by rfl) (hown1.alloc _) (some ⟨w1.heap.size, 0, none⟩) 12 12 sevens (by rfl) (by rfl) (fun h => by cases h) (Arr.sl (Arr.new w1 5 _)) (by omega) (by have := hb1.size; simp; omega) ?_; intro v2 w2 hown2 hg2; obtain ⟨g, cap2, rfl, hn2, hc2, hgg, hBy, -⟩ := own_slice hown2 (by omega))))
  have hB2 : Below w.heap.size w w2 := (hb1.alloc hb1.size _).grown hg2 (by have := hb1.size; simp; omega) (fun k e => own_ge hown1 k e)
  have hS2 : SlL w2 sp L := Sl.below hS hB2
  have hByL := hBy.take
  have hSL : ∀ t, t < 12 → w2.cell? ⟨g, n + t, none⟩ = some (.int .u8 7) := fun t ht => by
    rw [HN.out, hBy.back (M := sevens) ht, bat_sevens ht]
  have hc2I : (n : Int) ≤ cap2 := by omega
  have hc3I : (n : Int) + 12 ≤ cap2 := by omega
  clear hown1 hb1 hown2 hg2 hn2 hBy
  have HSL := Hid.mk' hSL
  clear hSL
  go_upto_region 3 with fail
  go_cut [5, 6] from 7 (fun v5 v6 wc => ∃ g5 g6, v5 = .pointer (some ⟨g5, 0, none⟩) ∧ v6 = .pointer (some ⟨g6, 0, none⟩) ∧ Arr wc g5 24 (sha L) ∧ Arr wc g6 24 (sha (0 :: L)) ∧ Below w2.heap.size w2 wc)
  case first =>
    go_wp2_with (first
      | (go_at_call 8; go_must (refine (sum_n g 0 n cap2 L _ HN hByL (by omega) (by omega)).mono ?_; rintro e w3 ⟨rfl, hb3⟩; have hBy3 := hByL.below hb3))
      | (go_at_call 10; go_must (refine (leaf_any (some ⟨g, 0, none⟩) n cap2 L _ HN.out (fun h => by cases h) (fun _ => ⟨g, 0, rfl, hBy3⟩) hb).mono ?_; rintro e w4 ⟨rfl, hb4⟩))
      | (refine wpList_store_arr (by rfl) 24 (.tmp 5) (.tmp 17) (by rfl) w4.heap.size (sha L) (by rfl) (by rfl) 24 _ ((Arr.new w4 24 _).alloc _) (s24sha _) (by rw [sha_size]; rfl) (sha_one _) ?_)
      | (refine wpList_store_arr (by rfl) 24 (.tmp 6) (.tmp 19) (by rfl) (w4.heap.size + 1) (sha (0 :: L)) (by rfl) (by rfl) 24 _ (Arr.setRowOther (show Arr ((w4.alloc _).alloc _) (w4.heap.size + 1) 24 _ from by simpa using Arr.new (w4.alloc _) 24 _) _ (by omega)) (s24sha _) (by rw [sha_size]; rfl) (sha_one _) ?_))
    go_meet
    refine ⟨w4.heap.size, w4.heap.size + 1, rfl, rfl, Arr.setRowOther (((Arr.new w4 24 _).alloc _).setRow _) _ (by omega), Arr.setRow (Arr.setRowOther (show Arr ((w4.alloc _).alloc _) (w4.heap.size + 1) 24 _ from by simpa using Arr.new (w4.alloc _) 24 _) _ (by omega)) _, ?_⟩
    have hs2 := hb3.size
    have hs3 := hb4.size
    exact below_setRow (below_setRow ((((hb3.trans (hb4.mono hs2)).alloc (by omega) _).alloc (by simp; omega) _)) (by omega) _) (by omega) _
  case rest =>
    obtain ⟨g5, g6, rfl, rfl, hH5, hL5, hb5⟩ := hcut
    have hS5 : SlL wc sp L := Sl.below hS2 hb5
    have hBy5 := hByL.below hb5
    have hB5 := hB2.trans (hb5.mono hB2.size)
    have hSev : ∀ t, t < 12 → wc.cell? ⟨g, n + t, none⟩ = some (.int .u8 7) := fun t ht => by
      rw [hb5.cell (p := ⟨g, n + t, none⟩) (block_lt_of_cell (HSL.out t ht))]; exact HSL.out t ht
    have HSev := Hid.mk' hSev
    clear HSL hSev hByL hS2 hB2 hb5
    go_wp2
    go_loop [7] (fun i => ∃ k : Nat, k ≤ 12 ∧ i = .int .i64 (n + k)) (fun i => n + 12 - (intOf i).toNat)
    case atStart => exact ⟨0, by omega, by go_num⟩
    case round =>
    obtain ⟨k, hk, rfl⟩ := hrel
    have hkI : (k : Int) ≤ 12 := by omega
    by_cases hlt : k < 12
    · have hc7 := HSev.out k hlt
      have h3 : (n : Int) + k < n + 12 := by omega
      have h4 : (0 : Int) ≤ (n : Int) + k := by omega
      have e1 : ((n : Int) + k).toNat = n + k := by omega
      go_wp2
      go_round
      case rel => exact ⟨k + 1, by omega, by go_num⟩
      case measure => simp [intOf]; omega
    obtain rfl : k = 12 := by omega
    go_upto_region 9 with fail
    have q24 : ∀ (M : List Int) (u : World), (Op.equalIn 10000 24 (.agg (sha M)) (.agg (sha M))).run Try.prog u = .ok true u := fun M u => eq24 _ u
    refine wp_region_held_drew (S := (fun w' => Arr w' g5 24 (sha L) ∧ Arr w' g6 24 (sha (0 :: L)) ∧ SlL w' sp L ∧ Bytes w' g 0 L.length (bat L) ∧ Below w.heap.size w w')) (by kernel_rfl) ⟨hH5, hL5, hS5, hBy5, hB5.drew⟩ (fun hHeld => ?_)
    -- operation 0
    refine wpAnyH_ready (rs := [0]) (by kernel_rfl) (by simp) ?_
    refine AllReadyH.cons (o := ⟨_, _, _, _, _, _⟩) rfl (fun K hK => ?_) AllReadyH.nil
    go_simp
    refine (anchored_any _).mono ?_; rintro e w5 ⟨rfl, hb5⟩
    go_wp2_with fail
    refine hK.out _ _ (keepK hb5 hHeld) (fun hHeld => ?_)
    clear hK K
    try simp only [Act.put, List.setIfInBounds_toArray, List.set_cons_zero, List.set_cons_succ]
    -- operation 1
    refine wpAnyH_take (i := 1) (oi := ⟨_, _, _, _, _, _⟩) (v := ?_) rfl (by kernel_rfl) (by kernel_rfl) (by kernel_rfl) (fun _ _ _ h => h) (Or.inl ⟨by rfl, ?_⟩) (by assumption) ?_
    rotate_left
    · intro w hSw
      go_simp
      try (with_reducible rfl)
    try simp only [Act.put, List.setIfInBounds_toArray, List.set_cons_zero, List.set_cons_succ]
    -- operation 2
    refine wpAnyH_take (i := 2) (oi := ⟨_, _, _, _, _, _⟩) (v := ?_) rfl (by kernel_rfl) (by kernel_rfl) (by kernel_rfl) (fun _ _ _ h => h) (Or.inl ⟨by rfl, ?_⟩) (by assumption) ?_
    rotate_left
    · intro w hSw
      go_simp
      try (with_reducible rfl)
    try simp only [Act.put, List.setIfInBounds_toArray, List.set_cons_zero, List.set_cons_succ]
    -- operation 3
    refine wpAnyH_take (i := 3) (oi := ⟨_, _, _, _, _, _⟩) (v := ?_) rfl (by kernel_rfl) (by kernel_rfl) (by kernel_rfl) (fun _ _ _ h => h) (Or.inl ⟨by rfl, ?_⟩) (by assumption) ?_
    rotate_left
    · intro w hSw
      go_simp
      try (with_reducible rfl)
    try simp only [Act.put, List.setIfInBounds_toArray, List.set_cons_zero, List.set_cons_succ]
    -- operation 4
    refine wpAnyH_ready (rs := [4]) (by kernel_rfl) (by simp) ?_
    refine AllReadyH.cons (o := ⟨_, _, _, _, _, _⟩) rfl (fun K hK => ?_) AllReadyH.nil
    go_simp
    refine (same_true (some ⟨g, 0, none⟩) sp n cap2 cap L _ HN (fun h => by cases h) (fun _ => ⟨g, 0, rfl, hHeld.2.2.2.1⟩) hnil hHeld.2.2.1).mono ?_; rintro e w5 ⟨rfl, rfl⟩
    go_wp2_with fail
    refine hK.out _ _ (hHeld) (fun hHeld => ?_)
    clear hK K
    try simp only [Act.put, List.setIfInBounds_toArray, List.set_cons_zero, List.set_cons_succ]
    -- operation 5
    refine wpAnyH_take (i := 5) (oi := ⟨_, _, _, _, _, _⟩) (v := ?_) rfl (by kernel_rfl) (by kernel_rfl) (by kernel_rfl) (fun _ _ _ h => h) (Or.inl ⟨by rfl, ?_⟩) (by assumption) ?_
    rotate_left
    · intro w hSw
      go_simp
      try (with_reducible rfl)
    try simp only [Act.put, List.setIfInBounds_toArray, List.set_cons_zero, List.set_cons_succ]
    -- operation 6
    refine wpAnyH_take (i := 6) (oi := ⟨_, _, _, _, _, _⟩) (v := ?_) rfl (by kernel_rfl) (by kernel_rfl) (by kernel_rfl) (fun _ _ _ h => h) (Or.inl ⟨by rfl, ?_⟩) (by assumption) ?_
    rotate_left
    · intro w hSw
      go_simp
      try (with_reducible rfl)
    try simp only [Act.put, List.setIfInBounds_toArray, List.set_cons_zero, List.set_cons_succ]
    -- operation 7
    refine wpAnyH_take (i := 7) (oi := ⟨_, _, _, _, _, _⟩) rfl (by kernel_rfl) (by kernel_rfl) (by kernel_rfl) (fun _ _ _ h => h) (yields_arr (by rfl) 24 (.tmp 5) rfl g5 rfl (sha L) (fun _ h => h.1) Try.underlying24 (s24sha _)) (by assumption) ?_
    try simp only [Act.put, List.setIfInBounds_toArray, List.set_cons_zero, List.set_cons_succ]
    -- operation 8
    refine wpAnyH_take (i := 8) (oi := ⟨_, _, _, _, _, _⟩) (v := ?_) rfl (by kernel_rfl) (by kernel_rfl) (by kernel_rfl) (fun _ _ _ h => h) (Or.inl ⟨by rfl, ?_⟩) (by assumption) ?_
    rotate_left
    · intro w hSw
      go_simp
      try (with_reducible rfl)
    try simp only [Act.put, List.setIfInBounds_toArray, List.set_cons_zero, List.set_cons_succ]
    -- operation 9
    refine wpAnyH_ready (rs := [9]) (by kernel_rfl) (by simp) ?_
    refine AllReadyH.cons (o := ⟨_, _, _, _, _, _⟩) rfl (fun K hK => ?_) AllReadyH.nil
    go_simp
    refine (sum_sl sp n cap L _ HN.out hnil hHeld.2.2.1 hcap (by omega)).mono ?_; rintro e w5 ⟨rfl, hb5⟩
    go_wp2_with fail
    refine hK.out _ _ (keepK hb5 hHeld) (fun hHeld => ?_)
    clear hK K
    try simp only [Act.put, List.setIfInBounds_toArray, List.set_cons_zero, List.set_cons_succ]
    -- operation 10
    refine wpAnyH_take (i := 10) (oi := ⟨_, _, _, _, _, _⟩) (v := ?_) rfl (by kernel_rfl) (by kernel_rfl) (by kernel_rfl) (fun _ _ _ h => h) (Or.inl ⟨by rfl, ?_⟩) (by assumption) ?_
    rotate_left
    · intro w hSw
      go_simp
      try (with_reducible rfl)
    try simp only [Act.put, List.setIfInBounds_toArray, List.set_cons_zero, List.set_cons_succ]
    -- operation 11
    refine wpAnyH_take (i := 11) (oi := ⟨_, _, _, _, _, _⟩) (v := ?_) rfl (by kernel_rfl) (by kernel_rfl) (by kernel_rfl) (fun _ _ _ h => h) (Or.inl ⟨by rfl, ?_⟩) (by assumption) ?_
    rotate_left
    · intro w hSw
      go_simp
      try (with_reducible rfl)
    try simp only [Act.put, List.setIfInBounds_toArray, List.set_cons_zero, List.set_cons_succ]
    -- operation 12
    refine wpAnyH_take (i := 12) (oi := ⟨_, _, _, _, _, _⟩) (v := ?_) rfl (by kernel_rfl) (by kernel_rfl) (by kernel_rfl) (fun _ _ _ h => h) (Or.inl ⟨by rfl, ?_⟩) (by assumption) ?_
    rotate_left
    · intro w hSw
      go_simp
      try (with_reducible rfl)
    try simp only [Act.put, List.setIfInBounds_toArray, List.set_cons_zero, List.set_cons_succ]
    -- operation 13
    refine wpAnyH_take (i := 13) (oi := ⟨_, _, _, _, _, _⟩) rfl (by kernel_rfl) (by kernel_rfl) (by kernel_rfl) (fun _ _ _ h => h) (yields_arr (by rfl) 24 (.tmp 6) rfl g6 rfl (sha (0 :: L)) (fun _ h => h.2.1) Try.underlying24 (s24sha _)) (by assumption) ?_
    try simp only [Act.put, List.setIfInBounds_toArray, List.set_cons_zero, List.set_cons_succ]
    -- operation 14
    refine wpAnyH_take (i := 14) (oi := ⟨_, _, _, _, _, _⟩) (v := ?_) rfl (by kernel_rfl) (by kernel_rfl) (by kernel_rfl) (fun _ _ _ h => h) (Or.inl ⟨by rfl, ?_⟩) (by assumption) ?_
    rotate_left
    · intro w hSw
      go_simp
      try (with_reducible rfl)
    try simp only [Act.put, List.setIfInBounds_toArray, List.set_cons_zero, List.set_cons_succ]
    -- operation 15
    refine wpAnyH_ready (rs := [15]) (by kernel_rfl) (by simp) ?_
    refine AllReadyH.cons (o := ⟨_, _, _, _, _, _⟩) rfl (fun K hK => ?_) AllReadyH.nil
    go_simp
    refine (leaf_any sp n cap L _ HN.out hnil hHeld.2.2.1 hb).mono ?_; rintro e w5 ⟨rfl, hb5⟩
    go_wp2_with fail
    refine hK.out _ _ (keepK hb5 hHeld) (fun hHeld => ?_)
    clear hK K
    try simp only [Act.put, List.setIfInBounds_toArray, List.set_cons_zero, List.set_cons_succ]
    -- operation 16
    refine wpAnyH_take (i := 16) (oi := ⟨_, _, _, _, _, _⟩) (v := ?_) rfl (by kernel_rfl) (by kernel_rfl) (by kernel_rfl) (fun _ _ _ h => h) (Or.inl ⟨by rfl, ?_⟩) (by assumption) ?_
    rotate_left
    · intro w hSw
      go_simp
      try (with_reducible rfl)
    try simp only [Act.put, List.setIfInBounds_toArray, List.set_cons_zero, List.set_cons_succ]
    -- operation 17
    refine wpAnyH_take (i := 17) (oi := ⟨_, _, _, _, _, _⟩) (v := ?_) rfl (by kernel_rfl) (by kernel_rfl) (by kernel_rfl) (fun _ _ _ h => h) (Or.inl ⟨by rfl, ?_⟩) (by assumption) ?_
    rotate_left
    · intro w hSw
      go_simp
      try (with_reducible rfl)
    try simp only [Act.put, List.setIfInBounds_toArray, List.set_cons_zero, List.set_cons_succ]
    -- operation 18
    refine wpAnyH_take (i := 18) (oi := ⟨_, _, _, _, _, _⟩) (v := ?_) rfl (by kernel_rfl) (by kernel_rfl) (by kernel_rfl) (fun _ _ _ h => h) (Or.inl ⟨by rfl, ?_⟩) (by assumption) ?_
    rotate_left
    · intro w hSw
      go_simp
      try (with_reducible rfl)
    try simp only [Act.put, List.setIfInBounds_toArray, List.set_cons_zero, List.set_cons_succ]
    refine wpAnyH_done (by kernel_rfl) ?_ _
    go_wp2
    go_ret
    exact ⟨rfl, hHeld.2.2.2.2⟩
end Go.Proofs.Ytfmjapopnomkkaa
