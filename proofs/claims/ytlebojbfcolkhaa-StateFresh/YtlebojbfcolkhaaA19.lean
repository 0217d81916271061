/- Mt, Mx. -/
import Derived.Test.YtlebojbfcolkhaaA17
import Derived.Test.YtlebojbfcolkhaaA18
/- Layer merkle: Proof with its errors; Empty. -/
namespace Go.Proofs.Ytlebojbfcolkhaa
open Go.RowKit Go.Shelf
set_option maxRecDepth 100000
set_option linter.unusedVariables false
set_option linter.unusedSimpArgs false
attribute [local go_sem] Oper.semAt_some

/-- Why there is no proof. -/
def pE (d i : Int) (n : Nat) : Int := if (0 ≤ d ∧ d ≤ 16) ∧ 0 ≤ i ∧ i < (2 ^ d.toNat : Nat) then (if n ≤ 2 ^ d.toNat then 0 else 4) else 2
theorem rE_zero (d : Int) : rE d 0 = if 0 ≤ d ∧ d ≤ 16 then 0 else 2 := by
  unfold rE
  split
  · rw [if_pos (Nat.zero_le _)]
  · rfl
set_option maxRecDepth 100000 in
set_option maxHeartbeats 1000000 in
theorem proof_arg (d i : Int) (sp : Option Addr) (n cap : Nat) (w : World) (h : ¬ ((0 ≤ d ∧ d ≤ 16) ∧ 0 ≤ i ∧ i < (2 ^ d.toNat : Nat))) :
    Calls Try.prog 77 #[.int .i64 d, .slice sp n cap, .int .i64 i] w fun e w' => e = .returned (.tuple #[.slice none 0 0, .int .i64 2]) ∧ Below w.heap.size w w' := by
  have hb0 := (alloc_bel' w (.cells #[.slice sp n cap] 42)).alloc (by simp) (.cells #[.int .i64 i] 3)
  have A1 := Arr.new (w.alloc (.cells #[.slice sp n cap] 42)) 3 #[.int .i64 i]
  rw [World.size_alloc] at A1
  have c1 := A1.cell 0
  simp at c1
  have hmd := mayDepth_any d
  by_cases h1 : 0 ≤ d ∧ d ≤ 16
  · rw [decide_eq_true h1] at hmd
    obtain ⟨m, rfl⟩ : ∃ m : Nat, d = m := ⟨d.toNat, by omega⟩
    have hmp := mayPlace_any m (by omega) i
    rw [decide_eq_false (fun hh => h ⟨h1, by simpa using hh⟩)] at hmp
    clear h
    go_enter Try.func77, Try.ntmps77
    go_wp2_with (first
      | (go_at_call 66; go_must (refine (hmd _).mono ?_; rintro e w1 ⟨rfl, rfl⟩))
      | (go_at_call 67; go_must (refine (hmp _).mono ?_; rintro e w1 ⟨rfl, rfl⟩)))
    go_ret2
    exact ⟨rfl, hb0⟩
  · rw [decide_eq_false h1] at hmd
    clear h
    go_enter Try.func77, Try.ntmps77
    go_wp2_with (first
      | (go_at_call 66; go_must (refine (hmd _).mono ?_; rintro e w1 ⟨rfl, rfl⟩)))
    go_ret2
    exact ⟨rfl, hb0⟩
end Go.Proofs.Ytlebojbfcolkhaa
/- Layer merkle: the document's root. -/
namespace Go.Proofs.Ytlebojbfcolkhaa
open Go.RowKit Go.Shelf
set_option maxRecDepth 100000
set_option linter.unusedVariables false
set_option linter.unusedSimpArgs false

set_option maxRecDepth 100000 in
set_option maxHeartbeats 400000 in
theorem refBad_any (d : Int) (n : Nat) (w : World) : Calls Try.prog 75 #[.int .i64 d, .int .i64 n] w fun e w' => e = .returned (.int .i64 (rE d n)) ∧ w' = w := by
  unfold rE
  by_cases h1 : 0 ≤ d
  · by_cases h2 : d ≤ 16
    · rw [if_pos ⟨h1, h2⟩]
      obtain ⟨m, rfl⟩ : ∃ m : Nat, d = m := ⟨d.toNat, by omega⟩
      have hm : m ≤ 16 := by omega
      have hwp := wrap_pow hm
      rw [Int.toNat_natCast]
      obtain ⟨p, hp⟩ : ∃ p : Nat, p = 2 ^ m := ⟨_, rfl⟩
      rw [← hp] at hwp ⊢
      replace hp := Hid.mk' hp
      by_cases h3 : n ≤ p
      · rw [if_pos h3]
        have h4 : ¬ (p : Int) < n := by omega
        go_enter Try.func75, Try.ntmps75
        go_wp2
        go_ret
        exact ⟨rfl, rfl⟩
      · rw [if_neg h3]
        have h4 : (p : Int) < n := by omega
        go_enter Try.func75, Try.ntmps75
        go_wp2
        go_ret
        exact ⟨rfl, rfl⟩
    · rw [if_neg (fun h => h2 h.2)]
      go_enter Try.func75, Try.ntmps75
      go_wp2
      go_ret
      exact ⟨rfl, rfl⟩
  · rw [if_neg (fun h => h1 h.1)]
    go_enter Try.func75, Try.ntmps75
    go_wp2
    go_ret
    exact ⟨rfl, rfl⟩
set_option maxRecDepth 100000 in
set_option maxHeartbeats 1000000 in
/-- The leaves of a half that are given. -/
theorem part_any (q p N : Nat) (sp : Option Addr) (n cap : Nat) (ls : List (List Int)) (w : World) (x : Int) (hx : x = (q + p : Nat)) (hq : q ≤ 9000000000) (hp : p ≤ 65536) (hS : HS N w sp n cap ls) :
    Calls Try.prog 78 #[.slice sp n cap, .int .i64 q, .int .i64 x] w fun e w' => ∃ sp' n' cap', e = .returned (.slice sp' n' cap') ∧ w' = w ∧ HS N w sp' n' cap' ((ls.drop q).take p) := by
  have hsm := hS.small
  have hln := hS.len
  have hle := hS.le
  have hbig := hS.big
  subst hx
  by_cases h1 : q < n
  · obtain ⟨g, off, rfl, hgN, hR⟩ := hS.at0 (by omega)
    have h1I : ¬ (n : Int) ≤ q := by omega
    have h1N : ¬ cap = q := by omega
    by_cases h2 : n < q + p
    · have h2I : ¬ ((q : Int) + (p : Int)) ≤ n := by omega
      have hmin : min ((q : Int) + (p : Int)) n = n := by omega
      go_enter Try.func78, Try.ntmps78
      go_wp2
      go_ret
      refine ⟨_, _, _, rfl, rfl, ?_⟩
      have h := hS.part q (n - q) (cap - q) (by omega) (by omega) (by omega) (by omega)
      rw [List.take_of_length_le (by rw [List.length_drop, ← hln.out]; omega)] at h
      rw [List.take_of_length_le (by rw [List.length_drop, ← hln.out]; omega)]
      exact h
    · have h2I : ((q : Int) + (p : Int)) ≤ n := by omega
      have hmin : min ((q : Int) + (p : Int)) n = (q : Int) + (p : Int) := by omega
      go_enter Try.func78, Try.ntmps78
      go_wp2
      go_ret
      refine ⟨_, _, _, rfl, rfl, ?_⟩
      have h := hS.part q p (cap - q) (by omega) (by omega) (by omega) (by omega)
      exact h
  · have h1I : (n : Int) ≤ q := by omega
    go_enter Try.func78, Try.ntmps78
    go_wp2
    go_ret
    refine ⟨_, _, _, rfl, rfl, ?_⟩
    rw [List.drop_eq_nil_of_le (by rw [← hln.out]; omega), List.take_nil]
    exact HS.nil0 _ _
theorem refPair_h' (X Y : List Int) (w : World) (hX : X.length = 32) (hY : Y.length = 32) : Calls Try.prog 38 #[.agg (h8 X), .agg (h8 Y)] w fun e w' => e = .returned (.agg (h8 (pr X Y))) ∧ Below w.heap.size w w' := refPair_h X Y w hX hY
theorem HS.fst {N : Nat} {w : World} {sp : Option Addr} {n cap : Nat} {ls : List (List Int)} (h : HS N w sp n cap ls) (p : Nat) (hp : p ≤ n) : HS N w sp p cap (ls.take p) := by
  have hl := h.len.out
  refine ⟨show p = _ by rw [List.length_take]; omega, fun e => ?_, by have := h.le; omega, h.big, by have := h.small; omega, fun h0 => ?_, fun X hX => h.l32 X (List.mem_of_mem_take hX)⟩
  · have := h.nil e; exact ⟨by omega, this.2⟩
  · obtain ⟨g, off, e, hg, hR⟩ := h.at0 (by omega)
    refine ⟨g, off, e, hg, fun i X hX => hR i X ?_⟩
    have hi : i < p := by have := (List.getElem?_eq_some_iff.1 hX).1; rw [List.length_take] at this; omega
    rw [List.getElem?_take_of_lt hi] at hX; exact hX
set_option maxRecDepth 100000 in
set_option maxHeartbeats 4000000 in
/-- The document's root, whatever is given. -/
theorem refroot_any (d : Nat) : ∀ (N : Nat) (sp : Option Addr) (n cap : Nat) (ls : List (List Int)) (w : World) (x : Int), x = (d : Int) → d ≤ 16 → HS N w sp n cap ls →
    Calls Try.prog 76 #[.int .i64 x, .slice sp n cap] w fun e w' => e = .returned (.agg (h8 (tr d ls))) ∧ Below w.heap.size w w' := by
  induction d with
  | zero =>
    intro N sp n cap ls w x hx hd hS
    obtain rfl : x = 0 := hx
    have A0 := Arr.new w 24 (h8 Z32)
    have hb0 := alloc_bel' w (.cells (h8 Z32) 24)
    have hln := hS.len
    have hle := hS.le
    have hsm := hS.small
    by_cases h0 : 0 < n
    · obtain ⟨g, off, rfl, hgN, hR⟩ := (hS.here.below hb0).at0 h0
      have hlen : 0 < ls.length := by rw [← hln.out]; exact h0
      have hX := hR 0 ls[0] (List.getElem?_eq_getElem hlen)
      have hX32 := hS.l32 ls[0] (List.getElem_mem hlen)
      have e0 : tr 0 ls = ls[0] := by cases ls with | nil => simp at hlen | cons a r => rfl
      rw [e0]
      generalize ls[0] = X at *
      rw [Nat.zero_mul, Nat.add_zero] at hX
      have h0I : (0 : Int) < n := by omega
      rw [h8_Z] at hX A0 hb0
      go_enter Try.func76, Try.ntmps76
      go_wp2_with (first
        | (refine ld24 (by rfl) _ (by rfl) g off (by rfl) X hX32 hX ?_)
        | (refine st24n (by rfl) _ _ (by rfl) w w.heap.size rfl (by rfl) X (by rfl) (by rfl) hX32 ?_))
      exact bodyPost_ret (v := .agg (h8 X)) (res24 Try.results76 rfl hX32 (Arr.new w 24 _)) rfl ⟨rfl, alloc_bel' w _⟩
    · obtain rfl : n = 0 := by omega
      obtain rfl : ls = [] := List.eq_nil_of_length_eq_zero hln.out.symm
      have e0 : tr 0 [] = Z32 := rfl
      rw [e0]
      go_enter Try.func76, Try.ntmps76
      go_wp2_with (first
        | (refine st24n (by rfl) _ _ (by rfl) w w.heap.size rfl (by rfl) Z32 (by rfl) (by rfl) Z32_len ?_))
      exact bodyPost_ret (v := .agg (h8 Z32)) (res24 Try.results76 rfl Z32_len (Arr.new w 24 _)) rfl ⟨rfl, alloc_bel' w _⟩
  | succ d ih =>
    intro N sp n cap ls w x hx hd hS
    have hS := hS.here
    have A0 := Arr.new w 24 (h8 Z32)
    have hb0 := alloc_bel' w (.cells (h8 Z32) 24)
    have hln := hS.len
    have hle := hS.le
    have hsm := hS.small
    have hbig := hS.big
    have hx1 : x - 1 = (d : Int) := by omega
    have hx0 : ¬ x = 0 := by omega
    have hxl : 0 < x := by omega
    have hxu : x ≤ 17 := by omega
    have hd16 : d ≤ 16 := by omega
    have hwp := wrap_pow hd16
    have hp16 := pow16 hd16
    have hwd : IntKind.i64.wrap (d : Int) = d := by rw [IntKind.wrap_i64]; omega
    obtain ⟨p, hp⟩ : ∃ p : Nat, p = 2 ^ d := ⟨_, rfl⟩
    have hp0 : 0 < p := by rw [hp]; exact Nat.pow_pos (by omega)
    rw [← hp] at hwp hp16
    have hH0 := hS.below hb0
    have htl : ∀ l : List (List Int), (∀ X ∈ l, X.length = 32) → (tr d l).length = 32 := fun l hl => tr_len d l hl
    have hall := hS.l32
    replace hx := Hid.mk' hx
    by_cases h0 : n = 0
    · have hnil : ls = [] := List.eq_nil_of_length_eq_zero (by rw [← hln.out]; exact h0)
      rw [hnil, tr_nil]
      have hX := htl [] (fun X h => by cases h)
      have ihc := fun w x hx => ih _ none 0 0 [] w x hx hd16 (HS.nil0 w.heap.size w)
      generalize tr d [] = X at *
      have hXX := pr_len X X
      subst h0
      rw [h8_Z] at A0 hb0
      clear hH0
      go_enter Try.func76, Try.ntmps76
      go_wp2_with (first
        | (go_at_call 38; go_must (refine (refPair_h X X _ hX hX).mono ?_; rintro e w3 ⟨rfl, hb3⟩; have hs3 := hb3.size; simp at hs3; have S3 := A2.below hb3 (by simp; omega); have bw3 := bw2.trans (hb3.mono (by simp; omega))))
        | (go_at_call 76; go_must (refine (ihc _ _ (by first | exact hx1 | rfl | exact hwd)).mono ?_; rintro e w2 ⟨rfl, hb2⟩; have hs2 := hb2.size; simp at hs2; have A2 := (A0.below hb2 (by simp)).alloc (.cells (h8 X) 24); have V2 := Arr.new w2 24 (h8 X); have bw2 := (hb0.trans (hb2.mono (by simp))).alloc (by omega) (.cells (h8 X) 24)))
        | (refine st24 (by rfl) _ _ (by rfl) w.heap.size (pr X X) Z32 (by rfl) (by rfl) hXX Z32_len S3 ?_)
        | (refine st24n (by rfl) _ _ (by rfl) w2 w2.heap.size rfl (by rfl) X (by rfl) (by rfl) hX ?_)
        | (refine ld24 (by rfl) _ (by rfl) w2.heap.size 0 (by rfl) X hX V2.range ?_))
      exact bodyPost_ret (v := .agg (h8 (pr X X))) (res24 Try.results76 rfl hXX (S3.setRow _)) rfl ⟨rfl, below_setRow bw3 (Nat.le_refl _) _⟩
    · have h0I : ¬ (n : Int) = 0 := by omega
      by_cases h1 : n ≤ p
      · have h1I : (n : Int) ≤ p := by omega
        have e1 : tr (d + 1) ls = pr (tr d ls) (tr d []) := by rw [tr_succ, List.drop_eq_nil_of_le (by rw [← hln.out, ← hp]; exact h1)]
        rw [e1]
        replace hp := Hid.mk' hp
        have hX := htl [] (fun X h => by cases h)
        have hY := htl ls hall
        have ihc := fun w x hx => ih _ none 0 0 [] w x hx hd16 (HS.nil0 w.heap.size w)
        have ihd := fun N w x hx hS => ih N sp n cap ls w x hx hd16 hS
        generalize tr d [] = X at *
        generalize tr d ls = Y at *
        have hYX := pr_len Y X
        rw [h8_Z] at A0 hb0 hH0
        go_enter Try.func76, Try.ntmps76
        go_wp2_with (first
          | (go_at_call 38; go_must (refine (refPair_h Y X _ hY hX).mono ?_; rintro e w4 ⟨rfl, hb4⟩; have hs4 := hb4.size; have S4 := A3.below hb4 (by omega); have bw4 := bw3.trans (hb4.mono (by omega))))
          | (go_at_call 76; go_must (first
            | (refine (ihc w2 _ (by first | exact hx1 | rfl | exact hwd)).mono ?_; rintro e w3 ⟨rfl, hb3⟩; have hs3 := hb3.size; have A3 := A2.below hb3 (by omega); have bw3 := bw2.trans (hb3.mono (by omega)))
            | (refine (ihd _ _ _ (by first | exact hx1 | rfl | exact hwd) hH0).mono ?_; rintro e w2 ⟨rfl, hb2⟩; have hs2 := hb2.size; simp at hs2; have A2 := A0.below hb2 (by simp); have bw2 := hb0.trans (hb2.mono (by simp)))))
          | (refine st24 (by rfl) _ _ (by rfl) w.heap.size (pr Y X) Z32 (by rfl) (by rfl) hYX Z32_len S4 ?_))
        exact bodyPost_ret (v := .agg (h8 (pr Y X))) (res24 Try.results76 rfl hYX (S4.setRow _)) rfl ⟨rfl, below_setRow bw4 (Nat.le_refl _) _⟩
      · have h1I : ¬ (n : Int) ≤ p := by omega
        obtain ⟨g, off, rfl, hgN, hR⟩ := hS.at0 (by omega)
        have hc1 : ¬ cap = p := by omega
        have hc2 : p ≤ cap := by omega
        have hpn : p ≤ n := by omega
        have e1 : tr (d + 1) ls = pr (tr d (ls.take p)) (tr d (ls.drop p)) := by rw [hp]; rfl
        rw [e1]
        have hX1 := htl (ls.take p) (fun X hX => hall X (List.mem_of_mem_take hX))
        have hX2 := htl (ls.drop p) (fun X hX => hall X (List.mem_of_mem_drop hX))
        have hYX := pr_len (tr d (ls.take p)) (tr d (ls.drop p))
        rw [h8_Z] at A0 hb0 hH0
        have hF0 := hH0.fst p hpn
        have hG0 := hH0.part p (n - p) (cap - p) (by omega) (by omega) (by omega) (by omega)
        rw [List.take_of_length_le (by rw [List.length_drop, ← hln.out]; omega)] at hG0
        replace hp := Hid.mk' hp
        go_enter Try.func76, Try.ntmps76
        go_upto_region 11 with fail
        try simp only [hx1, hwp, Int.toNat_natCast]
        have hsV : w.heap.size < (w.alloc (.cells (h8 Z32) 24)).heap.size := by simp
        rw [h8_Z] at hsV
        generalize w.alloc (.cells _ 24) = V at *
        have hF1 : HS w.heap.size V.drew (some ⟨g, off, none⟩) p cap (ls.take p) := hF0.below ((Below.refl _ _).drew)
        have hF2 : HS V.heap.size V (some ⟨g, off + p * 32, none⟩) (n - p) (cap - p) (ls.drop p) := hG0.mono (by omega)
        refine wp_region_held_drew (S := fun _ => True) (by kernel_rfl) trivial (fun hHeld => ?_)
        refine wpAnyH_take (i := 0) (oi := ⟨_, _, _, _, _, _⟩) (v := ?_) rfl (by kernel_rfl) (by kernel_rfl) (by kernel_rfl) (fun _ _ _ h => h) (Or.inl ⟨by rfl, ?_⟩) (by assumption) ?_
        rotate_left
        · intro u hSw
          go_simp
          try (with_reducible rfl)
        try simp only [Act.put, List.setIfInBounds_toArray, List.set_cons_zero, List.set_cons_succ]
        refine wpAnyH_take (i := 1) (oi := ⟨_, _, _, _, _, _⟩) (v := ?_) rfl (by kernel_rfl) (by kernel_rfl) (by kernel_rfl) (fun _ _ _ h => h) (Or.inl ⟨by rfl, ?_⟩) (by assumption) ?_
        rotate_left
        · intro u hSw
          go_simp
          try (with_reducible rfl)
        try simp only [Act.put, List.setIfInBounds_toArray, List.set_cons_zero, List.set_cons_succ]
        refine wpAnyH_take (i := 2) (oi := ⟨_, _, _, _, _, _⟩) (v := ?_) rfl (by kernel_rfl) (by kernel_rfl) (by kernel_rfl) (fun _ _ _ h => h) (Or.inl ⟨by rfl, ?_⟩) (by assumption) ?_
        rotate_left
        · intro u hSw
          go_simp
          try (with_reducible rfl)
        try simp only [Act.put, List.setIfInBounds_toArray, List.set_cons_zero, List.set_cons_succ]
        refine wpAnyH_take (i := 3) (oi := ⟨_, _, _, _, _, _⟩) (v := ?_) rfl (by kernel_rfl) (by kernel_rfl) (by kernel_rfl) (fun _ _ _ h => h) (Or.inl ⟨by rfl, ?_⟩) (by assumption) ?_
        rotate_left
        · intro u hSw
          go_simp
          try (with_reducible rfl)
        try simp only [Act.put, List.setIfInBounds_toArray, List.set_cons_zero, List.set_cons_succ]
        refine wpAnyH_take (i := 4) (oi := ⟨_, _, _, _, _, _⟩) (v := ?_) rfl (by kernel_rfl) (by kernel_rfl) (by kernel_rfl) (fun _ _ _ h => h) (Or.inl ⟨by rfl, ?_⟩) (by assumption) ?_
        rotate_left
        · intro u hSw
          go_simp
          try (with_reducible rfl)
        try simp only [Act.put, List.setIfInBounds_toArray, List.set_cons_zero, List.set_cons_succ]
        refine wpAnyH_take (i := 6) (oi := ⟨_, _, _, _, _, _⟩) (v := ?_) rfl (by kernel_rfl) (by kernel_rfl) (by kernel_rfl) (fun _ _ _ h => h) (Or.inl ⟨by rfl, ?_⟩) (by assumption) ?_
        rotate_left
        · intro u hSw
          go_simp
          try (with_reducible rfl)
        try simp only [Act.put, List.setIfInBounds_toArray, List.set_cons_zero, List.set_cons_succ]
        refine wpAnyH_take (i := 7) (oi := ⟨_, _, _, _, _, _⟩) (v := ?_) rfl (by kernel_rfl) (by kernel_rfl) (by kernel_rfl) (fun _ _ _ h => h) (Or.inl ⟨by rfl, ?_⟩) (by assumption) ?_
        rotate_left
        · intro u hSw
          go_simp
          try (with_reducible rfl)
        try simp only [Act.put, List.setIfInBounds_toArray, List.set_cons_zero, List.set_cons_succ]
        refine wpAnyH_take (i := 8) (oi := ⟨_, _, _, _, _, _⟩) (v := ?_) rfl (by kernel_rfl) (by kernel_rfl) (by kernel_rfl) (fun _ _ _ h => h) (Or.inl ⟨by rfl, ?_⟩) (by assumption) ?_
        rotate_left
        · intro u hSw
          go_simp
          try (with_reducible rfl)
        try simp only [Act.put, List.setIfInBounds_toArray, List.set_cons_zero, List.set_cons_succ]
        refine wpAnyH_take (i := 9) (oi := ⟨_, _, _, _, _, _⟩) (v := ?_) rfl (by kernel_rfl) (by kernel_rfl) (by kernel_rfl) (fun _ _ _ h => h) (Or.inl ⟨by rfl, ?_⟩) (by assumption) ?_
        rotate_left
        · intro u hSw
          go_simp
          try (with_reducible rfl)
        try simp only [Act.put, List.setIfInBounds_toArray, List.set_cons_zero, List.set_cons_succ]
        refine wpAnyH_take (i := 10) (oi := ⟨_, _, _, _, _, _⟩) (v := ?_) rfl (by kernel_rfl) (by kernel_rfl) (by kernel_rfl) (fun _ _ _ h => h) (Or.inl ⟨by rfl, ?_⟩) (by assumption) ?_
        rotate_left
        · intro u hSw
          go_simp
          try (with_reducible rfl)
        try simp only [Act.put, List.setIfInBounds_toArray, List.set_cons_zero, List.set_cons_succ]
        refine wpAnyH_ready (rs := [5]) (by kernel_rfl) (by simp) ?_
        refine AllReadyH.cons (o := ⟨_, _, _, _, _, _⟩) rfl (fun K hK => ?_) AllReadyH.nil
        go_simp
        refine (ih _ _ p cap (ls.take p) _ _ (by first | exact hx1 | rfl | exact hwd) (by omega) hF1).mono ?_; rintro e u1 ⟨rfl, hu1⟩; have hsu1 := hu1.size; simp at hsu1; have hH1 : Below V.heap.size V u1 := ((Below.refl V.heap.size V).drew).trans (hu1.mono (by simp))
        go_wp2_with fail
        refine hK.out _ _ trivial (fun hHeld => ?_)
        clear hK K
        try simp only [Act.put, List.setIfInBounds_toArray, List.set_cons_zero, List.set_cons_succ]
        refine wpAnyH_ready (rs := [11]) (by kernel_rfl) (by simp) ?_
        refine AllReadyH.cons (o := ⟨_, _, _, _, _, _⟩) rfl (fun K hK => ?_) AllReadyH.nil
        go_simp
        refine (ih _ _ (n - p) (cap - p) (ls.drop p) _ _ (by first | exact hx1 | rfl | exact hwd) (by omega) (hF2.below hH1)).mono ?_; rintro e u2 ⟨rfl, hu2⟩; have hsu2 := hu2.size; have hH2 : Below V.heap.size V u2 := hH1.trans (hu2.mono (by omega))
        go_wp2_with fail
        refine hK.out _ _ trivial (fun hHeld => ?_)
        clear hK K
        try simp only [Act.put, List.setIfInBounds_toArray, List.set_cons_zero, List.set_cons_succ]
        refine wpAnyH_ready (rs := [12]) (by kernel_rfl) (by simp) ?_
        refine AllReadyH.cons (o := ⟨_, _, _, _, _, _⟩) rfl (fun K hK => ?_) AllReadyH.nil
        go_simp
        refine (refPair_h _ _ _ hX1 hX2).mono ?_; rintro e u3 ⟨rfl, hu3⟩; have hsu3 := hu3.size; have hH3 : Below V.heap.size V u3 := hH2.trans (hu3.mono (by omega)); have S3 := A0.below hH3 (by omega)
        go_wp2_with fail
        refine hK.out _ _ trivial (fun hHeld => ?_)
        clear hK K
        try simp only [Act.put, List.setIfInBounds_toArray, List.set_cons_zero, List.set_cons_succ]
        refine wpAnyH_ready (rs := [13]) (by kernel_rfl) (by simp) ?_
        refine AllReadyH.cons (o := ⟨_, _, _, _, _, _⟩) rfl (fun K hK => ?_) AllReadyH.nil
        refine step_want rfl (wp_store_row 24 (.tmp 4) (.tmp 53) rfl w.heap.size (h8 (pr (tr d (ls.take p)) (tr d (ls.drop p)))) rfl rfl 24 _ S3 (s24h8 (pr_len _ _)) (by rw [h8_size, pr_len]; rfl) (h8_one _) ?_)
        refine hK.out _ _ trivial (fun hHeld => ?_)
        clear hK K
        try simp only [Act.put, List.setIfInBounds_toArray, List.set_cons_zero, List.set_cons_succ]
        refine wpAnyH_done (by kernel_rfl) ?_ _
        go_wp2_with fail
        exact bodyPost_ret (v := .agg (h8 (pr (tr d (ls.take p)) (tr d (ls.drop p))))) (res24 Try.results76 rfl hYX (S3.setRow _)) rfl ⟨rfl, below_setRow (hb0.trans (hH3.mono (by omega))) (Nat.le_refl _) _⟩
set_option maxRecDepth 100000 in
set_option maxHeartbeats 1000000 in
/-- The document's Root. -/
theorem refRoot_any (d : Int) (N : Nat) (sp : Option Addr) (n cap : Nat) (ls : List (List Int)) (w : World) (hS : HS N w sp n cap ls) :
    Calls Try.prog 51 #[.int .i64 d, .slice sp n cap] w fun e w' => e = .returned (.tuple #[.agg (h8 (rR d ls)), .int .i64 (rE d ls.length)]) ∧ Below w.heap.size w w' := by
  have hln := hS.len
  have hbd := refBad_any d n
  rw [← hln.out]
  have hb0 := alloc_bel' w (.cells (h8 Z32) 24)
  have hH0 := hS.here.below hb0
  have A0 := Arr.new w 24 (h8 Z32)
  have hRL := rR_len (d := d) hS.l32
  by_cases h : rE d n = 0
  · have e1 : rR d ls = tr d.toNat ls := by unfold rR; rw [← hln.out, if_pos h]
    have hd : 0 ≤ d ∧ d ≤ 16 := by
      unfold rE at h
      by_cases h2 : 0 ≤ d ∧ d ≤ 16
      · exact h2
      · rw [if_neg h2] at h; cases h
    have hr := refroot_any d.toNat w.heap.size sp n cap ls (w.alloc (.cells (h8 Z32) 24)) d (by omega) (by omega) hH0
    rw [← e1] at hr
    rw [h] at hbd ⊢
    clear e1 h
    generalize rR d ls = R at *
    rw [h8_Z] at hr hb0 A0
    clear hH0
    replace hr := Hid.mk' hr
    go_enter Try.func51, Try.ntmps51
    go_wp2_with (first
      | (go_at_call 75; go_must (refine (hbd _).mono ?_; rintro e w1 ⟨rfl, rfl⟩))
      | (go_at_call 76; go_must (refine hr.out.mono ?_; rintro e w2 ⟨rfl, hb2⟩; have S2 := A0.below hb2 (by simp)))
      | (refine st24 (by rfl) _ _ (by rfl) w.heap.size R Z32 (by rfl) (by rfl) hRL Z32_len S2 ?_))
    exact bodyPost_ret (v := .tuple #[.agg (h8 R), .int .i64 0]) (resP Try.results51 rfl rfl hRL (S2.setRow _)) rfl ⟨rfl, below_setRow (hb0.trans (hb2.mono (by simp))) (Nat.le_refl _) _⟩
  · have e1 : rR d ls = Z32 := by unfold rR; rw [← hln.out, if_neg h]
    rw [e1]
    generalize rE d n = c at *
    have hc : (c != 0) = true := by simpa using h
    rw [h8_Z] at hb0 A0
    clear hH0
    go_enter Try.func51, Try.ntmps51
    go_wp2_with (first
      | (go_at_call 75; go_must (refine (hbd _).mono ?_; rintro e w1 ⟨rfl, rfl⟩))
      | (refine st24n (by rfl) _ _ (by rfl) w w.heap.size rfl (by rfl) Z32 (by rfl) (by rfl) Z32_len ?_))
    exact bodyPost_ret (v := .tuple #[.agg (h8 Z32), .int .i64 c]) (resP Try.results51 rfl rfl Z32_len (Arr.new w 24 _)) rfl ⟨rfl, alloc_bel' w _⟩
end Go.Proofs.Ytlebojbfcolkhaa
