/- Mm, Mn. -/
import Derived.Test.YtlebojbfcolkhaaMl
/- Layer merkle: build. -/
namespace Go.Proofs.Ytlebojbfcolkhaa
open Go.RowKit Go.Shelf
set_option maxRecDepth 100000
set_option linter.unusedVariables false
set_option linter.unusedSimpArgs false

/-- Levels that nothing waits at. -/
def zz : Array Value := arr 544 fun _ => .int .u8 0
theorem zz_size : zz.size = 544 := arr_size _ _
theorem zz_get {t : Nat} (h : t < 544) : zz[t]? = some (.int .u8 0) := arr_get h
theorem bat_Z (j : Nat) : bat Z32 j = 0 := by
  unfold bat Z32
  rw [List.getD_eq_getElem?_getD, List.getElem?_replicate]
  split <;> rfl
theorem lv_new {w : World} {g ty : Nat} (h : Arr w g ty zz) : LV w g (fun _ => Z32) := by
  refine ⟨fun k hk j v hv => ?_, fun _ => Z32_len, fun j hj => ⟨?_, h.frozen _⟩⟩
  · have hj : j < 32 := by
      have := (List.getElem?_eq_some_iff.1 hv).1
      rw [by8_len, Z32_len] at this; exact this
    rw [h.cell, zz_get (by omega), ← hv, by8_get (by rw [Z32_len]; exact hj), bat_Z]
  · rw [h.cell, zz_get (by omega)]; rfl
theorem zero72 : (Try.prog.info? 157).map (·.zero) = some (some (.agg zz)) := by kernel_rfl
theorem zeroValue72 (w : World) : (zeroValue 157).run Try.prog w = .ok (.agg zz) w := by
  have h := zero72
  cases hq : Try.prog.info? 157 with
  | none => rw [hq] at h; cases h
  | some i =>
    rw [hq] at h
    have hz : i.zero = some (.agg zz) := by simpa using h
    simp [zeroValue, typeInfo, hq, hz]
theorem cells_zz : (Value.agg zz).cells = zz := rfl

set_option maxRecDepth 100000 in
set_option maxHeartbeats 1000000 in
theorem build_any (d N : Nat) (sp : Option Addr) (n cap : Nat) (ls : List (List Int)) (w : World) (hd : d ≤ 16) (hS : HS N w sp n cap ls) (hn : n ≤ 2 ^ d) :
    Calls Try.prog 89 #[.int .i64 d, .slice sp n cap, .func (Fn.func 90) #[] #[]] w fun e w' => e = .returned (.agg (h8 (tr d ls))) ∧ Below w.heap.size w w' := by
  have hS := hS.here
  have hl := hS.len
  have hsm := hS.small
  have h16 := pow16 hd
  have hn16 : n ≤ 65536 := by omega
  clear h16
  have hwd := width_any d hd
  obtain ⟨p, hp⟩ : ∃ p : Nat, p = 2 ^ d := ⟨_, rfl⟩
  rw [← hp] at hwd hn
  replace hp := Hid.mk' hp
  have hz72 := zeroValue72
  have A0 := (Arr.new w 24 (h8 Z32)).alloc (.cells zz 157)
  have A1 := Arr.new (w.alloc (.cells (h8 Z32) 24)) 157 zz
  rw [World.size_alloc] at A1
  have hb0 : Below w.heap.size w ((w.alloc (.cells (h8 Z32) 24)).alloc (.cells zz 157)) := (alloc_bel' w _).alloc (by simp) _
  have L0 := lv_new A1
  have hl32 := hS.l32
  go_enter Try.func89, Try.ntmps89
  go_wp2_with fail

  go_loopw [12] (fun q wr => ∃ (j : Nat) (W : Nat → List Int), q = .int .i64 (j : Int) ∧ j ≤ n ∧ Below w.heap.size w wr ∧ w.heap.size + 2 ≤ wr.heap.size ∧ Arr wr w.heap.size 24 (h8 Z32) ∧ LV wr (w.heap.size + 1) W ∧ Hid (Wt ls j W))
    (fun q _ => n - (intOf q).toNat)
  case atStart => exact ⟨0, fun _ => Z32, rfl, by omega, hb0, by simp, A0, L0, Hid.mk' (wt_zero ls _)⟩
  case round =>
    clear A0 A1 hb0 L0 hz72
    obtain ⟨j, W, rfl, hj, hbl, hsz, R0, R1, hW⟩ := hrel
    by_cases hlt : j < n
    · have hI : (j : Int) < n := by omega
      have hSr := hS.below hbl
      obtain ⟨g, off, rfl, hgN, hR⟩ := hSr.at0 (by omega)
      obtain ⟨X, hX⟩ : ∃ X, ls[j]? = some X := ⟨ls[j]'(by rw [← hl.out]; exact hlt), List.getElem?_eq_getElem _⟩
      have hX32 := hl32 X (List.mem_of_getElem? hX)
      have hRX := hR j X hX
      have X1 := Arr.new wr 24 (h8 X)
      have R0' := R0.alloc (.cells (h8 X) 24)
      have hbX := hbl.alloc (by omega) (.cells (h8 X) 24)
      have R1' := R1.below (alloc_bel' wr (.cells (h8 X) 24)) (by omega)
      replace hX := Hid.mk' hX
      go_wp2_with (first
        | (refine ld24 (by rfl) _ (by rfl) g (off + j * 32) (by rfl) X hX32 hRX ?_)
        | (refine st24n (by rfl) _ _ (by rfl) wr wr.heap.size rfl (by rfl) X (by rfl) (by rfl) hX32 ?_)
        | (refine ld24 (by rfl) _ (by rfl) wr.heap.size 0 (by rfl) X hX32 X1.range ?_)
        | (go_at_call 90; go_must (refine (itself_any X hX32 _).mono ?_; rintro e w2 ⟨rfl, hb2⟩; have hs2 := hb2.size; simp at hs2; have S0 := R0'.below hb2 (by simp <;> omega); have S1 := R1'.below hb2 (by simp <;> omega); have hb2w := hbX.trans (hb2.mono (by simp <;> omega))))
        | (go_at_call 107; go_must (refine (put_any ls j X W (w.heap.size + 1) _ hX32 hX.out (by omega) S1 hW.out).mono ?_; rintro e w3 ⟨⟨v3, rfl⟩, w4, k, r, hb4, hk, hr, rfl, hW4⟩; have hs4 := hb4.size)))
      go_roundw
      case rel =>
        have T1 := (S1.below hb4 (by omega)).set hk hr
        exact ⟨j + 1, _, by go_num, by omega, below_setCells (hb2w.trans (hb4.mono (by omega))) (by omega) _ _, by rw [size_setCells]; omega, (S0.below hb4 (by omega)).setCellsOther (by omega) _ _, T1, Hid.mk' hW4⟩
      case measure => simp [intOf]; omega
    · obtain rfl : j = n := by omega
      have hI : ¬ (j : Int) < j := by omega
      by_cases hall : j = p
      · have hallI : ((j : Int) == p) = true := by rw [beq_iff_eq]; omega
        have hW1 : W d = tr d ls := by
          have h := hW.out
          rw [hall, hp.out] at h
          exact wt_all h
        have hRd := R1.rg d (by omega)
        have hd32 := R1.l32 d
        have hdI : (d : Int) < 17 := by omega
        have hd0 : (0 : Int) ≤ d := by omega
        replace hW1 := Hid.mk' hW1
        replace hall := Hid.mk' hall
        go_wp2_with (first
          | (go_at_call 88; go_must (refine (hwd _).mono ?_; rintro e w2 ⟨rfl, rfl⟩))
          | (refine ld24 (by rfl) _ (by rfl) (w.heap.size + 1) (d * 32) (by rfl) (W d) hd32 hRd ?_)
          | (refine st24 (by rfl) _ _ (by rfl) w.heap.size (W d) Z32 (by rfl) (by rfl) hd32 Z32_len R0 ?_))
        exact bodyPost_ret (v := .agg (h8 (W d))) (res24 Try.results89 rfl hd32 (R0.setRow _)) rfl ⟨by rw [hW1.out], below_setRow hbl (Nat.le_refl _) _⟩
      · have hallI : ((j : Int) == p) = false := by rw [beq_eq_false_iff_ne]; omega
        have hlt2 : j < 2 ^ d := by rw [← hp.out]; omega
        have hfill := fill_any ls W (w.heap.size + 1) d j _ hl32 hd R1 hl.out hW.out hlt2
        have ht32 := tr_len d ls hl32
        replace hlt2 := Hid.mk' hlt2
        replace hall := Hid.mk' hall
        go_wp2_with (first
          | (go_at_call 88; go_must (refine (hwd _).mono ?_; rintro e w2 ⟨rfl, rfl⟩))
          | (go_at_call 108; go_must (refine hfill.mono ?_; rintro e w3 ⟨rfl, hb3⟩; have S0 := R0.below hb3 (by omega)))
          | (refine st24 (by rfl) _ _ (by rfl) w.heap.size (tr d ls) Z32 (by rfl) (by rfl) ht32 Z32_len S0 ?_))
        exact bodyPost_ret (v := .agg (h8 (tr d ls))) (res24 Try.results89 rfl ht32 (S0.setRow _)) rfl ⟨rfl, below_setRow (hbl.trans (hb3.mono (by omega))) (Nat.le_refl _) _⟩
end Go.Proofs.Ytlebojbfcolkhaa
/- Layer merkle: Root, Empty, the leaves of a half. -/
namespace Go.Proofs.Ytlebojbfcolkhaa
open Go.RowKit Go.Shelf
set_option maxRecDepth 100000
set_option linter.unusedVariables false
set_option linter.unusedSimpArgs false

/-- Why a tree may not be. -/
def rE (d : Int) (n : Nat) : Int := if 0 ≤ d ∧ d ≤ 16 then (if n ≤ 2 ^ d.toNat then 0 else 4) else 2
/-- A root, or the zero sum. -/
def rR (d : Int) (ls : List (List Int)) : List Int := if rE d ls.length = 0 then tr d.toNat ls else Z32
theorem rR_len {d : Int} {ls : List (List Int)} (h : ∀ x ∈ ls, x.length = 32) : (rR d ls).length = 32 := by
  unfold rR; split
  · exact tr_len _ _ h
  · exact Z32_len
set_option maxRecDepth 100000 in
set_option maxHeartbeats 1000000 in
theorem root_any (d : Int) (N : Nat) (sp : Option Addr) (n cap : Nat) (ls : List (List Int)) (w : World) (hS : HS N w sp n cap ls) :
    Calls Try.prog 71 #[.int .i64 d, .slice sp n cap] w fun e w' => e = .returned (.tuple #[.agg (h8 (rR d ls)), .int .i64 (rE d ls.length)]) ∧ Below w.heap.size w w' := by
  have A0 := Arr.new w 24 (h8 Z32)
  have hb0 := alloc_bel' w (.cells (h8 Z32) 24)
  have hS0 := hS.here.below hb0
  have hsm := hS.small
  have hln := hS.len
  have hmd := mayDepth_any d
  unfold rR rE
  by_cases h1 : 0 ≤ d ∧ d ≤ 16
  · rw [decide_eq_true h1] at hmd
    simp only [if_pos h1]
    obtain ⟨m, rfl⟩ : ∃ m : Nat, d = m := ⟨d.toNat, by omega⟩
    have hm : m ≤ 16 := by omega
    simp only [Int.toNat_natCast]
    have hwd := width_any m hm
    rw [← hln.out]
    by_cases h2 : n ≤ 2 ^ m
    · simp only [if_pos h2, if_true]
      have hbd := fun w hS => build_any m w.heap.size sp n cap ls w hm hS h2
      obtain ⟨p, hp⟩ : ∃ p : Nat, p = 2 ^ m := ⟨_, rfl⟩
      rw [← hp] at hwd h2
      have h3 : ¬ (p : Int) < n := by omega
      have ht32 := tr_len m ls hS.l32
      clear hp
      go_enter Try.func71, Try.ntmps71
      go_wp2_with (first
        | (go_at_call 66; go_must (refine (hmd _).mono ?_; rintro e w2 ⟨rfl, rfl⟩))
        | (go_at_call 88; go_must (refine (hwd _).mono ?_; rintro e w2 ⟨rfl, rfl⟩))
        | (go_at_call 89; go_must (refine (hbd _ (hS0.mono (by simp))).mono ?_; rintro e w3 ⟨rfl, hb3⟩; have S0 := A0.below hb3 (by simp)))
        | (refine st24 (by rfl) _ _ (by rfl) w.heap.size (tr m ls) Z32 (by rfl) (by rfl) ht32 Z32_len S0 ?_))
      exact bodyPost_ret (v := .tuple #[.agg (h8 (tr m ls)), .int .i64 0]) (resP Try.results71 rfl rfl ht32 (S0.setRow _)) rfl ⟨rfl, below_setRow (hb0.trans (hb3.mono (by simp))) (Nat.le_refl _) _⟩
    · simp only [if_neg h2]
      obtain ⟨p, hp⟩ : ∃ p : Nat, p = 2 ^ m := ⟨_, rfl⟩
      rw [← hp] at hwd h2
      have h3 : (p : Int) < n := by omega
      clear hp
      go_enter Try.func71, Try.ntmps71
      go_wp2_with (first
        | (go_at_call 66; go_must (refine (hmd _).mono ?_; rintro e w2 ⟨rfl, rfl⟩))
        | (go_at_call 88; go_must (refine (hwd _).mono ?_; rintro e w2 ⟨rfl, rfl⟩))
        | (refine st24 (by rfl) _ _ (by rfl) w.heap.size Z32 Z32 (by rfl) (by rfl) Z32_len Z32_len A0 ?_))
      exact bodyPost_ret (v := .tuple #[.agg (h8 Z32), .int .i64 4]) (resP Try.results71 rfl rfl Z32_len (A0.setRow _)) rfl ⟨rfl, below_setRow hb0 (Nat.le_refl _) _⟩
  · rw [decide_eq_false h1] at hmd
    simp only [if_neg h1]
    go_enter Try.func71, Try.ntmps71
    go_wp2_with (first
      | (go_at_call 66; go_must (refine (hmd _).mono ?_; rintro e w2 ⟨rfl, rfl⟩))
      | (refine st24 (by rfl) _ _ (by rfl) w.heap.size Z32 Z32 (by rfl) (by rfl) Z32_len Z32_len A0 ?_))
    exact bodyPost_ret (v := .tuple #[.agg (h8 Z32), .int .i64 2]) (resP Try.results71 rfl rfl Z32_len (A0.setRow _)) rfl ⟨rfl, below_setRow hb0 (Nat.le_refl _) _⟩

set_option maxRecDepth 100000 in
set_option maxHeartbeats 1000000 in
/-- The leaves given that stand in the tree number b at level k. -/
theorem half_any (k b N : Nat) (sp : Option Addr) (n cap : Nat) (ls : List (List Int)) (w : World) (hk : k ≤ 16) (hb : b ≤ 131072) (hS : HS N w sp n cap ls) :
    Calls Try.prog 92 #[.slice sp n cap, .int .i64 k, .int .i64 b] w fun e w' => ∃ sp' n' cap', e = .returned (.slice sp' n' cap') ∧ w' = w ∧ HS N w sp' n' cap' ((ls.drop (b * 2 ^ k)).take (2 ^ k)) := by
  have hsm := hS.small
  have hln := hS.len
  have hle := hS.le
  have hbig := hS.big
  have hnil := hS.nil
  have hwd := width_any k hk
  have h16 := pow16 hk
  have hp0 : 0 < 2 ^ k := Nat.pow_pos (by omega)
  obtain ⟨p, hp⟩ : ∃ p : Nat, p = 2 ^ k := ⟨_, rfl⟩
  rw [← hp] at hwd h16 hp0 ⊢
  clear hp
  have hbp : b * p ≤ 131072 * 65536 := Nat.mul_le_mul hb h16
  obtain ⟨q, hq⟩ : ∃ q : Nat, q = b * p := ⟨_, rfl⟩
  have hqI : (b : Int) * (p : Int) = q := by rw [hq]; exact (Int.natCast_mul b p).symm
  rw [← hq] at hbp ⊢
  clear hq
  by_cases h1 : q < n
  · obtain ⟨g, off, rfl, hgN, hR⟩ := hS.at0 (by omega)
    have h1I : ¬ (n : Int) < q := by omega
    have h1N : ¬ n < q := by omega
    by_cases h2 : n < q + p
    · have h2I : (n : Int) < (q : Int) + p := by omega
      go_enter Try.func92, Try.ntmps92
      go_wp2_with (first
        | (go_at_call 88; go_must (refine (hwd _).mono ?_; rintro e w2 ⟨rfl, rfl⟩)))
      go_ret
      refine ⟨_, _, _, rfl, rfl, ?_⟩
      have h := hS.part q (n - q) (cap - q) (by omega) (by omega) (by omega) (by omega)
      rw [List.take_of_length_le (by rw [List.length_drop, ← hln.out]; omega)] at h
      rw [List.take_of_length_le (by rw [List.length_drop, ← hln.out]; omega)]
      exact h
    · have h2I : ¬ (n : Int) < (q : Int) + p := by omega
      go_enter Try.func92, Try.ntmps92
      go_wp2_with (first
        | (go_at_call 88; go_must (refine (hwd _).mono ?_; rintro e w2 ⟨rfl, rfl⟩)))
      go_ret
      refine ⟨_, _, _, rfl, rfl, ?_⟩
      have h := hS.part q p (cap - q) (by omega) (by omega) (by omega) (by omega)
      rw [Nat.add_sub_cancel_left]
      exact h
  · have hnone : (ls.drop q).take p = [] := by rw [List.drop_eq_nil_of_le (by rw [← hln.out]; omega)]; exact List.take_nil
    have hz : ∀ (sp' : Option Addr) (c : Nat), c ≤ cap → (sp' = none → c = 0) → HS N w sp' 0 c [] := fun sp' c hc h0 => ⟨rfl, fun h => ⟨rfl, h0 h⟩, by omega, by omega, by omega, fun h => absurd h (by omega), fun X h => by cases h⟩
    rw [hnone]
    clear hnone
    replace hz := Hid.mk' hz
    have h3I : (n : Int) < (n : Int) + p := by omega
    by_cases h4 : n < q
    · have h4I : (n : Int) < q := by omega
      cases sp with
      | none =>
        obtain ⟨h4, h5⟩ := hnil rfl
        subst h4 h5
        go_enter Try.func92, Try.ntmps92
        go_wp2_with (first
          | (go_at_call 88; go_must (refine (hwd _).mono ?_; rintro e w2 ⟨rfl, rfl⟩)))
        go_ret
        refine ⟨_, _, _, rfl, rfl, ?_⟩
        first | exact hz.out _ _ (by omega) (fun _ => rfl) | exact hz.out _ _ (by omega) (fun h => by cases h) | (rw [Nat.sub_self]; exact hz.out _ _ (by omega) (fun h => by cases h))
      | some ad =>
        by_cases hc : cap = n
        · subst hc
          go_enter Try.func92, Try.ntmps92
          go_wp2_with (first
            | (go_at_call 88; go_must (refine (hwd _).mono ?_; rintro e w2 ⟨rfl, rfl⟩)))
          go_ret
          refine ⟨_, _, _, rfl, rfl, ?_⟩
          first | exact hz.out _ _ (by omega) (fun _ => rfl) | exact hz.out _ _ (by omega) (fun h => by cases h) | (rw [Nat.sub_self]; exact hz.out _ _ (by omega) (fun h => by cases h))
        · have hc1 : ¬ n = cap := fun h => hc h.symm
          go_enter Try.func92, Try.ntmps92
          go_wp2_with (first
            | (go_at_call 88; go_must (refine (hwd _).mono ?_; rintro e w2 ⟨rfl, rfl⟩)))
          go_ret
          refine ⟨_, _, _, rfl, rfl, ?_⟩
          first | exact hz.out _ _ (by omega) (fun _ => rfl) | exact hz.out _ _ (by omega) (fun h => by cases h) | (rw [Nat.sub_self]; exact hz.out _ _ (by omega) (fun h => by cases h))
    · obtain rfl : q = n := by omega
      have h4I : ¬ (q : Int) < q := by omega
      cases sp with
      | none =>
        obtain ⟨h4, h5⟩ := hnil rfl
        subst h4 h5
        go_enter Try.func92, Try.ntmps92
        go_wp2_with (first
          | (go_at_call 88; go_must (refine (hwd _).mono ?_; rintro e w2 ⟨rfl, rfl⟩)))
        go_ret
        refine ⟨_, _, _, rfl, rfl, ?_⟩
        first | exact hz.out _ _ (by omega) (fun _ => rfl) | exact hz.out _ _ (by omega) (fun h => by cases h) | (rw [Nat.sub_self]; exact hz.out _ _ (by omega) (fun h => by cases h))
      | some ad =>
        by_cases hc : cap = q
        · subst hc
          go_enter Try.func92, Try.ntmps92
          go_wp2_with (first
            | (go_at_call 88; go_must (refine (hwd _).mono ?_; rintro e w2 ⟨rfl, rfl⟩)))
          go_ret
          refine ⟨_, _, _, rfl, rfl, ?_⟩
          first | exact hz.out _ _ (by omega) (fun _ => rfl) | exact hz.out _ _ (by omega) (fun h => by cases h) | (rw [Nat.sub_self]; exact hz.out _ _ (by omega) (fun h => by cases h))
        · have hc1 : ¬ q = cap := fun h => hc h.symm
          go_enter Try.func92, Try.ntmps92
          go_wp2_with (first
            | (go_at_call 88; go_must (refine (hwd _).mono ?_; rintro e w2 ⟨rfl, rfl⟩)))
          go_ret
          refine ⟨_, _, _, rfl, rfl, ?_⟩
          first | exact hz.out _ _ (by omega) (fun _ => rfl) | exact hz.out _ _ (by omega) (fun h => by cases h) | (rw [Nat.sub_self]; exact hz.out _ _ (by omega) (fun h => by cases h))
end Go.Proofs.Ytlebojbfcolkhaa
