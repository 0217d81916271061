import Derived.Test.YtfmjapopnomkkaaTv
namespace Go.Proofs.Ytfmjapopnomkkaa
open Go.RowKit

theorem conv_hexN (k : Nat) (hk : k < 16) (w : World) : (convert 5 9 (.int .u8 (hexc k))).run Try.prog w = .ok (.string (strOfNums [hexc k])) w := by
  rcases (by omega : k = 0 ∨ k = 1 ∨ k = 2 ∨ k = 3 ∨ k = 4 ∨ k = 5 ∨ k = 6 ∨ k = 7 ∨ k = 8 ∨ k = 9 ∨ k = 10 ∨ k = 11 ∨ k = 12 ∨ k = 13 ∨ k = 14 ∨ k = 15) with rfl | rfl | rfl | rfl | rfl | rfl | rfl | rfl | rfl | rfl | rfl | rfl | rfl | rfl | rfl | rfl <;> rfl
theorem conv_hex (v : Int) (h0 : 0 ≤ v) (h1 : v < 16) (w : World) : (convert 5 9 (.int .u8 (hexc v))).run Try.prog w = .ok (.string (strOfNums [hexc v])) w := by
  obtain ⟨k, rfl⟩ : ∃ k : Nat, v = k := ⟨v.toNat, by omega⟩
  exact conv_hexN k (by omega) w

theorem strOf_app (a b : List Int) : strOfNums a ++ strOfNums b = strOfNums (a ++ b) := by
  apply ByteArray.ext
  simp [strOfNums, ByteArray.data_append]
theorem hex_two (H : Nat → Int) (k : Nat) : (List.range (2 * k)).map (hexAt H) ++ [hexc (H k / 16), hexc (H k % 16)] = (List.range (2 * (k + 1))).map (hexAt H) := by
  have e0 : hexAt H (2 * k) = hexc (H k / 16) := by simp [hexAt]
  have e1 : hexAt H (2 * k + 1) = hexc (H k % 16) := by simp [hexAt, show (2 * k + 1) % 2 = 1 by omega, show (2 * k + 1) / 2 = k by omega]
  rw [show 2 * (k + 1) = 2 * k + 1 + 1 by omega, List.range_succ, List.range_succ]
  simp [e0, e1]
theorem wrap8_tdiv {x : Int} (h0 : 0 ≤ x) (h1 : x ≤ 255) : IntKind.u8.wrap (x.tdiv 16) = x / 16 := by
  rw [Int.tdiv_eq_ediv_of_nonneg h0]
  simp only [IntKind.wrap, IntKind.bits, IntKind.signed]; simp; omega
theorem wrap8_tmod {x : Int} (h0 : 0 ≤ x) : IntKind.u8.wrap (x.tmod 16) = x % 16 := by
  rw [Int.tmod_eq_emod_of_nonneg h0]
  simp only [IntKind.wrap, IntKind.bits, IntKind.signed]; simp; omega

set_option maxHeartbeats 1000000 in
theorem refHex_any (C0 : Array Value) (H : Nat → Int) (w : World) (hC0 : ∀ t, t < 32 → C0[t]? = some (.int .u8 (H t))) (hH : ∀ t, t < 32 → 0 ≤ H t ∧ H t ≤ 255) :
    Calls Try.prog 23 #[.agg C0] w fun e w' => e = .returned (.string (hexS H)) ∧ Below w.heap.size w w' := by
  go_enter Try.func23, Try.ntmps23
  go_wp2
  go_loopw [3, 4] (fun s i wr => ∃ (k n : Nat), k ≤ 32 ∧ i = .int .i64 k ∧ s = .string (strOfNums ((List.range (2 * k)).map (hexAt H))) ∧ wr = (w.alloc (.cells C0 24)).drewN n)
    (fun _ i _ => 32 - (intOf i).toNat)
  case atStart => exact ⟨0, 0, by omega, rfl, rfl, rfl⟩
  case round =>
    obtain ⟨k, nn, hk, rfl, rfl, hw⟩ := hrel
    by_cases hlt : k < 32
    · have h3 : (k : Int) < 32 := by omega
      have h4 : (0 : Int) ≤ k := by omega
      have c1 : wr.cell? ⟨w.heap.size, k, none⟩ = some (.int .u8 (H k)) := by rw [hw]; exact ((Arr.new w 24 C0).cell k).trans (hC0 k hlt)
      obtain ⟨b0, b1⟩ := hH k hlt
      have q1 : 0 ≤ H k / 16 := by omega
      have q2 : H k / 16 < 16 := by omega
      have q3 : 0 ≤ H k % 16 := by omega
      have q4 : H k % 16 < 16 := by omega
      have x1 := index_hex (H k / 16) q1 q2
      have x2 := index_hex (H k % 16) q3 q4
      have y1 := conv_hex (H k / 16) q1 q2
      have y2 := conv_hex (H k % 16) q3 q4
      simp only [hexd] at x1 x2
      have d1 : IntKind.u8.wrap ((H k).tdiv 16) = H k / 16 := wrap8_tdiv b0 b1
      have d2 : IntKind.u8.wrap ((H k).tmod 16) = H k % 16 := wrap8_tmod b0
      have d3 : (H k).tmod 16 = H k % 16 := Int.tmod_eq_emod_of_nonneg b0
      have z1 : (strOfNums [hexc (H k / 16)]).size = 1 := strOfNums_size _
      have z2 : (strOfNums [hexc (H k % 16)]).size = 1 := strOfNums_size _
      have z3 : (strOfNums ((List.range (2 * k)).map (hexAt H))).size = 2 * k := by rw [strOfNums_size]; simp
      have z4 : (strOfNums [hexc (H k / 16), hexc (H k % 16)]).size = 2 := strOfNums_size _
      have j1 : strOfNums [hexc (H k / 16)] ++ strOfNums [hexc (H k % 16)] = strOfNums [hexc (H k / 16), hexc (H k % 16)] := strOf_app _ _
      have j2 : strOfNums ((List.range (2 * k)).map (hexAt H)) ++ strOfNums [hexc (H k / 16), hexc (H k % 16)] = strOfNums ((List.range (2 * (k + 1))).map (hexAt H)) := by rw [strOf_app, hex_two]
      have s1 : ¬ (1 + 1 > 9223372036854775807) := by omega
      have s2 : ¬ (2 * k + 2 > 9223372036854775807) := by omega
      have HW := Hid.mk' hw
      clear hw
      go_wp2
      go_quiet (fail)
      go_wp2
      go_roundw
      case rel => exact ⟨k + 1, nn + nq, by omega, by go_num, rfl, by rw [HW.out, World.drewN_drewN]⟩
      case measure => simp [intOf]; omega
    · obtain rfl : k = 32 := by omega
      subst hw
      go_wp2
      go_ret
      exact ⟨rfl, below_drewN ((Below.refl _ _).alloc (Nat.le_refl _) _) _⟩

def upart (s : ByteArray) (k t : Nat) : Int := if 2 * t + 2 ≤ k then unB s t else if 2 * t + 1 = k then dval (sc s (2 * t)) else 0
theorem upart_other {s : ByteArray} {k t : Nat} (h : t ≠ k / 2) : upart s (k + 1) t = upart s k t := by
  unfold upart
  by_cases h1 : 2 * t + 2 ≤ k
  · rw [if_pos h1, if_pos (by omega)]
  · rw [if_neg h1, if_neg (by omega), if_neg (by omega), if_neg (by omega)]
theorem upart_val (s : ByteArray) (k : Nat) : upart s k (k / 2) * 16 % 256 + dval (sc s k) = upart s (k + 1) (k / 2) := by
  have hr := dval_range (sc s k)
  have hr0 := dval_range (sc s (2 * (k / 2)))
  by_cases he : k % 2 = 0
  · have e : 2 * (k / 2) = k := by omega
    have e0 : upart s k (k / 2) = 0 := by unfold upart; rw [if_neg (by omega), if_neg (by omega)]
    have e1 : upart s (k + 1) (k / 2) = dval (sc s k) := by unfold upart; rw [if_neg (by omega), if_pos (by omega), e]
    rw [e0, e1]; omega
  · have e : 2 * (k / 2) + 1 = k := by omega
    have e0 : upart s k (k / 2) = dval (sc s (2 * (k / 2))) := by unfold upart; rw [if_neg (by omega), if_pos (by omega)]
    have e1 : upart s (k + 1) (k / 2) = 16 * dval (sc s (2 * (k / 2))) + dval (sc s k) := by unfold upart; rw [if_pos (by omega), unB, e]
    rw [e0, e1]; omega
theorem upart_step {C : Array Value} {s : ByteArray} {k : Nat} (hs : C.size = 32) (h : ∀ t, t < 32 → C[t]? = some (.int .u8 (upart s k t))) :
    ∀ t, t < 32 → (C.setIfInBounds (k / 2) (.int .u8 (upart s k (k / 2) * 16 % 256 + dval (sc s k))))[t]? = some (.int .u8 (upart s (k + 1) t)) := by
  intro t ht
  rw [upart_val, Array.getElem?_setIfInBounds]
  by_cases e : k / 2 = t
  · subst e; simp [hs, ht]
  · rw [if_neg e, h t ht, upart_other (Ne.symm e)]
theorem res17 {w : World} {tmps : Array Value} {C : Array Value} {g : Nat} {e : Int} (hp : tmps.getD 2 undef = .pointer (some ⟨g, 0, none⟩)) (he : tmps.getD 3 undef = .int .i64 e) (hA : Arr w g 24 C) (hs : C.size = 32) :
    (results Try.f17 tmps).run Try.prog w = .ok (.tuple #[.agg C, .int .i64 e]) w := by
  have hi : (Try.prog.info? 24).map (·.size) = some C.size := by rw [hs]; exact size24
  rw [results_cell_tmp Try.results17, hp, he]
  simp only [asAddr, Sem.run_pure, Result.andThen_ok, run_loadVar_row w g 24 24 C (0, 0) _ hA Try.underlying24 rfl hi]

set_option maxHeartbeats 1000000 in
theorem refUnhex_any (s : ByteArray) (w : World) (hs : s.size ≤ 140737488355328) :
    Calls Try.prog 17 #[.string s] w fun e w' => e = .returned (unhexV s) ∧ Below w.heap.size w w' := by
  have hZ0 : Arr ((w.alloc (.cells (u8s 32 fun _ => 0) 24)).alloc (.cells (u8s 32 fun _ => 0) 24)) w.heap.size 24 (u8s 32 fun _ => 0) := (Arr.new _ _ _).alloc _
  have hC0 : Arr ((w.alloc (.cells (u8s 32 fun _ => 0) 24)).alloc (.cells (u8s 32 fun _ => 0) 24)) (w.heap.size + 1) 24 (u8s 32 fun _ => 0) := by simpa using Arr.new (w.alloc (.cells (u8s 32 fun _ => 0) 24)) 24 (u8s 32 fun _ => 0)
  have hB0 : Below w.heap.size w ((w.alloc (.cells (u8s 32 fun _ => 0) 24)).alloc (.cells (u8s 32 fun _ => 0) 24)) := ((Below.refl _ _).alloc (Nat.le_refl _) _).alloc (by simp) _
  have hsI : (s.size : Int) ≤ 140737488355328 := by omega
  by_cases h64 : s.size = 64
  · have h64I : (s.size : Int) = 64 := by omega
    go_enter Try.func17, Try.ntmps17
    go_wp2
    rw [zero24] at hZ0 hC0 hB0
    go_loopw [5] (fun i wr => ∃ (k : Nat) (C Z : Array Value), k ≤ 64 ∧ i = .int .i64 k ∧ Arr wr w.heap.size 24 Z ∧ Z.size = 32 ∧ Arr wr (w.heap.size + 1) 24 C ∧ C.size = 32 ∧ (∀ t, t < 32 → C[t]? = some (.int .u8 (upart s k t))) ∧ (∀ i, i < k → dok (sc s i) = true) ∧ Below w.heap.size w wr)
      (fun i _ => 64 - (intOf i).toNat)
    case atStart => exact ⟨0, _, _, by omega, rfl, hZ0, rfl, hC0, rfl, fun t h => by (rw [← zero24, u8s_get h]; unfold upart; rw [if_neg (by omega), if_neg (by omega)]), fun t h => by omega, hB0⟩
    case round =>
      clear hZ0 hC0 hB0
      obtain ⟨k, C, Z, hk, rfl, hZ, hZs, hC, hCs, hw, hd, hbl⟩ := hrel
      have HW := Hid.mk' hw
      have HD := Hid.mk' hd
      clear hw hd
      by_cases hlt : k < 64
      · have h3 : (k : Int) < 64 := by omega
        have h4 : (0 : Int) ≤ k := by omega
        have x0 := index_str s k (k : Int) rfl (by omega)
        by_cases d0 : dok (sc s k) = true
        · have hrd : refD (sc s k) = dval (sc s k) := by unfold refD; rw [if_pos d0]
          have hr := dval_range (sc s k)
          obtain ⟨hr1, hr2⟩ := hr
          have c0 : wr.cell? ⟨w.heap.size + 1, k / 2, none⟩ = some (.int .u8 (upart s k (k / 2))) := (hC.cell _).trans (HW.out _ (by omega))
          have hf1 := hC.frozen (k / 2)
          go_wp2_with (go_at_call 36; go_must (refine (digit_any (sc s _) _).mono ?_; rintro e w' ⟨rfl, rfl⟩))
          go_roundw
          case rel =>
            exact ⟨k + 1, _, Z, by omega, by go_num, hZ.setOther _ (by simp), hZs, hC.set _ _, by simp [hCs], upart_step hCs HW.out, fun i hi => if e0 : i = k then by rw [e0]; exact d0 else HD.out i (by omega), hbl.setCell (by simp) _⟩
          case measure => simp [intOf]; omega
        · have d0' : dok (sc s k) = false := by simpa using d0
          have hg := good_no (by omega) d0'
          have hrd : refD (sc s k) = -1 := by unfold refD; rw [if_neg d0]
          go_wp2_with (first
            | (go_at_call 36; go_must (refine (digit_any (sc s _) _).mono ?_; rintro e w' ⟨rfl, rfl⟩))
            | (refine wpList_store_arr (by rfl) 24 (.tmp 2) (.tmp 21) (by rfl) w.heap.size (u8s 32 fun _ => 0) (by rfl) (by rfl) 24 _ hZ (s24u8 _) (by rw [hZs, u8s_size]) (u8s_one _ _) ?_))
          exact bodyPost_ret (v := unhexV s) (by rw [unhexV, hg]; exact res17 rfl rfl (hZ.setRow _) (u8s_size _ _)) rfl ⟨rfl, below_setRow hbl (Nat.le_refl _) _⟩
      · obtain rfl : k = 64 := by omega
        have hCe : C = u8s 32 (unB s) := arr_eq hCs (fun t ht => by rw [HW.out t ht]; unfold upart; rw [if_pos (by omega)])
        subst hCe
        have hg := good_yes h64 HD.out
        go_wp2_with (first
          | (refine wpList_load_row (by rfl) 24 (.tmp 4) (by rfl) (w.heap.size + 1) (by rfl) 24 (u8s 32 (unB s)) (0, 0) _ hC Try.underlying24 rfl (s24u8 _) ?_)
          | (refine wpList_store_arr (by rfl) 24 (.tmp 2) (.tmp 33) (by rfl) w.heap.size (u8s 32 (unB s)) (by rfl) (by rfl) 24 _ hZ (s24u8 _) (by rw [hZs, u8s_size]) (u8s_one _ _) ?_))
        exact bodyPost_ret (v := unhexV s) (by rw [unhexV, hg]; exact res17 rfl rfl (hZ.setRow _) (u8s_size _ _)) rfl ⟨rfl, below_setRow hbl (Nat.le_refl _) _⟩
  · have hg : good s = false := by unfold good; simp [h64]
    have h64I : ¬ (s.size : Int) = 64 := by omega
    have h64B : ((s.size : Int) == 64) = false := by simpa using h64I
    go_enter Try.func17, Try.ntmps17
    go_wp2_with (first
      | (refine wpList_load_row (by rfl) 24 (.tmp 4) (by rfl) (w.heap.size + 1) (by rfl) 24 (u8s 32 fun _ => 0) (0, 0) _ hC0 Try.underlying24 rfl (s24u8 _) ?_)
      | (refine wpList_store_arr (by rfl) 24 (.tmp 2) (.tmp 10) (by rfl) w.heap.size (u8s 32 fun _ => 0) (by rfl) (by rfl) 24 _ hZ0 (s24u8 _) (by rfl) (u8s_one _ _) ?_))
    exact bodyPost_ret (v := unhexV s) (by rw [unhexV, hg]; exact res17 rfl rfl (hZ0.setRow _) (u8s_size _ _)) rfl ⟨rfl, below_setRow hB0 (Nat.le_refl _) _⟩
end Go.Proofs.Ytfmjapopnomkkaa
