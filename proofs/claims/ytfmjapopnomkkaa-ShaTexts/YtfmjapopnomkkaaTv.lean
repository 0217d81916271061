import Derived.Test.YtfmjapopnomkkaaTq
namespace Go.Proofs.Ytfmjapopnomkkaa
open Go.RowKit

theorem words_step1 {C : Array Value} {H : Nat → Int} {k : Nat} (hH : ∀ t, t < 32 → 0 ≤ H t ∧ H t ≤ 255) (hk : k < 32) (hs : C.size = 4) (h : ∀ j, j < 4 → C[j]? = some (.int .u64 (wpart H k j))) :
    ∀ j, j < 4 → (C.setIfInBounds (k / 8) (.int .u64 (bits .or .u64 (IntKind.u64.wrap (wpart H k (k / 8) * 256)) (IntKind.u64.wrap (H k)))))[j]? = some (.int .u64 (wpart H (k + 1) j)) := by
  intro j hj
  rw [words_val hH hk, Array.getElem?_setIfInBounds]
  by_cases e : k / 8 = j
  · subst e; simp [hs, hj]
  · rw [if_neg e, h j hj, words_other (Ne.symm e)]
theorem index_hexI (k : Nat) (h1 : k < 16) (w : World) : (Instr.index 9 (.string hexd) (.int .i64 (k : Int))).run Try.prog w = .ok (.int .u8 (hexc k)) w := by
  have hs : hexd.size = 16 := rfl
  rw [run_index_string w 9 hexd .i64 k Try.underlying9, dif_pos (by rw [hs]; omega)]
  rw [show ((hexd[(k : Int).toNat]'(by rw [hs]; omega)).toNat : Int) = hexc k from hexd_get k (by omega) (by rw [hs]; omega)]

set_option maxHeartbeats 1000000 in
theorem refWords_any (C0 : Array Value) (H : Nat → Int) (w : World) (hC0 : ∀ t, t < 32 → C0[t]? = some (.int .u8 (H t))) (hH : ∀ t, t < 32 → 0 ≤ H t ∧ H t ≤ 255) :
    Calls Try.prog 19 #[.agg C0] w fun e w' => e = .returned (.agg (wordsOf H)) ∧ Below w.heap.size w w' := by
  go_enter Try.func19, Try.ntmps19
  go_wp2
  go_loopw [4] (fun i wr => ∃ (k : Nat) (C Z : Array Value), k ≤ 32 ∧ i = .int .i64 k ∧ Arr wr w.heap.size 24 C0 ∧ Arr wr (w.heap.size + 1) 30 Z ∧ Z.size = 4 ∧ Arr wr (w.heap.size + 1 + 1) 30 C ∧ C.size = 4 ∧ (∀ j, j < 4 → C[j]? = some (.int .u64 (wpart H k j))) ∧ Below w.heap.size w wr)
    (fun i _ => 32 - (intOf i).toNat)
  case atStart => exact ⟨0, _, _, by omega, rfl, ((Arr.new w 24 C0).alloc _).alloc _, by simpa using (Arr.new (w.alloc _) 30 _).alloc _, rfl, by simpa using Arr.new ((w.alloc _).alloc _) 30 _, rfl, fun j hj => by (match j, hj with | 0, _ => rfl | 1, _ => rfl | 2, _ => rfl | 3, _ => rfl), (((Below.refl _ _).alloc (by simp) _).alloc (by simp) _).alloc (by simp; omega) _⟩
  case round =>
    obtain ⟨k, C, Z, hk, rfl, hX, hZ, hZs, hC, hCs, hw, hbl⟩ := hrel
    have HW := Hid.mk' hw
    clear hw
    by_cases hlt : k < 32
    · have h3 : (k : Int) < 32 := by omega
      have h4 : (0 : Int) ≤ k := by omega
      have h5 : (k : Int) / 8 < 4 := by omega
      have h6 : (0 : Int) ≤ (k : Int) / 8 := by omega
      have c1 : wr.cell? ⟨w.heap.size, k, none⟩ = some (.int .u8 (H k)) := (hX.cell _).trans (hC0 _ hlt)
      have c0 : wr.cell? ⟨w.heap.size + 1 + 1, k / 8, none⟩ = some (.int .u64 (wpart H k (k / 8))) := (hC.cell _).trans (HW.out _ (by omega))
      have f0 := hC.frozen (k / 8)
      go_wp2
      go_region
      all_goals go_wp2
      all_goals
        go_roundw
        case rel =>
          exact ⟨k + 1, _, Z, by omega, by go_num, (hX.setOther _ (by simp; omega)).drew, (hZ.setOther _ (by simp)).drew, hZs, (hC.set _ _).drew, by simp [hCs], words_step1 hH hlt hCs HW.out, (hbl.setCell (by simp; omega) _).drew⟩
        case measure => simp [intOf]; omega
    · obtain rfl : k = 32 := by omega
      have hCe : C = wordsOf H := arr_eq hCs (fun j hj => by rw [HW.out j hj]; unfold wpart; rw [show min (32 - 8 * j) 8 = 8 by omega])
      subst hCe
      go_wp2_with (first
        | (refine wpList_load_row (by rfl) 30 (.tmp 3) (by rfl) (w.heap.size + 1 + 1) (by rfl) 30 (wordsOf H) (0, 0) _ hC Try.underlying30 rfl (s30u _) ?_)
        | (refine wpList_store_arr (by rfl) 30 (.tmp 2) (.tmp 22) (by rfl) (w.heap.size + 1) (wordsOf H) (by rfl) (by rfl) 30 _ hZ (s30u _) (by rw [hZs]; exact (u64s_size _ _).symm) (u64s_one _ _) ?_))
      exact bodyPost_ret (v := .agg (wordsOf H)) (results_cell_row Try.results19 _ _ (w.heap.size + 1) 30 _ (0, 0) _ rfl (hZ.setRow _) Try.underlying30 rfl (s30u _)) rfl ⟨rfl, below_setRow hbl (by omega) _⟩

set_option maxHeartbeats 1000000 in
theorem refFrom_any (C0 : Array Value) (W : Nat → Int) (w : World) (hC0 : ∀ t, t < 4 → C0[t]? = some (.int .u64 (W t))) :
    Calls Try.prog 21 #[.agg C0] w fun e w' => e = .returned (.agg (u8s 32 (fromB W))) ∧ Below w.heap.size w w' := by
  go_enter Try.func21, Try.ntmps21
  go_wp2
  go_loopw [4] (fun i wr => ∃ (k : Nat) (C Z : Array Value), k ≤ 32 ∧ i = .int .i64 k ∧ Arr wr w.heap.size 30 C0 ∧ Arr wr (w.heap.size + 1) 24 Z ∧ Z.size = 32 ∧ Arr wr (w.heap.size + 1 + 1) 24 C ∧ C.size = 32 ∧ (∀ t, t < k → C[t]? = some (.int .u8 (fromB W t))) ∧ Below w.heap.size w wr)
    (fun i _ => 32 - (intOf i).toNat)
  case atStart => exact ⟨0, _, _, by omega, rfl, ((Arr.new w 30 C0).alloc _).alloc _, by simpa using (Arr.new (w.alloc _) 24 _).alloc _, rfl, by simpa using Arr.new ((w.alloc _).alloc _) 24 _, rfl, fun j hj => by omega, (((Below.refl _ _).alloc (by simp) _).alloc (by simp) _).alloc (by simp; omega) _⟩
  case round =>
    obtain ⟨k, C, Z, hk, rfl, hX, hZ, hZs, hC, hCs, hw, hbl⟩ := hrel
    have HW := Hid.mk' hw
    clear hw
    by_cases hlt : k < 32
    · have h3 : (k : Int) < 32 := by omega
      have h4 : (0 : Int) ≤ k := by omega
      have c0 : wr.cell? ⟨w.heap.size, k / 8, none⟩ = some (.int .u64 (W (k / 8))) := (hX.cell _).trans (hC0 _ (by omega))
      obtain ⟨v1, c1⟩ := hC.got (j := k) (by omega)
      have f0 := hC.frozen k
      go_wp2
      go_roundw
      case rel =>
        have q := set_step (f := fun t => .int .u8 (fromB W t)) hCs (by omega) HW.out
        exact ⟨k + 1, _, Z, by omega, by go_num, hX.setOther _ (by simp; omega), hZ.setOther _ (by simp), hZs, hC.set _ _, by simp [hCs], q, hbl.setCell (by simp; omega) _⟩
      case measure => simp [intOf]; omega
    · obtain rfl : k = 32 := by omega
      have hCe : C = u8s 32 (fromB W) := arr_eq hCs HW.out
      subst hCe
      go_wp2_with (first
        | (refine wpList_load_row (by rfl) 24 (.tmp 3) (by rfl) (w.heap.size + 1 + 1) (by rfl) 24 (u8s 32 (fromB W)) (0, 0) _ hC Try.underlying24 rfl (s24u8 _) ?_)
        | (refine wpList_store_arr (by rfl) 24 (.tmp 2) (.tmp 22) (by rfl) (w.heap.size + 1) (u8s 32 (fromB W)) (by rfl) (by rfl) 24 _ hZ (s24u8 _) (by rw [hZs]; exact (u8s_size _ _).symm) (u8s_one _ _) ?_))
      exact bodyPost_ret (v := .agg (u8s 32 (fromB W))) (results_cell_row Try.results21 _ _ (w.heap.size + 1) 24 _ (0, 0) _ rfl (hZ.setRow _) Try.underlying24 rfl (s24u8 _)) rfl ⟨rfl, below_setRow hbl (by omega) _⟩

def refD (c : Int) : Int := if dok c then dval c else -1

/-- The first place of a digit. -/
theorem hexc_eq {c : Int} {i : Nat} (hi : i < 16) : (hexc i = c ↔ dok c = true ∧ dval c = i) := by
  unfold hexc dok dval
  constructor
  · intro h; split at h <;> simp <;> (split <;> (try split) <;> omega)
  · intro h
    simp at h
    obtain ⟨h1, h2⟩ := h
    split at h2
    · split <;> omega
    · split at h2 <;> (split <;> omega)

set_option maxHeartbeats 1000000 in
theorem digit_any (c : Int) (w : World) :
    Calls Try.prog 36 #[.int .u8 c] w fun e w' => e = .returned (.int .i64 (refD c)) ∧ w' = w := by
  go_enter Try.func36, Try.ntmps36
  go_wp2
  go_loop [3] (fun i => ∃ k : Nat, k ≤ 16 ∧ i = .int .i64 k ∧ ∀ j : Nat, j < k → hexc j ≠ c) (fun i => 16 - (intOf i).toNat)
  case atStart => exact ⟨0, by omega, rfl, fun j h => by omega⟩
  case round =>
    obtain ⟨k, hk, rfl, hno⟩ := hrel
    have HN := Hid.mk' hno
    clear hno
    by_cases hlt : k < 16
    · have h3 : (k : Int) < 16 := by omega
      have h4 : (0 : Int) ≤ k := by omega
      have x1 : ∀ u : World, (Instr.index 9 (.string hexd) (.int .i64 (k : Int))).run Try.prog u = .ok (.int .u8 (hexc k)) u := index_hexI k hlt
      simp only [hexd] at x1
      by_cases he : hexc k = c
      · have hd : refD c = k := by unfold refD; rw [if_pos ((hexc_eq hlt).1 he).1]; exact ((hexc_eq hlt).1 he).2
        have he' : (hexc k == c) = true := by simpa using he
        go_wp2
        go_ret
        exact ⟨rfl, rfl⟩
      · have he' : (hexc k == c) = false := by simpa using he
        go_wp2
        go_round
        case rel => exact ⟨k + 1, by omega, by go_num, fun j hj => if e : j = k then by rw [e]; exact he else HN.out j (by omega)⟩
        case measure => simp [intOf]; omega
    · obtain rfl : k = 16 := by omega
      have hd : refD c = -1 := by
        unfold refD
        by_cases h : dok c = true
        · obtain ⟨i, hi⟩ : ∃ i : Nat, dval c = i := ⟨(dval c).toNat, by have := dval_range c; omega⟩
          have hr := dval_range c
          exact absurd ((hexc_eq (by omega)).2 ⟨h, hi⟩) (HN.out i (by omega))
        · rw [if_neg h]
      go_wp2
      go_ret
      exact ⟨rfl, rfl⟩
end Go.Proofs.Ytfmjapopnomkkaa
