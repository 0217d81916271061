import Derived.Test.YtfmjapopnomkkaaTn
namespace Go.Proofs.Ytfmjapopnomkkaa
open Go.RowKit

/-- Word j of a sum, of its first m bytes. -/
def wacc (H : Nat → Int) (j : Nat) : Nat → Int
  | 0 => 0
  | m + 1 => wacc H j m * 256 + H (8 * j + m)
/-- .. behind k bytes in all. -/
def wpart (H : Nat → Int) (k j : Nat) : Int := wacc H j (min (k - 8 * j) 8)
def u64s (n : Nat) (f : Nat → Int) : Array Value := arr n fun t => .int .u64 (f t)
theorem u64s_size (n : Nat) (f : Nat → Int) : (u64s n f).size = n := arr_size _ _
theorem u64s_get {n : Nat} {f : Nat → Int} {t : Nat} (h : t < n) : (u64s n f)[t]? = some (.int .u64 (f t)) := arr_get h
theorem u64s_one (n : Nat) (f : Nat → Int) : (u64s n f).all (·.oneCell') = true := one_ints (u64s_size n f) (fun _ h => u64s_get h)
theorem size30 : (Try.prog.info? 30).map (·.size) = some 4 := by kernel_rfl
theorem s30u (f : Nat → Int) : (Try.prog.info? 30).map (·.size) = some (u64s 4 f).size := by rw [u64s_size]; exact size30
def wordsOf (H : Nat → Int) : Array Value := u64s 4 fun j => wacc H j 8

theorem wacc_range {H : Nat → Int} (hH : ∀ t, t < 32 → 0 ≤ H t ∧ H t ≤ 255) {j : Nat} (hj : j < 4) : ∀ m, m ≤ 8 → 0 ≤ wacc H j m ∧ wacc H j m < 256 ^ m
  | 0, _ => by simp [wacc]
  | m + 1, h => by
    have ih := wacc_range hH hj m (by omega)
    have hb := hH (8 * j + m) (by omega)
    have e : (256 : Int) ^ (m + 1) = 256 ^ m * 256 := by rw [Int.pow_succ]
    simp only [wacc, e]; omega

theorem or8 (x b : Int) (hx : 0 ≤ x) (hx2 : x < 72057594037927936) (hb : 0 ≤ b) (hb2 : b ≤ 255) : bits .or .u64 (x * 256) b = x * 256 + b := by
  obtain ⟨k, rfl⟩ : ∃ k : Nat, x = k := ⟨x.toNat, by omega⟩
  obtain ⟨j, rfl⟩ : ∃ j : Nat, b = j := ⟨b.toNat, by omega⟩
  have h1 : (BitVec.ofInt 64 ((k : Int) * 256)).toNat = k * 256 := by
    rw [show ((k : Int) * 256) = ((k * 256 : Nat) : Int) by omega, BitVec.ofInt_natCast, BitVec.toNat_ofNat]; omega
  have h2 : (BitVec.ofInt 64 (j : Int)).toNat = j := by
    rw [BitVec.ofInt_natCast, BitVec.toNat_ofNat]; omega
  have h3 : k * 256 ||| j = k * 256 + j := by
    have := Nat.two_pow_add_eq_or_of_lt (i := 8) (b := j) (by omega) k
    rw [Nat.mul_comm] at this; exact this.symm
  show IntKind.u64.wrap ((BitVec.ofInt 64 ((k : Int) * 256) ||| BitVec.ofInt 64 (j : Int)).toNat : Int) = _
  rw [BitVec.toNat_or, h1, h2, h3]
  simp only [IntKind.wrap, IntKind.bits, IntKind.signed]
  simp; omega

theorem wrap64_of {x : Int} (h : 0 ≤ x) (h2 : x < 18446744073709551616) : IntKind.u64.wrap x = x := by
  simp only [IntKind.wrap, IntKind.bits, IntKind.signed]; simp; omega
theorem words_val {H : Nat → Int} (hH : ∀ t, t < 32 → 0 ≤ H t ∧ H t ≤ 255) {k : Nat} (hk : k < 32) :
    bits .or .u64 (IntKind.u64.wrap (wpart H k (k / 8) * 256)) (IntKind.u64.wrap (H k)) = wpart H (k + 1) (k / 8) := by
  have e1 : wpart H k (k / 8) = wacc H (k / 8) (k % 8) := by unfold wpart; congr 1; omega
  have e2 : wpart H (k + 1) (k / 8) = wacc H (k / 8) (k % 8 + 1) := by unfold wpart; congr 1; omega
  have e3 : 8 * (k / 8) + k % 8 = k := by omega
  have hr := wacc_range hH (show k / 8 < 4 by omega) (k % 8) (by omega)
  have hp : (256 : Int) ^ (k % 8) ≤ 72057594037927936 := by
    have : k % 8 < 8 := Nat.mod_lt _ (by omega)
    generalize k % 8 = m at this
    match m, this with
    | 0, _ => decide
    | 1, _ => decide
    | 2, _ => decide
    | 3, _ => decide
    | 4, _ => decide
    | 5, _ => decide
    | 6, _ => decide
    | 7, _ => decide
  have hb := hH k hk
  rw [e1, e2, wacc, e3, wrap64_of (by omega) (by omega), wrap64_of (by omega) (by omega), or8 _ _ (by omega) (by omega) hb.1 hb.2]
theorem words_other {H : Nat → Int} {k j : Nat} (h : j ≠ k / 8) : wpart H (k + 1) j = wpart H k j := by
  unfold wpart; congr 1; omega
theorem words_step {C : Array Value} {H : Nat → Int} {k : Nat} (hH : ∀ t, t < 32 → 0 ≤ H t ∧ H t ≤ 255) (hk : k < 32) (hs : C.size = 4) (h : ∀ j, j < 4 → C[j]? = some (.int .u64 (wpart H k j))) (v : Value) :
    ∀ j, j < 4 → ((C.setIfInBounds (k / 8) v).setIfInBounds (k / 8) (.int .u64 (bits .or .u64 (IntKind.u64.wrap (wpart H k (k / 8) * 256)) (IntKind.u64.wrap (H k)))))[j]? = some (.int .u64 (wpart H (k + 1) j)) := by
  intro j hj
  rw [words_val hH hk, Array.getElem?_setIfInBounds]
  by_cases e : k / 8 = j
  · subst e; simp [hs, hj]
  · rw [if_neg e, Array.getElem?_setIfInBounds, if_neg e, h j hj, words_other (Ne.symm e)]

set_option maxHeartbeats 1000000 in
theorem words_any (C0 : Array Value) (H : Nat → Int) (w : World) (hs : C0.size = 32) (hC0 : ∀ t, t < 32 → C0[t]? = some (.int .u8 (H t))) (hH : ∀ t, t < 32 → 0 ≤ H t ∧ H t ≤ 255) :
    Calls Try.prog 18 #[.agg C0] w fun e w' => e = .returned (.agg (wordsOf H)) ∧ Below w.heap.size w w' := by
  have s24 : (Try.prog.info? 24).map (·.size) = some C0.size := by rw [hs]; exact size24
  have hA0 : ∀ o1 o2, Arr (((w.alloc (.cells C0 24)).alloc o1).alloc o2) w.heap.size 24 C0 := fun o1 o2 => ((Arr.new w 24 C0).alloc o1).alloc o2
  go_enter Try.func18, Try.ntmps18
  go_wp2_with (refine wpList_load_row (by rfl) 24 (.tmp 1) (by rfl) w.heap.size (by rfl) 24 C0 (0, 0) _ (hA0 _ _) Try.underlying24 rfl s24 ?_)
  go_loopw [7] (fun i wr => ∃ (k : Nat) (C Z : Array Value), k ≤ 32 ∧ i = .int .i64 k ∧ Arr wr (w.heap.size + 1) 30 Z ∧ Z.size = 4 ∧ Arr wr (w.heap.size + 1 + 1) 30 C ∧ C.size = 4 ∧ (∀ j, j < 4 → C[j]? = some (.int .u64 (wpart H k j))) ∧ Below w.heap.size w wr)
    (fun i _ => 32 - (intOf i).toNat)
  case atStart => exact ⟨0, _, _, by omega, rfl, by simpa using (Arr.new (w.alloc _) 30 _).alloc _, rfl, by simpa using Arr.new ((w.alloc _).alloc _) 30 _, rfl, fun j hj => by (match j, hj with | 0, _ => rfl | 1, _ => rfl | 2, _ => rfl | 3, _ => rfl), (((Below.refl _ _).alloc (by simp) _).alloc (by simp) _).alloc (by simp; omega) _⟩
  case round =>
    clear hA0
    obtain ⟨k, C, Z, hk, rfl, hZ, hZs, hC, hCs, hw, hbl⟩ := hrel
    have HW := Hid.mk' hw
    clear hw
    by_cases hlt : k < 32
    · have h3 : (k : Int) < 32 := by omega
      have h4 : (0 : Int) ≤ k := by omega
      have hix := index24 C0 H hC0 k hlt
      have c0 : wr.cell? ⟨w.heap.size + 1 + 1, k / 8, none⟩ = some (.int .u64 (wpart H k (k / 8))) := (hC.cell _).trans (HW.out _ (by omega))
      have f0 := hC.frozen (k / 8)
      go_wp2
      go_roundw
      case rel =>
        exact ⟨k + 1, _, Z, by omega, by go_num, (hZ.setOther _ (by simp)).setOther _ (by simp), hZs, (hC.set _ _).set _ _, by simp [hCs], words_step hH hlt hCs HW.out _, (hbl.setCell (by simp; omega) _).setCell (by simp; omega) _⟩
      case measure => simp [intOf]; omega
    · obtain rfl : k = 32 := by omega
      have hCe : C = wordsOf H := arr_eq hCs (fun j hj => by rw [HW.out j hj]; unfold wpart; rw [show min (32 - 8 * j) 8 = 8 by omega])
      subst hCe
      go_wp2_with (first
        | (refine wpList_load_row (by rfl) 30 (.tmp 3) (by rfl) (w.heap.size + 1 + 1) (by rfl) 30 (wordsOf H) (0, 0) _ hC Try.underlying30 rfl (s30u _) ?_)
        | (refine wpList_store_arr (by rfl) 30 (.tmp 2) (.tmp 26) (by rfl) (w.heap.size + 1) (wordsOf H) (by rfl) (by rfl) 30 _ hZ (s30u _) (by rw [hZs]; exact (u64s_size _ _).symm) (u64s_one _ _) ?_))
      exact bodyPost_ret (v := .agg (wordsOf H)) (results_cell_row Try.results18 _ _ (w.heap.size + 1) 30 _ (0, 0) _ rfl (hZ.setRow _) Try.underlying30 rfl (s30u _)) rfl ⟨rfl, below_setRow hbl (by omega) _⟩

/-- Byte t of the sum of four words. -/
def fromB (W : Nat → Int) (t : Nat) : Int := W (t / 8) / 2 ^ (56 - 8 * (t % 8)) % 256

set_option maxHeartbeats 1000000 in
theorem from_any (C0 : Array Value) (W : Nat → Int) (w : World) (hC0 : ∀ t, t < 4 → C0[t]? = some (.int .u64 (W t))) :
    Calls Try.prog 20 #[.agg C0] w fun e w' => e = .returned (.agg (u8s 32 (fromB W))) ∧ Below w.heap.size w w' := by
  go_enter Try.func20, Try.ntmps20
  go_wp2
  go_loopw [5] (fun i wr => ∃ (k : Nat) (C Z : Array Value), k ≤ 32 ∧ i = .int .i64 k ∧ Arr wr w.heap.size 30 C0 ∧ Arr wr (w.heap.size + 1) 24 Z ∧ Z.size = 32 ∧ Arr wr (w.heap.size + 1 + 1) 24 C ∧ C.size = 32 ∧ (∀ t, t < k → C[t]? = some (.int .u8 (fromB W t))) ∧ Below w.heap.size w wr)
    (fun i _ => 32 - (intOf i).toNat)
  case atStart => exact ⟨0, _, _, by omega, rfl, ((Arr.new w 30 C0).alloc _).alloc _, by simpa using (Arr.new (w.alloc _) 24 _).alloc _, rfl, by simpa using Arr.new ((w.alloc _).alloc _) 24 _, rfl, fun j hj => by omega, (((Below.refl _ _).alloc (by simp) _).alloc (by simp) _).alloc (by simp; omega) _⟩
  case round =>
    obtain ⟨k, C, Z, hk, rfl, hX, hZ, hZs, hC, hCs, hw, hbl⟩ := hrel
    have HW := Hid.mk' hw
    clear hw
    by_cases hlt : k < 32
    · have h3 : (k : Int) < 32 := by omega
      have h4 : (0 : Int) ≤ k := by omega
      have c0 : wr.cell? ⟨w.heap.size, k / 8, none⟩ = some (.int .u64 (W (k / 8))) := (hX.cell _).trans (hC0 _ (by omega))
      obtain ⟨v1, c1⟩ := hC.got (j := k) (by omega)
      have f0 := hC.frozen k
      go_wp2
      go_roundw
      case rel =>
        have q := set_step (f := fun t => .int .u8 (fromB W t)) hCs (by omega) HW.out
        exact ⟨k + 1, _, Z, by omega, by go_num, hX.setOther _ (by simp; omega), hZ.setOther _ (by simp), hZs, hC.set _ _, by simp [hCs], q, hbl.setCell (by simp; omega) _⟩
      case measure => simp [intOf]; omega
    · obtain rfl : k = 32 := by omega
      have hCe : C = u8s 32 (fromB W) := arr_eq hCs HW.out
      subst hCe
      go_wp2_with (first
        | (refine wpList_load_row (by rfl) 24 (.tmp 3) (by rfl) (w.heap.size + 1 + 1) (by rfl) 24 (u8s 32 (fromB W)) (0, 0) _ hC Try.underlying24 rfl (s24u8 _) ?_)
        | (refine wpList_store_arr (by rfl) 24 (.tmp 2) (.tmp 21) (by rfl) (w.heap.size + 1) (u8s 32 (fromB W)) (by rfl) (by rfl) 24 _ hZ (s24u8 _) (by rw [hZs]; exact (u8s_size _ _).symm) (u8s_one _ _) ?_))
      exact bodyPost_ret (v := .agg (u8s 32 (fromB W))) (results_cell_row Try.results20 _ _ (w.heap.size + 1) 24 _ (0, 0) _ rfl (hZ.setRow _) Try.underlying24 rfl (s24u8 _)) rfl ⟨rfl, below_setRow hbl (by omega) _⟩

/-! There and back. -/
theorem from_words {H : Nat → Int} (hH : ∀ t, t < 32 → 0 ≤ H t ∧ H t ≤ 255) {t : Nat} (ht : t < 32) : fromB (fun j => wacc H j 8) t = H t := by
  unfold fromB
  have e : 8 * (t / 8) + t % 8 = t := by omega
  have hj : t / 8 < 4 := by omega
  have hr : t % 8 < 8 := Nat.mod_lt _ (by omega)
  have b0 := hH (8 * (t / 8) + 0) (by omega)
  have b1 := hH (8 * (t / 8) + 1) (by omega)
  have b2 := hH (8 * (t / 8) + 2) (by omega)
  have b3 := hH (8 * (t / 8) + 3) (by omega)
  have b4 := hH (8 * (t / 8) + 4) (by omega)
  have b5 := hH (8 * (t / 8) + 5) (by omega)
  have b6 := hH (8 * (t / 8) + 6) (by omega)
  have b7 := hH (8 * (t / 8) + 7) (by omega)
  conv => rhs; rw [← e]
  generalize t / 8 = j at *
  generalize t % 8 = r at *
  simp only [wacc]
  match r, hr with
  | 0, _ => omega
  | 1, _ => omega
  | 2, _ => omega
  | 3, _ => omega
  | 4, _ => omega
  | 5, _ => omega
  | 6, _ => omega
  | 7, _ => omega
theorem words_from_aux {W : Nat → Int} {j : Nat} (h0 : 0 ≤ W j) (h1 : W j < 18446744073709551616) : ∀ m, m ≤ 8 → wacc (fromB W) j m = W j / 2 ^ (64 - 8 * m)
  | 0, _ => by simp only [wacc]; omega
  | m + 1, h => by
    have ih := words_from_aux h0 h1 m (by omega)
    have e1 : (8 * j + m) / 8 = j := by omega
    have e2 : (8 * j + m) % 8 = m := by omega
    simp only [wacc, ih, fromB, e1, e2]
    have e3 : 64 - 8 * m = (56 - 8 * m) + 8 := by omega
    have e4 : 64 - 8 * (m + 1) = 56 - 8 * m := by omega
    rw [e3, e4, Int.pow_add, ← Int.ediv_ediv_of_nonneg (by exact Int.le_of_lt (Int.pow_pos (by omega)))]
    generalize W j / 2 ^ (56 - 8 * m) = y
    omega
theorem words_from {W : Nat → Int} {j : Nat} (h0 : 0 ≤ W j) (h1 : W j < 18446744073709551616) : wacc (fromB W) j 8 = W j := by
  rw [words_from_aux h0 h1 8 (by omega)]; simp
end Go.Proofs.Ytfmjapopnomkkaa
