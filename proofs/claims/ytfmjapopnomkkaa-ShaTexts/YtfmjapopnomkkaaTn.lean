import Derived.Test.YtfmjapopnomkkaaTl
import Derived.Laws.ResultCell
namespace Go.Proofs.Ytfmjapopnomkkaa
open Go.RowKit

def dok (c : Int) : Bool := decide ((48 ≤ c ∧ c ≤ 57) ∨ (97 ≤ c ∧ c ≤ 102))
def dval (c : Int) : Int := if 48 ≤ c ∧ c ≤ 57 then c - 48 else if 97 ≤ c ∧ c ≤ 102 then c - 87 else 0

theorem ret2 {a b : Int} {c d : Bool} (h : a = b) (h' : c = d) : Ending.returned (.tuple #[.int .u8 a, .bool c]) = .returned (.tuple #[.int .u8 b, .bool d]) := by rw [h, h']

set_option maxHeartbeats 400000 in
theorem digitValue_any (c : Int) (w : World) (h0 : 0 ≤ c) (h1 : c ≤ 255) :
    Calls Try.prog 35 #[.int .u8 c] w fun e w' => e = .returned (.tuple #[.int .u8 (dval c), .bool (dok c)]) ∧ w' = w := by
  go_enter Try.func35, Try.ntmps35
  go_wp2
  all_goals go_ret2
  all_goals refine ⟨ret2 ?_ ?_, rfl⟩
  all_goals first | (unfold dval; omega) | (unfold dok; simp; omega)

/-- Byte i of a text. -/
def sc (s : ByteArray) (i : Nat) : Int := ((s.data.getD i 0).toNat : Nat)
theorem sc_range (s : ByteArray) (i : Nat) : 0 ≤ sc s i ∧ sc s i ≤ 255 := by
  unfold sc; have := (s.data.getD i 0).toNat_lt; omega
theorem index_str (s : ByteArray) (i : Nat) (v : Int) (hv : v = i) (h : i < s.size) (w : World) : (Instr.index 9 (.string s) (.int .i64 v)).run Try.prog w = .ok (.int .u8 (sc s i)) w := by
  subst hv
  rw [run_index_string w 9 s .i64 i Try.underlying9, dif_pos (by omega)]
  have : s[(i : Int).toNat]'(by omega) = s.data.getD i 0 := by
    have e : i < s.data.size := h
    simp only [Array.getD, e, dif_pos]; rfl
  rw [this]; rfl
def good (s : ByteArray) : Bool := s.size == 64 && (List.range 64).all fun i => dok (sc s i)
def unB (s : ByteArray) (t : Nat) : Int := 16 * dval (sc s (2 * t)) + dval (sc s (2 * t + 1))
def unhexV (s : ByteArray) : Value := if good s then .tuple #[.agg (u8s 32 (unB s)), .int .i64 0] else .tuple #[.agg (u8s 32 fun _ => 0), .int .i64 8]
theorem dval_range (c : Int) : 0 ≤ dval c ∧ dval c ≤ 15 := by unfold dval; split <;> (try split) <;> omega
theorem or4 (a b : Int) (ha : 0 ≤ a ∧ a ≤ 15) (hb : 0 ≤ b ∧ b ≤ 15) : bits .or .u8 (a * 16 % 256) b = 16 * a + b := by
  obtain ⟨k, rfl⟩ : ∃ k : Nat, a = k := ⟨a.toNat, by omega⟩
  obtain ⟨j, rfl⟩ : ∃ j : Nat, b = j := ⟨b.toNat, by omega⟩
  have : ∀ k j : Fin 16, bits .or .u8 ((k.val : Int) * 16 % 256) (j.val : Int) = 16 * (k.val : Int) + j.val := by decide +kernel
  exact this ⟨k, by omega⟩ ⟨j, by omega⟩
theorem good_no {s : ByteArray} {i : Nat} (hi : i < 64) (h : dok (sc s i) = false) : good s = false := by
  unfold good; rw [Bool.and_eq_false_iff]; right
  rw [List.all_eq_false]; exact ⟨i, by simpa using hi, by simp [h]⟩
theorem good_yes {s : ByteArray} (hs : s.size = 64) (h : ∀ i, i < 64 → dok (sc s i) = true) : good s = true := by
  unfold good; rw [Bool.and_eq_true, List.all_eq_true]; exact ⟨by simp [hs], fun i hi => h i (by simpa using hi)⟩

theorem res16 {w : World} {tmps : Array Value} {C : Array Value} {g : Nat} {e : Int} (hp : tmps.getD 2 undef = .pointer (some ⟨g, 0, none⟩)) (he : tmps.getD 3 undef = .int .i64 e) (hA : Arr w g 24 C) (hs : C.size = 32) :
    (results Try.f16 tmps).run Try.prog w = .ok (.tuple #[.agg C, .int .i64 e]) w := by
  have hi : (Try.prog.info? 24).map (·.size) = some C.size := by rw [hs]; exact size24
  rw [results_cell_tmp Try.results16, hp, he]
  simp only [asAddr, Sem.run_pure, Result.andThen_ok, run_loadVar_row w g 24 24 C (0, 0) _ hA Try.underlying24 rfl hi]

theorem zero24 : (u8s 32 fun _ => 0) = #[.int .u8 0, .int .u8 0, .int .u8 0, .int .u8 0, .int .u8 0, .int .u8 0, .int .u8 0, .int .u8 0, .int .u8 0, .int .u8 0, .int .u8 0, .int .u8 0, .int .u8 0, .int .u8 0, .int .u8 0, .int .u8 0, .int .u8 0, .int .u8 0, .int .u8 0, .int .u8 0, .int .u8 0, .int .u8 0, .int .u8 0, .int .u8 0, .int .u8 0, .int .u8 0, .int .u8 0, .int .u8 0, .int .u8 0, .int .u8 0, .int .u8 0, .int .u8 0] := rfl
theorem u8s_one (n : Nat) (f : Nat → Int) : (u8s n f).all (·.oneCell') = true := one_ints (u8s_size n f) (fun _ h => u8s_get h)
theorem s24u8 (f : Nat → Int) : (Try.prog.info? 24).map (·.size) = some (u8s 32 f).size := by rw [u8s_size]; exact size24

set_option maxHeartbeats 1000000 in
theorem unhex_any (s : ByteArray) (w : World) (hs : s.size ≤ 140737488355328) :
    Calls Try.prog 16 #[.string s] w fun e w' => e = .returned (unhexV s) ∧ Below w.heap.size w w' := by
  have hZ0 : Arr ((w.alloc (.cells (u8s 32 fun _ => 0) 24)).alloc (.cells (u8s 32 fun _ => 0) 24)) w.heap.size 24 (u8s 32 fun _ => 0) := (Arr.new _ _ _).alloc _
  have hC0 : Arr ((w.alloc (.cells (u8s 32 fun _ => 0) 24)).alloc (.cells (u8s 32 fun _ => 0) 24)) (w.heap.size + 1) 24 (u8s 32 fun _ => 0) := by simpa using Arr.new (w.alloc (.cells (u8s 32 fun _ => 0) 24)) 24 (u8s 32 fun _ => 0)
  have hB0 : Below w.heap.size w ((w.alloc (.cells (u8s 32 fun _ => 0) 24)).alloc (.cells (u8s 32 fun _ => 0) 24)) := ((Below.refl _ _).alloc (Nat.le_refl _) _).alloc (by simp) _
  have hsI : (s.size : Int) ≤ 140737488355328 := by omega
  by_cases h64 : s.size = 64
  · have h64I : (s.size : Int) = 64 := by omega
    go_enter Try.func16, Try.ntmps16
    go_wp2
    rw [zero24] at hZ0 hC0 hB0
    go_loopw [14] (fun i wr => ∃ (k : Nat) (C Z : Array Value), k ≤ 32 ∧ i = .int .i64 k ∧ Arr wr w.heap.size 24 Z ∧ Z.size = 32 ∧ Arr wr (w.heap.size + 1) 24 C ∧ C.size = 32 ∧ (∀ t, t < k → C[t]? = some (.int .u8 (unB s t))) ∧ (∀ i, i < 2 * k → dok (sc s i) = true) ∧ Below w.heap.size w wr)
      (fun i _ => 32 - (intOf i).toNat)
    case atStart => exact ⟨0, _, _, by omega, rfl, hZ0, rfl, hC0, rfl, fun t h => by omega, fun t h => by omega, hB0⟩
    case round =>
      clear hZ0 hC0 hB0
      obtain ⟨k, C, Z, hk, rfl, hZ, hZs, hC, hCs, hw, hd, hbl⟩ := hrel
      have HW := Hid.mk' hw
      have HD := Hid.mk' hd
      clear hw hd
      by_cases hlt : k < 32
      · have h3 : (k : Int) < 32 := by omega
        have h4 : (0 : Int) ≤ k := by omega
        have x0 := index_str s (2 * k) (2 * (k : Int)) (by omega) (by omega)
        have x1 := index_str s (2 * k + 1) (2 * (k : Int) + 1) (by omega) (by omega)
        have eo := or4 (dval (sc s (2 * k))) (dval (sc s (2 * k + 1))) (dval_range _) (dval_range _)
        by_cases d0 : dok (sc s (2 * k)) = true
        · by_cases d1 : dok (sc s (2 * k + 1)) = true
          · obtain ⟨v1, hv1⟩ := hC.got (j := k) (by omega)
            have hf1 := hC.frozen k
            go_wp2_with (go_at_call 35; go_must (refine (digitValue_any (sc s _) _ (sc_range _ _).1 (sc_range _ _).2).mono ?_; rintro e w' ⟨rfl, rfl⟩))
            go_roundw
            case rel =>
              have q := set_step (f := fun t => .int .u8 (unB s t)) hCs (by omega) HW.out
              exact ⟨k + 1, _, Z, by omega, by go_num, hZ.setOther _ (by simp), hZs, hC.set _ _, by simp [hCs], q, fun i hi => if e0 : i = 2 * k then by rw [e0]; exact d0 else if e1 : i = 2 * k + 1 then by rw [e1]; exact d1 else HD.out i (by omega), hbl.setCell (by simp) _⟩
            case measure => simp [intOf]; omega
          · have d1' : dok (sc s (2 * k + 1)) = false := by simpa using d1
            have hg := good_no (by omega) d1'
            go_wp2_with (first
              | (go_at_call 35; go_must (refine (digitValue_any (sc s _) _ (sc_range _ _).1 (sc_range _ _).2).mono ?_; rintro e w' ⟨rfl, rfl⟩))
              | (refine wpList_store_arr (by rfl) 24 (.tmp 2) (.tmp 40) (by rfl) w.heap.size (u8s 32 fun _ => 0) (by rfl) (by rfl) 24 _ hZ (s24u8 _) (by rw [hZs, u8s_size]) (u8s_one _ _) ?_))
            exact bodyPost_ret (v := unhexV s) (by rw [unhexV, hg]; exact res16 rfl rfl (hZ.setRow _) (u8s_size _ _)) rfl ⟨rfl, below_setRow hbl (Nat.le_refl _) _⟩
        · have d0' : dok (sc s (2 * k)) = false := by simpa using d0
          have hg := good_no (by omega) d0'
          go_wp2_with (first
            | (go_at_call 35; go_must (refine (digitValue_any (sc s _) _ (sc_range _ _).1 (sc_range _ _).2).mono ?_; rintro e w' ⟨rfl, rfl⟩))
            | (refine wpList_store_arr (by rfl) 24 (.tmp 2) (.tmp 40) (by rfl) w.heap.size (u8s 32 fun _ => 0) (by rfl) (by rfl) 24 _ hZ (s24u8 _) (by rw [hZs, u8s_size]) (u8s_one _ _) ?_))
          exact bodyPost_ret (v := unhexV s) (by rw [unhexV, hg]; exact res16 rfl rfl (hZ.setRow _) (u8s_size _ _)) rfl ⟨rfl, below_setRow hbl (Nat.le_refl _) _⟩
      · obtain rfl : k = 32 := by omega
        have hCe : C = u8s 32 (unB s) := arr_eq hCs HW.out
        subst hCe
        have hg := good_yes h64 HD.out
        go_wp2_with (first
          | (refine wpList_load_row (by rfl) 24 (.tmp 4) (by rfl) (w.heap.size + 1) (by rfl) 24 (u8s 32 (unB s)) (0, 0) _ hC Try.underlying24 rfl (s24u8 _) ?_)
          | (refine wpList_store_arr (by rfl) 24 (.tmp 2) (.tmp 48) (by rfl) w.heap.size (u8s 32 (unB s)) (by rfl) (by rfl) 24 _ hZ (s24u8 _) (by rw [hZs, u8s_size]) (u8s_one _ _) ?_))
        exact bodyPost_ret (v := unhexV s) (by rw [unhexV, hg]; exact res16 rfl rfl (hZ.setRow _) (u8s_size _ _)) rfl ⟨rfl, below_setRow hbl (Nat.le_refl _) _⟩
  · have hg : good s = false := by unfold good; simp [h64]
    have h64I : ¬ (s.size : Int) = 64 := by omega
    have h64B : ((s.size : Int) == 64) = false := by simpa using h64I
    go_enter Try.func16, Try.ntmps16
    go_wp2_with (refine wpList_store_arr (by rfl) 24 (.tmp 2) (.tmp 13) (by rfl) w.heap.size (u8s 32 fun _ => 0) (by rfl) (by rfl) 24 _ hZ0 (s24u8 _) (by rfl) (u8s_one _ _) ?_)
    exact bodyPost_ret (v := unhexV s) (by rw [unhexV, hg]; exact res16 rfl rfl (hZ0.setRow _) (u8s_size _ _)) rfl ⟨rfl, below_setRow hB0 (Nat.le_refl _) _⟩
end Go.Proofs.Ytfmjapopnomkkaa
