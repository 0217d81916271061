/- Layer rlp: slices.Reverse of a slice of one's own; highestFirst, head. -/
import Derived.Test.YtbjlmekafnpllabRe
namespace Go.Proofs.Ytbjlmekafnpllab
open Go.RowKit
set_option linter.unusedVariables false
set_option linter.unusedSimpArgs false

theorem own_of_arr {w : World} {base g n cap : Nat} {C : Array Value} {L : List Int} (hA : Arr w g 5 C) (hg : base ≤ g) (hn : n = L.length) (hc : n ≤ cap) (hs : C.size = cap) (hm : cap ≤ maxLen) (h : ∀ t, t < n → C[t]? = some (.int .u8 (bat L t))) :
    w.ownsRow base 5 1 (.slice (some ⟨g, 0, none⟩) n cap) n (by8 L) := by
  refine ⟨by rw [by8_len]; omega, .inr ⟨g, cap, C, rfl, hg, hA, hc, hm, by omega, ?_⟩⟩
  refine List.ext_getElem? fun t => ?_
  rw [List.getElem?_take]
  by_cases ht : t < n * 1
  · rw [if_pos ht, Array.getElem?_toList, h t (by omega), by8_get (by omega)]
  · rw [if_neg ht, List.getElem?_eq_none (by rw [by8_len]; omega)]
theorem own_arr {w : World} {base n : Nat} {v : Value} {L : List Int} (h : w.ownsRow base 5 1 v n (by8 L)) :
    Hid (n = L.length) ∧ (v = .slice none 0 0 ∧ n = 0 ∨ ∃ g cap C, v = .slice (some ⟨g, 0, none⟩) n cap ∧ base ≤ g ∧ Arr w g 5 C ∧ n ≤ cap ∧ cap ≤ maxLen ∧ C.size = cap ∧ ∀ t, t < n → C[t]? = some (.int .u8 (bat L t))) := by
  obtain ⟨hl, h | ⟨g, cap, C, rfl, hg, hh, hn, hm, hc, ht⟩⟩ := h
  · rw [by8_len] at hl
    exact ⟨show _ = _ by omega, .inl h⟩
  · rw [by8_len] at hl
    refine ⟨show _ = _ by omega, .inr ⟨g, cap, C, rfl, hg, hh, hn, hm, by omega, fun t htn => ?_⟩⟩
    rw [← Array.getElem?_toList, ← List.getElem?_take_of_lt (show t < n * 1 by omega), ht, by8_get (by omega)]

set_option maxRecDepth 100000 in
set_option maxHeartbeats 400000 in
theorem reverse_nil (w : World) : Calls Try.prog 57 #[.slice none 0 0] w fun e w' => e = .returned (.tuple #[]) ∧ w' = w := by
  go_enter Try.func57, Try.ntmps57
  go_wp2
  go_loopw [2, 3] (fun i j wr => i = .int .i64 0 ∧ j = .int .i64 (-1) ∧ wr = w) (fun _ _ _ => 0)
  case atStart => exact ⟨rfl, rfl, rfl⟩
  case round =>
    obtain ⟨rfl, rfl, rfl⟩ := hrel
    go_wp2
    go_end0
    exact ⟨rfl, rfl⟩

theorem reverse_own (base n : Nat) (v : Value) (L : List Int) (w : World) (h : w.ownsRow base 5 1 v n (by8 L)) (hb : n ≤ 140737488355328) :
    Calls Try.prog 57 #[v] w fun e w' => e = .returned (.tuple #[]) ∧ w'.ownsRow base 5 1 v n (by8 L.reverse) ∧ Below base w w' := by
  obtain ⟨hn, ⟨rfl, rfl⟩ | ⟨g, cap, C, rfl, hg, hA, hc, hm, hs, hC⟩⟩ := own_arr h
  · refine (reverse_nil w).mono ?_
    rintro e w' ⟨rfl, rfl⟩
    obtain rfl : L = [] := List.eq_nil_of_length_eq_zero hn.out.symm
    exact ⟨rfl, h, Below.refl _ _⟩
  · refine (reverse_arr g n cap C L w hn hA hC hb).mono ?_
    rintro e w' ⟨rfl, ⟨D, hD, hDs, hDc, -⟩, hbl⟩
    exact ⟨rfl, own_of_arr hD hg (by rw [List.length_reverse]; exact hn.out) hc (by omega) hm hDc, hbl.mono hg⟩

theorem be_more {m : Nat} {D : List Int} (h : m < 18446744073709551616) (h0 : m ≠ 0) : be m ++ D.reverse = be (m / 256) ++ (D ++ [((m % 256 : Nat) : Int)]).reverse := by
  rw [be_step m h, if_neg h0]; simp
theorem sl_one {w : World} {g : Nat} {x : Int} (hc : w.cell? ⟨g, 0, none⟩ = some (.int .u8 x)) : SlL w (some ⟨g, 0, none⟩) [x] := fun _ => ⟨g, 0, rfl, fun t ht => by
  have : t = 0 := by simpa using ht
  subst this
  simpa [bat] using hc⟩

set_option maxRecDepth 100000 in
set_option maxHeartbeats 1000000 in
theorem highest_int (m : Nat) (w : World) (hm : m ≤ 140737488355328) :
    Calls Try.prog 65 #[.int .i64 m] w fun e w' => ∃ v, e = .returned v ∧ w'.ownsRow w.heap.size 5 1 v (be m).length (by8 (be m)) ∧ Below w.heap.size w w' := by
  go_enter Try.func65, Try.ntmps65
  go_wp2
  go_loopw [0, 3] (fun i v wr => ∃ (k : Nat) (D : List Int), k ≤ 140737488355328 ∧ i = .int .i64 k ∧ D.length ≤ 8 ∧ Hid (be m = be k ++ D.reverse) ∧ wr.ownsRow w.heap.size 5 1 v D.length (by8 D) ∧ Below w.heap.size w wr)
    (fun i _ _ => (intOf i).toNat)
  case atStart => exact ⟨m, [], hm, rfl, by simp, Hid.mk' (by simp), World.ownsRow_nil _ _ _ _, Below.refl _ _⟩
  case round =>
    obtain ⟨k, D, hk, rfl, hD, hbe, hown, hbl⟩ := hrel
    by_cases hlt : 0 < k
    · have h3 : (0 : Int) < k := by omega
      have hD2 : D.length < 8 := by
        have h1 := congrArg List.length hbe.out
        have h2 := be_len m
        have h3 := be_pos (n := k) (by omega)
        simp at h1; omega
      have hown' : (wr.alloc (.cells #[.int .u8 ((k : Int) % 256)] 5)).ownsRow w.heap.size 5 1 u3 D.length (by8 D) := hown.alloc _
      have hsl : SlL (wr.alloc (.cells #[.int .u8 ((k : Int) % 256)] 5)) (some ⟨wr.heap.size, 0, none⟩) [(k : Int) % 256] := sl_one (by rw [(Arr.new wr 5 _).cell]; rfl)
      have hsz := hbl.size
      go_wp2_with (at_builtin; go_must (refine append_bytes (by rfl) (.tmp 8) (.tmp 11) (by rfl) w.heap.size u3 D.length D (by rfl) hown' (some ⟨wr.heap.size, 0, none⟩) 1 1 [(k : Int) % 256] (by rfl) (by rfl) (fun e => by cases e) hsl (by omega) (by simp; omega) ?_; intro v1 w1 hown1 hg1))
      go_roundw
      case rel =>
        refine ⟨k / 256, D ++ [(k : Int) % 256], by omega, ?_, by simp; omega, Hid.mk' ?_, by simpa using hown1, (hbl.alloc hsz _).grown hg1 (by simp; omega) (fun j e => own_ge hown j e)⟩
        · congr 1
        · rw [hbe.out, be_more (by omega) (by omega)]; rfl
      case measure => simp [intOf]; omega
    · obtain rfl : k = 0 := by omega
      have he : be m = D.reverse := by rw [hbe.out, be_zero]; rfl
      go_wp2_with (go_at_call 57; go_must (refine (reverse_own w.heap.size D.length u3 D _ hown (by omega)).mono ?_; rintro e w2 ⟨rfl, hown2, hb2⟩))
      go_ret
      refine ⟨_, rfl, ?_, hbl.trans hb2⟩
      rw [he, List.length_reverse]; exact hown2

set_option maxRecDepth 100000 in
set_option maxHeartbeats 1000000 in
theorem highest_u64 (m : Nat) (w : World) (hm : m ≤ 18446744073709551615) :
    Calls Try.prog 41 #[.int .u64 m] w fun e w' => ∃ v, e = .returned v ∧ w'.ownsRow w.heap.size 5 1 v (be m).length (by8 (be m)) ∧ Below w.heap.size w w' := by
  go_enter Try.func41, Try.ntmps41
  go_wp2
  go_loopw [0, 3] (fun i v wr => ∃ (k : Nat) (D : List Int), k ≤ 18446744073709551615 ∧ i = .int .u64 k ∧ D.length ≤ 8 ∧ Hid (be m = be k ++ D.reverse) ∧ wr.ownsRow w.heap.size 5 1 v D.length (by8 D) ∧ Below w.heap.size w wr)
    (fun i _ _ => (intOf i).toNat)
  case atStart => exact ⟨m, [], hm, rfl, by simp, Hid.mk' (by simp), World.ownsRow_nil _ _ _ _, Below.refl _ _⟩
  case round =>
    obtain ⟨k, D, hk, rfl, hD, hbe, hown, hbl⟩ := hrel
    by_cases hlt : 0 < k
    · have h3 : (0 : Int) < k := by omega
      have hD2 : D.length < 8 := by
        have h1 := congrArg List.length hbe.out
        have h2 := be_len m
        have h3 := be_pos (n := k) (by omega)
        simp at h1; omega
      have hown' : (wr.alloc (.cells #[.int .u8 ((k : Int) % 256)] 5)).ownsRow w.heap.size 5 1 u3 D.length (by8 D) := hown.alloc _
      have hsl : SlL (wr.alloc (.cells #[.int .u8 ((k : Int) % 256)] 5)) (some ⟨wr.heap.size, 0, none⟩) [(k : Int) % 256] := sl_one (by rw [(Arr.new wr 5 _).cell]; rfl)
      have hsz := hbl.size
      go_wp2_with (at_builtin; go_must (refine append_bytes (by rfl) (.tmp 8) (.tmp 11) (by rfl) w.heap.size u3 D.length D (by rfl) hown' (some ⟨wr.heap.size, 0, none⟩) 1 1 [(k : Int) % 256] (by rfl) (by rfl) (fun e => by cases e) hsl (by omega) (by simp; omega) ?_; intro v1 w1 hown1 hg1))
      go_roundw
      case rel =>
        refine ⟨k / 256, D ++ [(k : Int) % 256], by omega, ?_, by simp; omega, Hid.mk' ?_, by simpa using hown1, (hbl.alloc hsz _).grown hg1 (by simp; omega) (fun j e => own_ge hown j e)⟩
        · congr 1
        · rw [hbe.out, be_more (by omega) (by omega)]; rfl
      case measure => simp [intOf]; omega
    · obtain rfl : k = 0 := by omega
      have he : be m = D.reverse := by rw [hbe.out, be_zero]; rfl
      go_wp2_with (go_at_call 57; go_must (refine (reverse_own w.heap.size D.length u3 D _ hown (by omega)).mono ?_; rintro e w2 ⟨rfl, hown2, hb2⟩))
      go_ret
      refine ⟨_, rfl, ?_, hbl.trans hb2⟩
      rw [he, List.length_reverse]; exact hown2


set_option maxRecDepth 100000 in
set_option maxHeartbeats 1000000 in
theorem head_any (b : Int) (m : Nat) (w : World) (hb : b = 128 ∨ b = 192) (hm : m ≤ 140737488355328) :
    Calls Try.prog 55 #[.int .u8 b, .int .i64 m] w fun e w' => ∃ v, e = .returned v ∧ w'.ownsRow w.heap.size 5 1 v (hd b m).length (by8 (hd b m)) ∧ Below w.heap.size w w' := by
  by_cases h : m ≤ 55
  · have h3 : (m : Int) ≤ 55 := by omega
    have E := Hid.mk' (show hd b m = [b + m] by unfold hd; rw [if_pos h])
    go_enter Try.func55, Try.ntmps55
    go_wp2
    go_ret
    refine ⟨_, rfl, ?_, (Below.refl _ _).alloc (Nat.le_refl _) _⟩
    rw [E.out]
    exact World.ownsRow_lit _ _ _ (Nat.le_refl _) (by unfold maxLen; omega) rfl
  · have h3 : ¬ (m : Int) ≤ 55 := by omega
    have E := Hid.mk' (show hd b m = [b + 55 + (be m).length] ++ be m by unfold hd; rw [if_neg h]; rfl)
    have hl := be_len m
    go_enter Try.func55, Try.ntmps55
    go_wp2_with (first
      | (go_at_call 65; go_must (refine (highest_int m _ hm).mono ?_; rintro e w1 ⟨v1, rfl, hown1, hb1⟩; obtain ⟨sp, cap, rfl, hbs, -⟩ := own_bs hown1 (be_bts m) (by omega); have hlit : (w1.alloc (.cells #[.int .u8 (b + 55 + ((be m).length : Nat))] 5)).ownsRow w.heap.size 5 1 (.slice (some ⟨w1.heap.size, 0, none⟩) 1 1) 1 (by8 [b + 55 + ((be m).length : Nat)]) := World.ownsRow_lit _ _ _ hb1.size (by unfold maxLen; omega) rfl; have hS2 := (hbs.below ((Below.refl _ _).alloc (Nat.le_refl _) (.cells #[.int .u8 (b + 55 + ((be m).length : Nat))] 5))).sl))
      | (at_builtin; go_must (refine append_bytes (by rfl) (.tmp 21) (.tmp 22) (by rfl) w.heap.size _ 1 [b + 55 + ((be m).length : Nat)] (by rfl) hlit sp (be m).length cap (be m) (by rfl) (by rfl) hbs.nil hS2 (by omega) (by have := hb1.size; simp; omega) ?_; intro v2 w2 hown2 hg2)))
    go_ret
    refine ⟨v2, rfl, ?_, (hb1.alloc hb1.size _).grown hg2 (by have := hb1.size; simp; omega) (fun j e => own_ge hlit j e)⟩
    rw [E.out]
    simpa [Nat.add_comm] using hown2
end Go.Proofs.Ytbjlmekafnpllab
