/- Layer rlp, the document's answer: Num, ReadNum; the walk of RlpNums. -/
import Derived.Test.YtbjlmekafnpllabSd
import Derived.Test.YtbjlmekafnpllabRu
namespace Go.Proofs.Ytbjlmekafnpllab
open Go.RowKit
set_option linter.unusedVariables false
set_option linter.unusedSimpArgs false

set_option maxRecDepth 100000 in
set_option maxHeartbeats 400000 in
theorem refNum_any (m : Nat) (w : World) (hm : m ≤ 18446744073709551615) :
    Calls Try.prog 45 #[.int .u64 m] w fun e w' => ∃ sp cap, e = .returned (.agg #[.bool false, .slice sp (be m).length cap, .slice none 0 0]) ∧ BS w'.heap.size w' sp (be m).length cap (be m) ∧ Below w.heap.size w w' := by
  have hl := be_len m
  go_enter Try.func45, Try.ntmps45
  go_wp2_with (first
    | (go_at_call 59; go_must (refine (high_any m _ hm).mono ?_; rintro e w2 ⟨v2, rfl, hown2, hb2⟩; have Z2 := (Arr.new w 59 #[.bool false, .slice none 0 0, .slice none 0 0]).below hb2 (by simp); obtain ⟨s2, c2, rfl, hbs2, hge2⟩ := own_bs hown2 (be_bts m) (by omega)))
    | (refine wpList_store_arr (by rfl) 59 (.tmp 2) (.tmp 5) (by rfl) w.heap.size #[.bool false, .slice s2 (be m).length c2, .slice none 0 0] (by rfl) (by rfl) 59 _ Z2 size25 rfl (one3 _ _ _ _ _ _ _) ?_))
  refine bodyPost_ret (v := .agg #[.bool false, .slice s2 (be m).length c2, .slice none 0 0]) (res_item Try.results45 rfl (Z2.setRow _)) rfl ⟨s2, c2, rfl, ?_, below_row (((Below.refl _ _).alloc (Nat.le_refl _) _).trans (hb2.mono (by simp))) (Nat.le_refl _) _⟩
  have hh : BSs (fun b => w.heap.size < b) w2 s2 (be m).length c2 (be m) := ⟨hbs2, own_mono hown2 (Nat.zero_le _), fun b off e => by have := (hge2 b off e).1; simp at this; omega⟩
  exact (hh.agree (w' := w2.setRow w.heap.size #[.bool false, .slice s2 (be m).length c2, .slice none 0 0]) ⟨by simp, fun b _ h => setRow_other _ _ _ _ (by omega)⟩).1

set_option maxRecDepth 100000 in
set_option maxHeartbeats 400000 in
theorem refReadNum_bad (l : Bool) (sp : Option Addr) (n cap : Nat) (sq : Option Addr) (k cq : Nat) (w : World) (h : l = true ∨ (0 : Int) < k ∨ (8 : Int) < n) :
    Calls Try.prog 31 #[.agg #[.bool l, .slice sp n cap, .slice sq k cq]] w fun e w' => e = .returned (.tuple #[.int .u64 0, .int .i64 8]) ∧ Below w.heap.size w w' := by
  cases l with
  | true =>
    go_enter Try.func31, Try.ntmps31
    go_wp2
    go_ret2
    exact ⟨rfl, (Below.refl _ _).alloc (Nat.le_refl _) _⟩
  | false =>
    by_cases hk : (0 : Int) < k
    · go_enter Try.func31, Try.ntmps31
      go_wp2
      go_ret2
      exact ⟨rfl, (Below.refl _ _).alloc (Nat.le_refl _) _⟩
    · have hn : (8 : Int) < n := by simp at h; omega
      clear h
      go_enter Try.func31, Try.ntmps31
      go_wp2
      go_ret2
      exact ⟨rfl, (Below.refl _ _).alloc (Nat.le_refl _) _⟩
set_option maxRecDepth 100000 in
set_option maxHeartbeats 400000 in
theorem refReadNum_zero (b off n cap : Nat) (sq : Option Addr) (cq : Nat) (w : World) (hn : (0 : Int) < n) (hn8 : ¬ (8 : Int) < n) (hc : w.cell? ⟨b, off, none⟩ = some (.int .u8 0)) :
    Calls Try.prog 31 #[.agg #[.bool false, .slice (some ⟨b, off, none⟩) n cap, .slice sq 0 cq]] w fun e w' => e = .returned (.tuple #[.int .u64 0, .int .i64 8]) ∧ Below w.heap.size w w' := by
  have hlt := block_lt_of_cell hc
  have hc' : ∀ o, (w.alloc o).cell? ⟨b, off, none⟩ = some (.int .u8 0) := fun o => by rw [World.cell?_alloc_lt _ _ _ hlt]; exact hc
  go_enter Try.func31, Try.ntmps31
  go_wp2
  go_ret2
  exact ⟨rfl, (Below.refl _ _).alloc (Nat.le_refl _) _⟩
set_option maxRecDepth 100000 in
set_option maxHeartbeats 1000000 in
theorem refReadNum_ok (sp : Option Addr) (n cap : Nat) (sq : Option Addr) (cq : Nat) (bs : List Int) (N : Nat) (w : World) (hS : BS N w sp n cap bs) (hn8 : ¬ (8 : Int) < n) (hy : 0 < n → ¬ bat bs 0 = 0) :
    Calls Try.prog 31 #[.agg #[.bool false, .slice sp n cap, .slice sq 0 cq]] w fun e w' => e = .returned (.tuple #[.int .u64 (num bs), .int .i64 0]) ∧ Below w.heap.size w w' := by
  have hl := hS.len
  have hb0 := (Below.refl w.heap.size w).alloc (Nat.le_refl _) (.cells #[.bool false, .slice sp n cap, .slice sq 0 cq] 59)
  have hS1 := hS.here.below hb0
  by_cases h0 : 0 < n
  · obtain ⟨b, off, rfl, -, hB⟩ := hS1.at0 h0
    have hnI : (0 : Int) < n := by omega
    have c0 := hB 0 h0
    rw [Nat.add_zero] at c0
    have hy1 := hy h0
    have hy2 : (bat bs 0 == 0) = false := by simpa using hy1
    replace hB := Hid.mk' hB
    clear hy
    go_enter Try.func31, Try.ntmps31
    go_wp2
    go_loopw [4, 5] (fun a i wr => ∃ k : Nat, k ≤ n ∧ i = .int .i64 k ∧ a = .int .u64 (num (bs.take k)) ∧ wr = w.alloc (.cells #[.bool false, .slice (some ⟨b, off, none⟩) n cap, .slice sq 0 cq] 59))
      (fun _ i _ => n - (intOf i).toNat)
    case atStart => exact ⟨0, by omega, rfl, rfl, rfl⟩
    case round =>
      obtain ⟨k, hk, rfl, rfl, rfl⟩ := hrel
      by_cases hlt : k < n
      · have h3 : (k : Int) < n := by omega
        have h4 : (0 : Int) ≤ k := by omega
        have c1 := hB.out k hlt
        have hnx := Hid.mk' (num_next hS.bts (by rw [← hl.out]; exact hlt) (by omega))
        go_wp2
        go_roundw
        case rel => exact ⟨k + 1, by omega, by go_num, by rw [← hnx.out], trivial⟩
        case measure => simp [intOf]; omega
      · obtain rfl : k = n := by omega
        go_wp2
        go_ret2
        refine ⟨?_, hb0⟩
        rw [hl.out, List.take_length]; rfl
  · obtain rfl : n = 0 := by omega
    obtain rfl : bs = [] := List.eq_nil_of_length_eq_zero hl.out.symm
    go_enter Try.func31, Try.ntmps31
    go_wp2
    go_loopw [4, 5] (fun a i wr => i = .int .i64 0 ∧ a = .int .u64 0 ∧ wr = w.alloc (.cells #[.bool false, .slice sp 0 cap, .slice sq 0 cq] 59)) (fun _ _ _ => 0)
    case atStart => exact ⟨rfl, rfl, rfl⟩
    case round =>
      obtain ⟨rfl, rfl, rfl⟩ := hrel
      go_wp2
      go_ret2
      exact ⟨rfl, hb0⟩

theorem refReadNum_any (l : Bool) (sp : Option Addr) (n cap : Nat) (sq : Option Addr) (k cq : Nat) (bs : List Int) (N : Nat) (w : World) (hS : BS N w sp n cap bs) :
    Calls Try.prog 31 #[.agg #[.bool l, .slice sp n cap, .slice sq k cq]] w fun e w' => e = .returned (.tuple #[.int .u64 (rnum l k bs).1, .int .i64 (rnum l k bs).2]) ∧ Below w.heap.size w w' := by
  have hl := hS.len.out
  by_cases h : l = true ∨ 0 < k ∨ 8 < n
  · have e : rnum l k bs = (0, 8) := by
      unfold rnum; rw [if_pos]; rw [← hl]
      rcases h with h | h | h
      · exact .inl h
      · exact .inr (.inl h)
      · exact .inr (.inr (.inl h))
    rw [e]
    exact refReadNum_bad l sp n cap sq k cq w (by rcases h with h | h | h; exact .inl h; exact .inr (.inl (by omega)); exact .inr (.inr (by omega)))
  · simp only [not_or] at h
    obtain ⟨h1, h2, h3⟩ := h
    obtain rfl : l = false := by simpa using h1
    obtain rfl : k = 0 := by omega
    by_cases hy : 0 < n ∧ bat bs 0 = 0
    · obtain ⟨b, off, e, -, hB⟩ := hS.at0 hy.1
      subst e
      have e : rnum false 0 bs = (0, 8) := by unfold rnum; rw [if_pos]; exact .inr (.inr (.inr ⟨by omega, hy.2⟩))
      rw [e]
      have hc := hB 0 hy.1
      rw [Nat.add_zero, hy.2] at hc
      exact refReadNum_zero b off n cap sq cq w (by omega) (by omega) hc
    · have e : rnum false 0 bs = (num bs, 0) := by
        unfold rnum; rw [if_neg]; rw [← hl]
        rintro (h | h | h | h)
        · cases h
        · omega
        · omega
        · exact hy h
      rw [e]
      exact refReadNum_ok sp n cap sq cq bs N w hS (by omega) (fun h0 h => hy ⟨h0, h⟩)

theorem num_is {w : World} {sp : Option Addr} {m cap : Nat} (hS : BS w.heap.size w sp (be m).length cap (be m)) : Is w.heap.size w 16 (.agg #[.bool false, .slice sp (be m).length cap, .slice none 0 0]) (some (wrap false (be m))) :=
  ⟨false, sp, _, cap, be m, none, 0, 0, [], ⟨rfl, hS, IS.nil0 _ _⟩, .inl ⟨rfl, rfl⟩⟩
theorem same_num (m : Nat) : same (some (wrap false (be m))) (some (wrap false (be m))) = true := by
  have h1 := (wrap_len false (be m)).2
  have h2 := be_len m
  rw [same, may_yes (by omega)]; simp

end Go.Proofs.Ytbjlmekafnpllab
