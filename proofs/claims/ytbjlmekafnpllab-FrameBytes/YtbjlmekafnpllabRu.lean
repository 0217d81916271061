/- Layer rlp: Num, ReadNum. -/
import Derived.Test.YtbjlmekafnpllabRt
namespace Go.Proofs.Ytbjlmekafnpllab
open Go.RowKit
set_option linter.unusedVariables false
set_option linter.unusedSimpArgs false

set_option maxRecDepth 100000 in
set_option maxHeartbeats 400000 in
theorem num_any (m : Nat) (w : World) (hm : m ≤ 18446744073709551615) :
    Calls Try.prog 25 #[.int .u64 m] w fun e w' => ∃ sp cap, e = .returned (.agg #[.bool false, .slice sp (be m).length cap, .slice none 0 0]) ∧ BS w'.heap.size w' sp (be m).length cap (be m) ∧ Below w.heap.size w w' := by
  have hl := be_len m
  go_enter Try.func25, Try.ntmps25
  go_wp2_with (first
    | (go_at_call 41; go_must (refine (highest_u64 m _ hm).mono ?_; rintro e w2 ⟨v2, rfl, hown2, hb2⟩; have Z2 := (Arr.new w 59 #[.bool false, .slice none 0 0, .slice none 0 0]).below hb2 (by simp); obtain ⟨s2, c2, rfl, hbs2, hge2⟩ := own_bs hown2 (be_bts m) (by omega)))
    | (refine wpList_store_arr (by rfl) 59 (.tmp 2) (.tmp 5) (by rfl) w.heap.size #[.bool false, .slice s2 (be m).length c2, .slice none 0 0] (by rfl) (by rfl) 59 _ Z2 size25 rfl (one3 _ _ _ _ _ _ _) ?_))
  refine bodyPost_ret (v := .agg #[.bool false, .slice s2 (be m).length c2, .slice none 0 0]) (res_item Try.results25 rfl (Z2.setRow _)) rfl ⟨s2, c2, rfl, ?_, below_row (((Below.refl _ _).alloc (Nat.le_refl _) _).trans (hb2.mono (by simp))) (Nat.le_refl _) _⟩
  have hh : BSs (fun b => w.heap.size < b) w2 s2 (be m).length c2 (be m) := ⟨hbs2, own_mono hown2 (Nat.zero_le _), fun b off e => by have := (hge2 b off e).1; simp at this; omega⟩
  exact (hh.agree (w' := w2.setRow w.heap.size #[.bool false, .slice s2 (be m).length c2, .slice none 0 0]) ⟨by simp, fun b _ h => setRow_other _ _ _ _ (by omega)⟩).1

/-- What is read of an item as a number. -/
def rnum (l : Bool) (k : Nat) (bs : List Int) : Int × Int :=
  if l = true ∨ 0 < k ∨ 8 < bs.length ∨ (0 < bs.length ∧ bat bs 0 = 0) then (0, 8) else (num bs, 0)

set_option maxRecDepth 100000 in
set_option maxHeartbeats 400000 in
theorem readNum_bad (l : Bool) (sp : Option Addr) (n cap : Nat) (sq : Option Addr) (k cq : Nat) (w : World) (h : l = true ∨ (0 : Int) < k ∨ (8 : Int) < n) :
    Calls Try.prog 50 #[.agg #[.bool l, .slice sp n cap, .slice sq k cq]] w fun e w' => e = .returned (.tuple #[.int .u64 0, .int .i64 8]) ∧ Below w.heap.size w w' := by
  cases l with
  | true =>
    go_enter Try.func50, Try.ntmps50
    go_wp2
    go_ret2
    exact ⟨rfl, (Below.refl _ _).alloc (Nat.le_refl _) _⟩
  | false =>
    by_cases hk : (0 : Int) < k
    · go_enter Try.func50, Try.ntmps50
      go_wp2
      go_ret2
      exact ⟨rfl, (Below.refl _ _).alloc (Nat.le_refl _) _⟩
    · have hn : (8 : Int) < n := by simp at h; omega
      clear h
      go_enter Try.func50, Try.ntmps50
      go_wp2
      go_ret2
      exact ⟨rfl, (Below.refl _ _).alloc (Nat.le_refl _) _⟩
set_option maxRecDepth 100000 in
set_option maxHeartbeats 400000 in
theorem readNum_zero (b off n cap : Nat) (sq : Option Addr) (cq : Nat) (w : World) (hn : (0 : Int) < n) (hn8 : ¬ (8 : Int) < n) (hc : w.cell? ⟨b, off, none⟩ = some (.int .u8 0)) :
    Calls Try.prog 50 #[.agg #[.bool false, .slice (some ⟨b, off, none⟩) n cap, .slice sq 0 cq]] w fun e w' => e = .returned (.tuple #[.int .u64 0, .int .i64 8]) ∧ Below w.heap.size w w' := by
  have hlt := block_lt_of_cell hc
  have hc' : ∀ o, (w.alloc o).cell? ⟨b, off, none⟩ = some (.int .u8 0) := fun o => by rw [World.cell?_alloc_lt _ _ _ hlt]; exact hc
  go_enter Try.func50, Try.ntmps50
  go_wp2
  go_ret2
  exact ⟨rfl, (Below.refl _ _).alloc (Nat.le_refl _) _⟩
set_option maxRecDepth 100000 in
set_option maxHeartbeats 400000 in
theorem readNum_none (sp : Option Addr) (cap : Nat) (sq : Option Addr) (cq : Nat) (N : Nat) (w : World) (hS : BS N w sp 0 cap []) :
    Calls Try.prog 50 #[.agg #[.bool false, .slice sp 0 cap, .slice sq 0 cq]] w fun e w' => e = .returned (.tuple #[.int .u64 0, .int .i64 0]) ∧ Below w.heap.size w w' := by
  have hS1 : ∀ o, BS w.heap.size (w.alloc o) sp 0 cap [] := fun o => hS.here.below ((Below.refl _ _).alloc (Nat.le_refl _) _)
  go_enter Try.func50, Try.ntmps50
  go_wp2_with (go_at_call 62; go_must (refine (number_any _ sp 0 cap [] _ (hS1 _) (by omega)).mono ?_; rintro e w2 ⟨rfl, rfl⟩))
  go_ret2
  exact ⟨rfl, (Below.refl _ _).alloc (Nat.le_refl _) _⟩
set_option maxRecDepth 100000 in
set_option maxHeartbeats 400000 in
theorem readNum_some (b off n cap : Nat) (sq : Option Addr) (cq : Nat) (bs : List Int) (N : Nat) (w : World) (hS : BS N w (some ⟨b, off, none⟩) n cap bs) (hn : (0 : Int) < n) (hn8 : ¬ (8 : Int) < n) (hy : ¬ bat bs 0 = 0) :
    Calls Try.prog 50 #[.agg #[.bool false, .slice (some ⟨b, off, none⟩) n cap, .slice sq 0 cq]] w fun e w' => e = .returned (.tuple #[.int .u64 (num bs), .int .i64 0]) ∧ Below w.heap.size w w' := by
  obtain ⟨b', off', e, -, hB⟩ := hS.at0 (by omega)
  cases e
  have hc := hB 0 (by omega)
  rw [Nat.add_zero] at hc
  have hlt := block_lt_of_cell hc
  have hc' : ∀ o, (w.alloc o).cell? ⟨b, off, none⟩ = some (.int .u8 (bat bs 0)) := fun o => by rw [World.cell?_alloc_lt _ _ _ hlt]; exact hc
  have hy2 : (bat bs 0 == 0) = false := by simpa using hy
  have hS1 : ∀ o, BS w.heap.size (w.alloc o) (some ⟨b, off, none⟩) n cap bs := fun o => hS.here.below ((Below.refl _ _).alloc (Nat.le_refl _) _)
  clear hB
  go_enter Try.func50, Try.ntmps50
  go_wp2_with (go_at_call 62; go_must (refine (number_any _ _ n cap bs _ (hS1 _) (by omega)).mono ?_; rintro e w2 ⟨rfl, rfl⟩))
  go_ret2
  exact ⟨rfl, (Below.refl _ _).alloc (Nat.le_refl _) _⟩

theorem readNum_any (l : Bool) (sp : Option Addr) (n cap : Nat) (sq : Option Addr) (k cq : Nat) (bs : List Int) (N : Nat) (w : World) (hS : BS N w sp n cap bs) :
    Calls Try.prog 50 #[.agg #[.bool l, .slice sp n cap, .slice sq k cq]] w fun e w' => e = .returned (.tuple #[.int .u64 (rnum l k bs).1, .int .i64 (rnum l k bs).2]) ∧ Below w.heap.size w w' := by
  have hl := hS.len.out
  by_cases h : l = true ∨ 0 < k ∨ 8 < n
  · have e : rnum l k bs = (0, 8) := by
      unfold rnum; rw [if_pos]; rw [← hl]
      rcases h with h | h | h
      · exact .inl h
      · exact .inr (.inl h)
      · exact .inr (.inr (.inl h))
    rw [e]
    exact readNum_bad l sp n cap sq k cq w (by rcases h with h | h | h; exact .inl h; exact .inr (.inl (by omega)); exact .inr (.inr (by omega)))
  · simp only [not_or] at h
    obtain ⟨h1, h2, h3⟩ := h
    obtain rfl : l = false := by simpa using h1
    obtain rfl : k = 0 := by omega
    by_cases h0 : n = 0
    · subst h0
      obtain rfl : bs = [] := List.eq_nil_of_length_eq_zero hl.symm
      exact readNum_none sp cap sq cq N w hS
    · obtain ⟨b, off, e, -, hB⟩ := hS.at0 (by omega)
      subst e
      by_cases hy : bat bs 0 = 0
      · have e : rnum false 0 bs = (0, 8) := by unfold rnum; rw [if_pos]; exact .inr (.inr (.inr ⟨by omega, hy⟩))
        rw [e]
        have hc := hB 0 (by omega)
        rw [Nat.add_zero, hy] at hc
        exact readNum_zero b off n cap sq cq w (by omega) (by omega) hc
      · have e : rnum false 0 bs = (num bs, 0) := by
          unfold rnum; rw [if_neg]; rw [← hl]
          rintro (h | h | h | h)
          · cases h
          · omega
          · omega
          · exact hy h.2
        rw [e]
        exact readNum_some b off n cap sq cq bs N w hS (by omega) (by omega) hy
theorem rnum_be {m : Nat} (hm : m ≤ 18446744073709551615) : rnum false 0 (be m) = ((m : Int), 0) := by
  unfold rnum
  rw [if_neg, num_be m (by omega)]
  rintro (h | h | h | h)
  · cases h
  · omega
  · have := be_len m; omega
  · by_cases h0 : m = 0
    · subst h0; simp [be_zero] at h
    · exact be_first (by omega) h0 h.2
end Go.Proofs.Ytbjlmekafnpllab
