/- Layer rlp, the document's answer: high, head. -/
import Derived.Test.YtbjlmekafnpllabRf
import Derived.Deep.DeepCutAuto
import Derived.Deep.RegionWith
import Derived.Deep.RegionLaw
namespace Go.Proofs.Ytbjlmekafnpllab
open Go.RowKit
set_option linter.unusedVariables false
set_option linter.unusedSimpArgs false

theorem pow256 (k : Nat) : (2 : Nat) ^ (8 * k) = 256 ^ k := by rw [Nat.pow_mul]
/-- One byte further down. -/
theorem be_down {m k : Nat} (hm : m ≤ 18446744073709551615) : be (m / 256 ^ k) = if m / 256 ^ k = 0 then [] else be (m / 256 ^ (k + 1)) ++ [((m / 256 ^ k % 256 : Nat) : Int)] := by
  have h1 : m / 256 ^ k ≤ m := Nat.div_le_self _ _
  rw [be_step _ (by omega), Nat.div_div_eq_div_mul, ← Nat.pow_succ]

theorem high_facts (m j : Nat) (hm : m ≤ 18446744073709551615) :
    (be (m / 256 ^ j) = be (m / 256 ^ (j + 1)) ∧ (be (m / 256 ^ (j + 1))).length = 0 ∧ (m : Int) / 2 ^ (8 * j) % 256 = 0) ∨
    (be (m / 256 ^ j) = be (m / 256 ^ (j + 1)) ++ [0] ∧ 0 < (be (m / 256 ^ (j + 1))).length ∧ (m : Int) / 2 ^ (8 * j) % 256 = 0) ∨
    (∃ c : Nat, c ≠ 0 ∧ be (m / 256 ^ j) = be (m / 256 ^ (j + 1)) ++ [(c : Int)] ∧ (m : Int) / 2 ^ (8 * j) % 256 = c) := by
  have hdn := be_down (m := m) (k := j) hm
  have hv : (m : Int) / 2 ^ (8 * j) % 256 = ((m / 256 ^ j % 256 : Nat) : Int) := by
    rw [← pow256 j, Int.natCast_emod, Int.natCast_ediv, Int.natCast_pow]; rfl
  have hq1 : m / 256 ^ (j + 1) = m / 256 ^ j / 256 := by rw [Nat.div_div_eq_div_mul, ← Nat.pow_succ]
  rw [hv, hdn, hq1]
  generalize m / 256 ^ j = q
  by_cases hq : q = 0
  · subst hq; exact .inl ⟨rfl, rfl, rfl⟩
  · rw [if_neg hq]
    by_cases hc : q % 256 = 0
    · exact .inr (.inl ⟨by rw [hc]; rfl, be_pos (by omega), by rw [hc]; rfl⟩)
    · exact .inr (.inr ⟨q % 256, hc, rfl, rfl⟩)

set_option maxRecDepth 100000 in
set_option maxHeartbeats 400000 in
theorem high_any (m : Nat) (w : World) (hm : m ≤ 18446744073709551615) :
    Calls Try.prog 59 #[.int .u64 m] w fun e w' => ∃ v, e = .returned v ∧ w'.ownsRow w.heap.size 5 1 v (be m).length (by8 (be m)) ∧ Below w.heap.size w w' := by
  have h256 : Hid (m / 256 ^ 8 = 0) := Nat.div_eq_of_lt (by omega)
  go_enter Try.func59, Try.ntmps59
  go_wp2
  go_loopw [3, 4] (fun v i wr => ∃ (k : Nat), k ≤ 8 ∧ i = .int .i64 ((k : Int) - 1) ∧ wr.ownsRow w.heap.size 5 1 v (be (m / 256 ^ k)).length (by8 (be (m / 256 ^ k))) ∧ Below w.heap.size w wr)
    (fun _ i _ => (intOf i + 1).toNat)
  case atStart => exact ⟨8, by omega, rfl, by rw [h256.out]; exact World.ownsRow_nil _ _ _ _, Below.refl _ _⟩
  case round =>
    obtain ⟨k, hk, rfl, hown, hbl⟩ := hrel
    by_cases hlt : 0 < k
    · obtain ⟨j, rfl⟩ : ∃ j, k = j + 1 := ⟨k - 1, by omega⟩
      have e1 : ((j + 1 : Nat) : Int) - 1 = j := by omega
      rw [e1]
      have h3 : (0 : Int) ≤ j := by omega
      have h4 : (j : Int) ≤ 7 := by omega
      have hfa := high_facts m j hm
      have hle := be_len (m / 256 ^ (j + 1))
      have hbt := be_bts (m / 256 ^ (j + 1))
      have hsz := hbl.size
      generalize be (m / 256 ^ (j + 1)) = B at *
      obtain ⟨sp, cap, rfl, hbs, -⟩ := own_bs hown hbt (by omega)
      rcases hfa with ⟨hB', hl0, hv⟩ | ⟨hB', hl0, hv⟩ | ⟨c, hc, hB', hv⟩
      · replace hB' := Hid.mk' hB'
        have hl0I : ¬ (0 : Int) < (B.length : Nat) := by omega
        clear e1 hlt hbt
        go_wp2
        go_roundw
        case rel =>
          refine ⟨j, by omega, rfl, ?_, hbl⟩
          rw [hB'.out]; exact hown
        case measure => simp [intOf]
      · replace hB' := Hid.mk' hB'
        have hl0I : (0 : Int) < (B.length : Nat) := by omega
        have hown' : (wr.alloc (.cells #[.int .u8 ((0 : Int))] 5)).ownsRow w.heap.size 5 1 (.slice sp B.length cap) B.length (by8 B) := hown.alloc _
        have hsl : SlL (wr.alloc (.cells #[.int .u8 ((0 : Int))] 5)) (some ⟨wr.heap.size, 0, none⟩) [(0 : Int)] := sl_one (by rw [(Arr.new wr 5 _).cell]; rfl)
        clear e1 hlt hbt
        go_wp2_with (at_builtin; go_must (refine append_bytes (by rfl) (.tmp 23) (.tmp 25) (by rfl) w.heap.size _ _ B (by rfl) hown' (some ⟨wr.heap.size, 0, none⟩) 1 1 [(0 : Int)] (by rfl) (by rfl) (fun e => by cases e) hsl (by omega) (by simp; omega) ?_; intro v1 w1 hown1 hg1))
        go_roundw
        case rel =>
          refine ⟨j, by omega, rfl, ?_, (hbl.alloc hsz _).grown hg1 (by simp; omega) (fun j e => own_ge hown j e)⟩
          rw [hB'.out]; simpa using hown1
        case measure => simp [intOf]
      · replace hB' := Hid.mk' hB'
        have hcI : ((c : Int) != 0) = true := by simpa using hc
        have hown' : (wr.alloc (.cells #[.int .u8 ((c : Int))] 5)).ownsRow w.heap.size 5 1 (.slice sp B.length cap) B.length (by8 B) := hown.alloc _
        have hsl : SlL (wr.alloc (.cells #[.int .u8 ((c : Int))] 5)) (some ⟨wr.heap.size, 0, none⟩) [(c : Int)] := sl_one (by rw [(Arr.new wr 5 _).cell]; rfl)
        clear e1 hlt hbt
        go_wp2_with (at_builtin; go_must (refine append_bytes (by rfl) (.tmp 23) (.tmp 25) (by rfl) w.heap.size _ _ B (by rfl) hown' (some ⟨wr.heap.size, 0, none⟩) 1 1 [(c : Int)] (by rfl) (by rfl) (fun e => by cases e) hsl (by omega) (by simp; omega) ?_; intro v1 w1 hown1 hg1))
        go_roundw
        case rel =>
          refine ⟨j, by omega, rfl, ?_, (hbl.alloc hsz _).grown hg1 (by simp; omega) (fun j e => own_ge hown j e)⟩
          rw [hB'.out]; simpa using hown1
        case measure => simp [intOf]
    · obtain rfl : k = 0 := by omega
      have e1 : ((0 : Nat) : Int) - 1 = -1 := rfl
      rw [e1]
      go_wp2
      go_ret
      exact ⟨_, rfl, by simpa using hown, hbl⟩

set_option maxRecDepth 100000 in
set_option maxHeartbeats 400000 in
theorem refHead_any (b : Int) (m : Nat) (w : World) (hb : b = 128 ∨ b = 192) (hm : m ≤ 140737488355328) :
    Calls Try.prog 58 #[.int .u8 b, .int .i64 m] w fun e w' => ∃ v, e = .returned v ∧ w'.ownsRow w.heap.size 5 1 v (hd b m).length (by8 (hd b m)) ∧ Below w.heap.size w w' := by
  by_cases h : m ≤ 55
  · have h3 : (m : Int) ≤ 55 := by omega
    have E := Hid.mk' (show hd b m = [b + m] by unfold hd; rw [if_pos h])
    go_enter Try.func58, Try.ntmps58
    go_wp2
    go_ret
    refine ⟨_, rfl, ?_, (Below.refl _ _).alloc (Nat.le_refl _) _⟩
    rw [E.out]
    exact World.ownsRow_lit _ _ _ (Nat.le_refl _) (by unfold maxLen; omega) rfl
  · have h3 : ¬ (m : Int) ≤ 55 := by omega
    have E := Hid.mk' (show hd b m = [b + 55 + (be m).length] ++ be m by unfold hd; rw [if_neg h]; rfl)
    have hl := be_len m
    go_enter Try.func58, Try.ntmps58
    go_wp2_with (first
      | (go_at_call 59; go_must (refine (high_any m _ (by omega)).mono ?_; rintro e w1 ⟨v1, rfl, hown1, hb1⟩; obtain ⟨sp, cap, rfl, hbs, -⟩ := own_bs hown1 (be_bts m) (by omega); have hlit : (w1.alloc (.cells #[.int .u8 (b + 55 + ((be m).length : Nat))] 5)).ownsRow w.heap.size 5 1 (.slice (some ⟨w1.heap.size, 0, none⟩) 1 1) 1 (by8 [b + 55 + ((be m).length : Nat)]) := World.ownsRow_lit _ _ _ hb1.size (by unfold maxLen; omega) rfl; have hS2 := (hbs.below ((Below.refl _ _).alloc (Nat.le_refl _) (.cells #[.int .u8 (b + 55 + ((be m).length : Nat))] 5))).sl))
      | (at_builtin; go_must (refine append_bytes (by rfl) (.tmp 22) (.tmp 23) (by rfl) w.heap.size _ 1 [b + 55 + ((be m).length : Nat)] (by rfl) hlit sp (be m).length cap (be m) (by rfl) (by rfl) hbs.nil hS2 (by omega) (by have := hb1.size; simp; omega) ?_; intro v2 w2 hown2 hg2)))
    go_ret
    refine ⟨v2, rfl, ?_, (hb1.alloc hb1.size _).grown hg2 (by have := hb1.size; simp; omega) (fun j e => own_ge hlit j e)⟩
    rw [E.out]
    simpa [Nat.add_comm] using hown2
theorem refHead_at (b x : Int) (m : Nat) (w : World) (hx : x = m) (hb : b = 128 ∨ b = 192) (hm : m ≤ 140737488355328) :
    Calls Try.prog 58 #[.int .u8 b, .int .i64 x] w fun e w' => ∃ v, e = .returned v ∧ w'.ownsRow w.heap.size 5 1 v (hd b m).length (by8 (hd b m)) ∧ Below w.heap.size w w' := by
  subst hx; exact refHead_any b m w hb hm
end Go.Proofs.Ytbjlmekafnpllab
