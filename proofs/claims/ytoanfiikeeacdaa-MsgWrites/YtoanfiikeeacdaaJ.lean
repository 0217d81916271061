/- Layer msg: Write. -/
import Derived.Test.YtoanfiikeeacdaaI
namespace Go.Proofs.Ytoanfiikeeacdaa
set_option linter.unusedSectionVars false
set_option maxHeartbeats 1000000
open Go.RowKit
set_option maxRecDepth 100000
set_option linter.unusedVariables false
set_option linter.unusedSimpArgs false

variable [DecidableEq Mg]
theorem index41 (f : Nat → Int) (k : Nat) (hk : k < 13) (w : World) : (Instr.index 41 (.agg (u64s 13 f)) (.int .i64 k)).run Try.prog w = .ok (.int .u64 (f k)) w := by
  have e : (u64s 13 f)[k]? = some (.int .u64 (f k)) := u64s_get hk
  simp [Instr.index, asIntOf, run_underlying Try.underlying41, Try.sizeOf23, part, Try.isAgg23, hk, e]
def wb (m : Mg) : List Int := if m.may then m.bytes else []
def WPost (m : Mg) (w : World) (e : Ending) (w' : World) : Prop := ∃ sp n cap, e = .returned (.tuple #[.slice sp n cap, .int .i64 (if m.may then 0 else 2)]) ∧ BS w'.heap.size w' sp n cap (wb m) ∧ Below w.heap.size w w'
theorem wb_no {m : Mg} (h : m.may = false) : wb m = [] := by unfold wb; rw [h]; rfl
theorem wb_yes {m : Mg} (h : m.may = true) : wb m = m.bytes := by unfold wb; rw [h]; rfl
theorem WPost.no {m : Mg} {w w' : World} (h : m.may = false) (hb : Below w.heap.size w w') : WPost m w (.returned (.tuple #[.slice none 0 0, .int .i64 2])) w' := ⟨none, 0, 0, by rw [h]; rfl, by rw [wb_no h]; exact BS.nil0 _ _, hb⟩
theorem WPost.yes {m : Mg} {w w' : World} {v : Value} {base : Nat} (hm : MgOK m) (h : m.may = true) (ho : w'.ownsRow base 5 1 v 104 (by8 m.bytes)) (hb : Below w.heap.size w w') : WPost m w (.returned (.tuple #[v, .int .i64 0])) w' := by
  obtain ⟨sp, cap, rfl, hS, -⟩ := own_bs ho (Mg.bbts hm) (by omega)
  exact ⟨sp, 104, cap, by rw [h]; rfl, by rw [wb_yes h]; exact hS, hb⟩
set_option maxHeartbeats 2000000 in
theorem write_any (m : Mg) (w : World) (hm : MgOK m) : Calls Try.prog 6 #[.agg m.arr] w (WPost m w) := by
  obtain ⟨i0, hi, hz0, hz1, hz2⟩ := info_parts info5
  have A0 := Arr.new w 27 m.arr
  have hB0 := alloc_bel' w (.cells m.arr 27)
  have hcat := Hid.mk' (Mg.cat hm)
  go_enter Try.func6, Try.ntmps6
  cases hmay : m.may
  · go_wp2_with (first
      | (refine atL 27 (.tmp 1) ?_; refine ld27 (by rfl) (.tmp 1) (by rfl) w.heap.size 27 (by rfl) m hm A0 ?_)
      | (go_at_call 8; go_must (refine (may_any m _ hm).mono ?_; rintro e w1 ⟨rfl, hb1⟩; have A1 := A0.bel hb1; have B1 := hB0.trans (hb1.mono (by simp)); clear A0)))
    go_ret2
    exact WPost.no hmay B1
  · go_upto_region 3 with (first
      | (refine atL 27 (.tmp 1) ?_; refine ld27 (by rfl) (.tmp 1) (by rfl) w.heap.size 27 (by rfl) m hm A0 ?_)
      | (go_at_call 8; go_must (refine (may_any m _ hm).mono ?_; rintro e w1 ⟨rfl, hb1⟩; have A1 := A0.bel hb1; have B1 := hB0.trans (hb1.mono (by simp)); clear A0)))
    have hs1 := B1.size
    have hA1 := A1.lt
    go_upto_region 5 with (first
      | (at_make; go_must (refine wpList_make_own _ (by rfl) (.const (.int .i64 0)) (.const (.int .i64 104)) 28 (by rfl) (w.heap.size + 1) 5 i0 (.int .u8 0) 1 Try.underlying28 hi hz0 hz1 .i64 .i64 _ 104 (by rfl) (by rfl) (by omega) (by rw [hz2]; omega) (Nat.le_trans (by omega) maxLen_ge) (by omega) ?_; intro w2 hown2 hg2; have hown2 : w2.ownsRow (w.heap.size + 1) 5 1 (.slice (some ⟨w1.heap.size, 0, none⟩) 0 104) 0 (by8 []) := (by simpa [by8] using hown2); have hs2 : w1.heap.size ≤ w2.heap.size := (by have := hg2.size; simpa using this); have A2 : Arr w2 w.heap.size 27 m.arr := A1.grown hg2 (by simp); have B2 : Below w.heap.size w w2 := B1.grown hg2 hs1 (by simp)))
      | (refine atL 27 (.tmp 1) ?_; refine ld27 (by rfl) (.tmp 1) (by rfl) w.heap.size 27 (by rfl) m hm A2 ?_)
      | (go_at_call 16; go_must (refine (wordsOf_any m _ hm).mono ?_; rintro e w3 ⟨rfl, hb3⟩; have B3 := B2.trans (hb3.mono B2.size); have hown3 := own_same hown2 (fun k hk => hb3.block k (own_lt hown2 hk)); have hs3 := hb3.size)))
    clear A1 A2 B1 B2 hown2 hb1 hg2 hb3
    go_loopw [4, 14] (fun u q wr => ∃ k : Nat, k ≤ 13 ∧ q = .int .i64 k ∧ wr.ownsRow (w.heap.size + 1) 5 1 u (8 * k) (by8 (cat (w13 m) k)) ∧ Below w.heap.size w wr ∧ w.heap.size + 1 ≤ wr.heap.size) (fun _ q _ => 13 - (intOf q).toNat)
    case atStart => exact ⟨0, by omega, rfl, hown3, B3, by omega⟩
    case round =>
      obtain ⟨k, hk, rfl, hou, hbl, hsz⟩ := hrel
      clear hown3 B3
      by_cases hlt : k < 13
      · have h3 : (k : Int) < 13 := by omega
        have h4 : (0 : Int) ≤ k := by omega
        have hix := index41 (w13 m) k hlt
        obtain ⟨x, hx⟩ : ∃ x, x = w13 m k := ⟨_, rfl⟩
        rw [← hx] at hix
        replace hx := Hid.mk' hx
        go_wp2_with fail
        go_loopw [4, 17] (fun u q wr => ∃ j : Nat, j ≤ 8 ∧ q = .int .i64 j ∧ wr.ownsRow (w.heap.size + 1) 5 1 u (8 * k + j) (by8 (cat (w13 m) k ++ (e8 x).take j)) ∧ Below w.heap.size w wr ∧ w.heap.size + 1 ≤ wr.heap.size) (fun _ q _ => 8 - (intOf q).toNat)
        case atStart => exact ⟨0, by omega, rfl, by simpa using hou, hbl, hsz⟩
        case round =>
          obtain ⟨j, hj, rfl, hou2, hbl2, hsz2⟩ := hrel
          clear hou hbl hsz
          by_cases hlt2 : j < 8
          · have h5 : (j : Int) < 8 := by omega
            have h6 : (0 : Int) ≤ j := by omega
            have hs0 : (0 : Int) ≤ 7 - (j : Int) := by omega
            have hs1' : (0 : Int) ≤ 8 * (7 - (j : Int)) := by omega
            have hw1 : IntKind.i64.wrap (7 - (j : Int)) = 7 - j := by rw [IntKind.wrap_i64]; omega
            have hw2 : IntKind.i64.wrap (8 * (7 - (j : Int))) = 8 * (7 - j) := by rw [IntKind.wrap_i64]; omega
            have hw3 : (8 * (7 - (j : Int))).toNat = 56 - 8 * j := by omega
            have het : Hid ((e8 x).take (j + 1) = (e8 x).take j ++ [x / 2 ^ (56 - 8 * j) % 256]) := Hid.mk' (e8_take hlt2)
            go_wp2_with (at_builtin; go_must (refine append_bytes (by rfl) (.tmp 20) (.tmp 27) (by rfl) (w.heap.size + 1) _ (8 * k + j) (cat (w13 m) k ++ (e8 x).take j) (by rfl) (hou2.alloc _) (some ⟨wr.heap.size, 0, none⟩) 1 1 [x / 2 ^ (56 - 8 * j) % 256] (by rfl) (by rfl) (fun h => by cases h) (Arr.sl (Arr.new wr 5 _)) (by omega) (by simp; omega) ?_; intro v2 w2 hown2 hg2; have hB2 := (hbl2.alloc hbl2.size _).grown hg2 (by simp; omega) (fun k e => by have := own_ge hou2 k e; omega); have hs2 : w.heap.size + 1 ≤ w2.heap.size := (by have := hg2.size; simp at this; omega)))
            go_roundw
            case rel => exact ⟨j + 1, by omega, by go_num, by rw [het.out, ← List.append_assoc]; exact hown2, hB2, hs2⟩
            case measure => simp [intOf]; omega
          · obtain rfl : j = 8 := by omega
            have e8' : Hid (cat (w13 m) k ++ (e8 x).take 8 = cat (w13 m) (k + 1)) := Hid.mk' (by rw [List.take_of_length_le (by rw [e8_len]; exact Nat.le_refl _), hx.out]; rfl)
            go_wp2_with fail
            go_roundw
            case rel => exact ⟨k + 1, by omega, by go_num, by rw [← e8'.out]; exact hou2, hbl2, hsz2⟩
            case measure => simp [intOf]; omega
      · obtain rfl : k = 13 := by omega
        go_wp2_with fail
        go_ret2
        exact WPost.yes hm hmay (by rw [← hcat.out]; exact hou) hbl
end Go.Proofs.Ytoanfiikeeacdaa
