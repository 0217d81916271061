/- Layer merkle: the small functions. -/
import Derived.Test.YtgjnbpimldjkpaaMb
import Derived.Laws.BitsLemmas
namespace Go.Proofs.Ytgjnbpimldjkpaa
open Go.RowKit
set_option linter.unusedVariables false
set_option linter.unusedSimpArgs false

theorem i64_and1 (n : Int) : bits .and .i64 n 1 = n % 2 := by
  have h1 : (BitVec.ofInt 64 1).toNat = 2 ^ 1 - 1 := by decide
  have key : (BitVec.ofInt 64 n &&& BitVec.ofInt 64 1).toNat = (n % ((2 ^ 64 : Nat) : Int)).toNat % 2 ^ 1 := by
    rw [BitVec.toNat_and, BitVec.toNat_ofInt, h1, Nat.and_two_pow_sub_one_eq_mod]
  show IntKind.i64.wrap ((BitVec.ofInt 64 n &&& BitVec.ofInt 64 1).toNat : Nat) = n % 2
  rw [key, IntKind.wrap_i64]
  omega
theorem xor_one (a : Nat) : a ^^^ 1 = sib a := by
  have h1 : (a ^^^ 1) / 2 = a / 2 := by rw [Nat.xor_div_two]; simp
  have h2 : (a ^^^ 1) % 2 = (a + 1) % 2 := by
    have h := Nat.xor_mod_two_pow (a := a) (b := 1) (n := 1)
    simp only [Nat.pow_one] at h
    rw [h]
    rcases Nat.mod_two_eq_zero_or_one a with e | e <;> rw [e] <;> simp <;> omega
  unfold sib
  split <;> omega
theorem i64_xor1 (a : Nat) (ha : a < 9223372036854775806) : bits .xor .i64 (a : Int) 1 = (sib a : Nat) := by
  have h1 : (BitVec.ofInt 64 (a : Int)).toNat = a := by
    rw [BitVec.ofInt_natCast, BitVec.toNat_ofNat]; exact Nat.mod_eq_of_lt (by omega)
  have h2 : (BitVec.ofInt 64 1).toNat = 1 := by decide
  show IntKind.i64.wrap ((BitVec.ofInt 64 (a : Int) ^^^ BitVec.ofInt 64 1).toNat : Int) = _
  rw [BitVec.toNat_xor, h1, h2, xor_one, IntKind.wrap_i64]
  unfold sib
  split <;> omega
theorem pow16 {d : Nat} (h : d ≤ 16) : 2 ^ d ≤ 65536 := Nat.pow_le_pow_right (n := 2) (by omega) h
theorem pow17 {d : Nat} (h : d ≤ 17) : 2 ^ d ≤ 131072 := Nat.pow_le_pow_right (n := 2) (by omega) h
theorem powc (d : Nat) : ((2 : Int) ^ d) = ((2 ^ d : Nat) : Int) := (Int.natCast_pow 2 d).symm
theorem wrap_pow {d : Nat} (h : d ≤ 16) : wrap64 ((2 : Int) ^ d) = ((2 ^ d : Nat) : Int) := by
  have := pow16 h
  rw [powc]
  generalize 2 ^ d = p at *
  unfold wrap64; omega

set_option maxRecDepth 100000 in
set_option maxHeartbeats 400000 in
theorem mayDepth_any (d : Int) (w : World) : Calls Try.prog 36 #[.int .i64 d] w fun e w' => e = .returned (.bool (decide (0 ≤ d ∧ d ≤ 16))) ∧ w' = w := by
  by_cases h1 : 0 ≤ d
  · by_cases h2 : d ≤ 16
    · rw [decide_eq_true ⟨h1, h2⟩]
      go_enter Try.func36, Try.ntmps36
      go_wp2
      go_ret
      exact ⟨rfl, rfl⟩
    · rw [decide_eq_false (fun h => h2 h.2)]
      go_enter Try.func36, Try.ntmps36
      go_wp2
      go_ret
      exact ⟨rfl, rfl⟩
  · rw [decide_eq_false (fun h => h1 h.1)]
    go_enter Try.func36, Try.ntmps36
    go_wp2
    go_ret
    exact ⟨rfl, rfl⟩
set_option maxRecDepth 100000 in
set_option maxHeartbeats 400000 in
theorem width_any (d : Nat) (hd : d ≤ 16) (w : World) : Calls Try.prog 49 #[.int .i64 d] w fun e w' => e = .returned (.int .i64 (2 ^ d : Nat)) ∧ w' = w := by
  have hp := Hid.mk' (wrap_pow hd)
  go_enter Try.func49, Try.ntmps49
  go_wp2
  go_ret
  exact ⟨by rw [hp.out]; rfl, rfl⟩
set_option maxRecDepth 100000 in
set_option maxHeartbeats 400000 in
theorem isSecond_any (i k : Nat) (hi : i ≤ 9223372036854775807) (hk : k ≤ 17) (w : World) : Calls Try.prog 38 #[.int .i64 i, .int .i64 k] w fun e w' => e = .returned (.bool (decide ((i / 2 ^ k) % 2 = 1))) ∧ w' = w := by
  have hp : (bits .and .i64 ((i : Int) / 2 ^ k) 1 == 1) = decide ((i / 2 ^ k) % 2 = 1) := by
    rw [i64_and1, powc, ← Int.natCast_ediv]
    rw [Bool.eq_iff_iff, beq_iff_eq, decide_eq_true_eq]
    omega
  replace hp := Hid.mk' hp
  go_enter Try.func38, Try.ntmps38
  go_wp2
  go_ret
  exact ⟨by rw [hp.out]; rfl, rfl⟩
set_option maxRecDepth 100000 in
set_option maxHeartbeats 400000 in
theorem mayPlace_any (d : Nat) (hd : d ≤ 16) (i : Int) (w : World) : Calls Try.prog 37 #[.int .i64 d, .int .i64 i] w fun e w' => e = .returned (.bool (decide (0 ≤ i ∧ i < (2 ^ d : Nat)))) ∧ w' = w := by
  obtain ⟨p, hp⟩ : ∃ p : Int, p = (2 ^ d : Nat) := ⟨_, rfl⟩
  have hw : ∀ w, Calls Try.prog 49 #[.int .i64 d] w fun e w' => e = .returned (.int .i64 p) ∧ w' = w := fun w => by rw [hp]; exact width_any d hd w
  rw [← hp]
  clear hp
  by_cases h1 : 0 ≤ i
  · by_cases h2 : i < p
    · rw [decide_eq_true ⟨h1, h2⟩]
      go_enter Try.func37, Try.ntmps37
      go_wp2_with (go_at_call 49; go_must (refine (hw _).mono ?_; rintro e w2 ⟨rfl, rfl⟩))
      go_ret
      exact ⟨rfl, rfl⟩
    · rw [decide_eq_false (fun h => h2 h.2)]
      go_enter Try.func37, Try.ntmps37
      go_wp2_with (go_at_call 49; go_must (refine (hw _).mono ?_; rintro e w2 ⟨rfl, rfl⟩))
      go_ret
      exact ⟨by simp [h2], rfl⟩
  · rw [decide_eq_false (fun h => h1 h.1)]
    go_enter Try.func37, Try.ntmps37
    go_wp2_with (go_at_call 49; go_must (refine (hw _).mono ?_; rintro e w2 ⟨rfl, rfl⟩))
    go_ret
    exact ⟨rfl, rfl⟩
theorem pair_h (X Y : List Int) (w : World) (hX : X.length = 32) (hY : Y.length = 32) :
    Calls Try.prog 39 #[.agg (h8 X), .agg (h8 Y)] w fun e w' => e = .returned (.agg (h8 (pr X Y))) ∧ Below w.heap.size w w' := by
  have h := pair_any X Y w hX hY
  rw [sha_h8] at h
  exact h
/-- A sum out of memory. -/
theorem ld24 {ops : Array Oper} {rest : List Oper} {o : Oper} {a : Act} {w : World} {Q : Exit → Act → World → Prop} (hgd : o.guard = none) (x : Operand) (ho : o.op = .load 29 x)
    (b off : Nat) (hx : a.eval x = .pointer (some ⟨b, off, none⟩)) (X : List Int) (hX : X.length = 32) (hc : w.rangeAt b off (by8 X))
    (h : wpList Try.prog ops Q rest (a.put o.dst (.agg (h8 X))) w) : wpList Try.prog ops Q (o :: rest) a w :=
  wpList_load_mid hgd 29 x ho b off hx (by8 X) _ hc Try.underlying29 rfl (by rw [by8_len, hX]; exact size24) h
/-- A sum into a block of its own. -/
theorem st24 {ops : Array Oper} {rest : List Oper} {o : Oper} {a : Act} {w : World} {Q : Exit → Act → World → Prop} (hgd : o.guard = none) (x y : Operand) (ho : o.op = .store 29 x y)
    (g : Nat) (X Y : List Int) (hx : a.eval x = .pointer (some ⟨g, 0, none⟩)) (hy : a.eval y = .agg (h8 X)) (hX : X.length = 32) (hY : Y.length = 32) (hg : Arr w g 29 (h8 Y))
    (h : wpList Try.prog ops Q rest (a.put o.dst undef) (w.setRow g (h8 X))) : wpList Try.prog ops Q (o :: rest) a w :=
  wpList_store_arr hgd 29 x y ho g (h8 X) hx hy 29 _ hg (s24h8 hX) (by rw [h8_size, h8_size, hX, hY]) (h8_one X) h
/-- .. into the newest block. -/
theorem st24n {ops : Array Oper} {rest : List Oper} {o : Oper} {a : Act} {Q : Exit → Act → World → Prop} (hgd : o.guard = none) (x y : Operand) (ho : o.op = .store 29 x y) (W : World) (g : Nat) (hgW : W.heap.size = g) {z : Array Value} (hz : z.size = 32)
    (X : List Int) (hx : a.eval x = .pointer (some ⟨g, 0, none⟩)) (hy : a.eval y = .agg (h8 X)) (hX : X.length = 32)
    (h : wpList Try.prog ops Q rest (a.put o.dst undef) (W.alloc (.cells (h8 X) 29))) : wpList Try.prog ops Q (o :: rest) a (W.alloc (.cells z 29)) := by
  subst hgW
  exact wpList_store_new W z 29 hgd 29 x y ho (h8 X) hx hy (s24h8 hX) (by rw [hz, h8_size, hX]) (h8_one X) h
/-- What is returned out of a block. -/
theorem res24 {f : Func} {w : World} {tmps : Array Value} {g t : Nat} {X : List Int} (hf : f.results = #[.cell t 29]) (hp : tmps.getD t undef = .pointer (some ⟨g, 0, none⟩)) (hX : X.length = 32) (hA : Arr w g 29 (h8 X)) :
    (results f tmps).run Try.prog w = .ok (.agg (h8 X)) w := results_cell_row hf _ _ g 29 _ (0, 0) _ hp hA Try.underlying29 rfl (s24h8 hX)
theorem resP {f : Func} {w : World} {tmps : Array Value} {g t k : Nat} {X : List Int} {v : Value} (hf : f.results = #[.cell t 29, .tmp k]) (hp : tmps.getD t undef = .pointer (some ⟨g, 0, none⟩)) (hk : tmps.getD k undef = v) (hX : X.length = 32) (hA : Arr w g 29 (h8 X)) :
    (results f tmps).run Try.prog w = .ok (.tuple #[.agg (h8 X), v]) w := by
  have hl := run_loadVar_mid (P := Try.prog) w g 0 29 (by8 X) _ hA.range Try.underlying29 rfl (by rw [by8_len, hX]; exact size24)
  have hp' : tmps[t]?.getD undef = .pointer (some ⟨g, 0, none⟩) := by simpa using hp
  have hk' : tmps[k]?.getD undef = v := by simpa using hk
  simp [results, hf, hp', hk', asAddr, hl, h8]
end Go.Proofs.Ytgjnbpimldjkpaa
