/- Layer merkle: the document's Proof. -/
import Derived.Test.YthpinikdkfiagaaMx
namespace Go.Proofs.Ythpinikdkfiagaa
open Go.RowKit Go.Shelf
set_option linter.unusedVariables false
set_option linter.unusedSimpArgs false

/-- append of a sum to a slice of the call's own, which may grow. -/
theorem ag24 {ops : Array Oper} {rest : List Oper} {o : Oper} {a : Act} {w : World} {Q : Exit → Act → World → Prop} (hgd : o.guard = none) (s x : Operand) (ho : o.op = .call { callee := .builtin .append, args := #[s, x], argTypes := #[22, 22] })
    (base k : Nat) (v : Value) (ls : List (List Int)) (X : List Int) (hs : a.eval s = v) (hown : w.ownsRow base 24 32 v k (flat32 ls))
    (gx c : Nat) (hx : a.eval x = .slice (some ⟨gx, 0, none⟩) 1 c) (hA : Arr w gx 24 (h8 X)) (hX : X.length = 32) (hk : k ≤ 1000) (hbase : base ≤ w.heap.size)
    (h : ∀ v' w', w'.ownsRow base 24 32 v' (k + 1) (flat32 (ls ++ [X])) → w.grownBy w' v.ownBlock → wpList Try.prog ops Q rest (a.put o.dst v') w') : wpList Try.prog ops Q (o :: rest) a w := by
  obtain ⟨i0, hi0, hz0, hz1, hz2⟩ := info_parts info24
  refine wpList_append_own w hgd s x 22 ho base 24 i0 (.agg (h8 Z32)) 32 32 Try.underlying22 hi0 hz0 hz1 hz2 (by show (h8 Z32).size = 32; rw [h8_size, Z32_len]) (by omega) v k _ hs hown ⟨gx, 0, none⟩ 1 c (by8 X) hx (by rw [by8_len, hX]) (fun j u hj => by
    rw [Addr.add_mid]; exact hA.range j u hj) (by8_one X) (by unfold maxLen; omega) (by omega) hbase (fun v' w' h1 h2 _ => h v' w' (by rw [flat32_app]; exact h1) h2)
theorem grown_below {B : Nat} {a w w' : World} {r : Option Nat} (h : Below B a w) (hg : w.grownBy w' r) (hr : ∀ k, r = some k → B ≤ k) (hB : B ≤ w.heap.size) : Below B a w' :=
  h.trans ⟨hg.os, hg.tape, hg.output, hg.size, fun k hk => hg.block k (by omega) (fun e => by have := hr k e.symm; omega)⟩
theorem sib_le2 {j m : Nat} (h : j ≤ m) : sib j ≤ m + 1 := by unfold sib; split <;> omega

set_option maxRecDepth 100000 in
set_option maxHeartbeats 2000000 in
/-- The document's Proof, where it has no error. -/
theorem refProof_ok (d i N : Nat) (sp : Option Addr) (n cap : Nat) (ls : List (List Int)) (w : World) (hd : d ≤ 16) (hi : i < 2 ^ d) (hn : n ≤ 2 ^ d) (hS : HS N w sp n cap ls) :
    Calls Try.prog 11 #[.int .i64 d, .slice sp n cap, .int .i64 i] w fun e w' => ∃ v, e = .returned (.tuple #[v, .int .i64 0]) ∧ w'.ownsRow w.heap.size 24 32 v d (flat32 (pf d ls i)) ∧ Below w.heap.size w w' := by
  have hS := hS.here
  have hsm := hS.small
  have hl := hS.len
  have hbad : ∀ w, Calls Try.prog 25 #[.int .i64 d, .int .i64 n] w fun e w' => e = .returned (.int .i64 0) ∧ w' = w := fun w => by
    have h := refBad_any d n w
    have e : rE d n = 0 := by unfold rE; rw [if_pos ⟨by omega, by omega⟩, if_pos (by simpa using hn)]
    rwa [e] at h
  have hwd := wrap_pow hd
  have hp16 := pow16 hd
  obtain ⟨p, hp⟩ : ∃ p : Nat, p = 2 ^ d := ⟨_, rfl⟩
  rw [← hp] at hwd hi hn hp16
  replace hp := Hid.mk' hp
  have hiI : ¬ (p : Int) ≤ i := by omega
  have hdI : ¬ (16 : Int) < d := by omega
  go_enter Try.func11, Try.ntmps11
  go_wp2_with (first
    | (go_at_call 25; go_must (refine (hbad _).mono ?_; rintro e w1 ⟨rfl, hw1⟩; replace hw1 := hw1.symm; subst hw1)))
  go_loopw [9, 10] (fun q1 q2 wr => ∃ (v : Value) (k : Nat), q1 = v ∧ q2 = .int .i64 (k : Int) ∧ k ≤ d ∧ wr.ownsRow w.heap.size 24 32 v k (flat32 (pf k ls i)) ∧ Below w.heap.size w wr) (fun _ q _ => d - (intOf q).toNat)
  case atStart => exact ⟨_, 0, rfl, rfl, by omega, World.ownsRow_nil _ _ _ _, Below.refl _ _⟩
  case round =>
    obtain ⟨v, k, rfl, rfl, hk, hown, hbl⟩ := hrel
    have hsz := hbl.size
    by_cases hlt : k < d
    · have hI : (k : Int) < d := by omega
      have hk16 : k ≤ 16 := by omega
      have hwk := wrap_pow hk16
      have hq16 := pow16 hk16
      have hq0 : 0 < 2 ^ k := Nat.pow_pos (by omega)
      have hpf : pf (k + 1) ls i = pf k ls i ++ [tr k ((ls.drop (sib (i / 2 ^ k) * 2 ^ k)).take (2 ^ k))] := by rw [pf_succ, tr_take]
      obtain ⟨s, hs⟩ : ∃ s : Nat, s = 2 ^ k := ⟨_, rfl⟩
      rw [← hs] at hwk hq16 hq0 hpf
      replace hs := Hid.mk' hs
      have hsz0 : ¬ (s : Int) = 0 := by omega
      obtain ⟨c, hc⟩ : ∃ c : Nat, c = i / s := ⟨_, rfl⟩
      have hcI : (i : Int) / (s : Int) = (c : Int) := by rw [hc]; exact (Int.natCast_ediv i s).symm
      have hc16 : c ≤ 65536 := by rw [hc]; exact Nat.le_trans (Nat.div_le_self i s) (by omega)
      have hxb := i64_xor1 c (by omega)
      have hb16 := sib_le2 hc16
      rw [← hc] at hpf
      obtain ⟨b, hb⟩ : ∃ b : Nat, b = sib c := ⟨_, rfl⟩
      rw [← hb] at hpf hxb hb16
      replace hb := Hid.mk' hb
      replace hc := Hid.mk' hc
      have hbs : b * s ≤ 65537 * 65536 := Nat.mul_le_mul hb16 hq16
      obtain ⟨q, hq⟩ : ∃ q : Nat, q = b * s := ⟨_, rfl⟩
      rw [← hq] at hpf hbs
      have hqI : (b : Int) * (s : Int) = (q : Int) := by rw [hq]; exact (Int.natCast_mul b s).symm
      have hqI2 : ((b : Int) + 1) * (s : Int) = ((q + s : Nat) : Int) := by rw [Int.add_mul, hqI, Int.one_mul]; exact (Int.natCast_add q s).symm
      replace hq := Hid.mk' hq
      have hpart := fun w x hx hS => part_any q s w.heap.size sp n cap ls w x hx (by omega) hq16 hS
      have hH := (hS.below hbl).mono (show w.heap.size ≤ wr.heap.size by omega)
      have hl32 : ∀ X ∈ (ls.drop q).take s, X.length = 32 := fun X hX => hS.l32 X (List.mem_of_mem_drop (List.mem_of_mem_take hX))
      generalize (ls.drop q).take s = hl at *
      have ht32 := tr_len k hl hl32
      have hroot := fun N sp n cap w x hx hS => refroot_any k N sp n cap hl w x hx hk16 hS
      replace hpf := Hid.mk' hpf
      generalize tr k hl = Y at *
      go_wp2_with (first
        | (refine ag24 (by rfl) _ _ (by rfl) w.heap.size k _ (pf k ls i) Y (by rfl) (own3.alloc _) w3.heap.size 1 (by rfl) (Arr.new w3 24 (h8 Y)) ht32 (by omega) (by simp; omega) ?_; intro v' w4 hown4 hg4)
        | (refine b1L (by rfl) _ (by rfl) Y (by rfl) ht32 ?_)
        | (go_at_call 26; go_must (refine (hroot _ _ _ _ _ _ (by rfl) hP).mono ?_; rintro e w3 ⟨rfl, hb3⟩; have hs3 := hb3.size; have own3 := own_same hown (fun k hk => hb3.block k (hown.lt k hk).2)))
        | (go_at_call 30; go_must (refine (hpart _ _ (by first | rfl | exact hqI2) hH).mono ?_; rintro e w2 ⟨sp', n', cap', rfl, hw2, hP⟩; cases hw2)))
      go_roundw
      case rel => exact ⟨_, k + 1, rfl, by go_num, by omega, by rw [hpf.out]; exact hown4, grown_below ((hbl.trans (hb3.mono hsz)).alloc (by omega) _) hg4 (fun k hk => (hown.lt k hk).1) (by simp; omega)⟩
      case measure => simp [intOf]; omega
    · obtain rfl : k = d := by omega
      have hI : ¬ (k : Int) < k := by omega
      go_wp2
      go_ret2
      exact ⟨_, rfl, hown, hbl⟩
end Go.Proofs.Ythpinikdkfiagaa
