/- My, Mz. -/
import Derived.Test.YtlebojbfcolkhaaA19
/- Layer merkle: the document's Proof. -/
namespace Go.Proofs.Ytlebojbfcolkhaa
open Go.RowKit Go.Shelf
set_option maxRecDepth 100000
set_option linter.unusedVariables false
set_option linter.unusedSimpArgs false

/-- append of a sum to a slice of the call's own, which may grow. -/
theorem ag24 {ops : Array Oper} {rest : List Oper} {o : Oper} {a : Act} {w : World} {Q : Exit → Act → World → Prop} (hgd : o.guard = none) (s x : Operand) (ho : o.op = .call { callee := .builtin .append, args := #[s, x], argTypes := #[42, 42] })
    (base k : Nat) (v : Value) (ls : List (List Int)) (X : List Int) (hs : a.eval s = v) (hown : w.ownsRow base 24 32 v k (flat32 ls))
    (gx c : Nat) (hx : a.eval x = .slice (some ⟨gx, 0, none⟩) 1 c) (hA : Arr w gx 24 (h8 X)) (hX : X.length = 32) (hk : k ≤ 1000) (hbase : base ≤ w.heap.size)
    (h : ∀ v' w', w'.ownsRow base 24 32 v' (k + 1) (flat32 (ls ++ [X])) → w.grownBy w' v.ownBlock → wpList Try.prog ops Q rest (a.put o.dst v') w') : wpList Try.prog ops Q (o :: rest) a w := by
  obtain ⟨i0, hi0, hz0, hz1, hz2⟩ := info_parts info24
  refine wpList_append_own w hgd s x 42 ho base 24 i0 (.agg (h8 Z32)) 32 32 Try.underlying42 hi0 hz0 hz1 hz2 (by show (h8 Z32).size = 32; rw [h8_size, Z32_len]) (by omega) v k _ hs hown ⟨gx, 0, none⟩ 1 c (by8 X) hx (by rw [by8_len, hX]) (fun j u hj => by
    rw [Addr.add_mid]; exact hA.range j u hj) (by8_one X) (by unfold maxLen; omega) (by omega) hbase (fun v' w' h1 h2 _ => h v' w' (by rw [flat32_app]; exact h1) h2)
theorem grown_below {B : Nat} {a w w' : World} {r : Option Nat} (h : Below B a w) (hg : w.grownBy w' r) (hr : ∀ k, r = some k → B ≤ k) (hB : B ≤ w.heap.size) : Below B a w' :=
  h.trans ⟨hg.os, hg.tape, hg.output, hg.size, fun k hk => hg.block k (by omega) (fun e => by have := hr k e.symm; omega)⟩
theorem sib_le2 {j m : Nat} (h : j ≤ m) : sib j ≤ m + 1 := by unfold sib; split <;> omega

set_option maxRecDepth 100000 in
set_option maxHeartbeats 2000000 in
/-- The document's Proof, where it has no error. -/
theorem refProof_ok (d i N : Nat) (sp : Option Addr) (n cap : Nat) (ls : List (List Int)) (w : World) (hd : d ≤ 16) (hi : i < 2 ^ d) (hn : n ≤ 2 ^ d) (hS : HS N w sp n cap ls) :
    Calls Try.prog 54 #[.int .i64 d, .slice sp n cap, .int .i64 i] w fun e w' => ∃ v, e = .returned (.tuple #[v, .int .i64 0]) ∧ w'.ownsRow w.heap.size 24 32 v d (flat32 (pf d ls i)) ∧ Below w.heap.size w w' := by
  have hS := hS.here
  have hsm := hS.small
  have hl := hS.len
  have hbad : ∀ w, Calls Try.prog 75 #[.int .i64 d, .int .i64 n] w fun e w' => e = .returned (.int .i64 0) ∧ w' = w := fun w => by
    have h := refBad_any d n w
    have e : rE d n = 0 := by unfold rE; rw [if_pos ⟨by omega, by omega⟩, if_pos (by simpa using hn)]
    rwa [e] at h
  have hwd := wrap_pow hd
  have hp16 := pow16 hd
  obtain ⟨p, hp⟩ : ∃ p : Nat, p = 2 ^ d := ⟨_, rfl⟩
  rw [← hp] at hwd hi hn hp16
  replace hp := Hid.mk' hp
  have hiI : ¬ (p : Int) ≤ i := by omega
  have hdI : ¬ (16 : Int) < d := by omega
  go_enter Try.func54, Try.ntmps54
  go_wp2_with (first
    | (go_at_call 75; go_must (refine (hbad _).mono ?_; rintro e w1 ⟨rfl, hw1⟩; replace hw1 := hw1.symm; subst hw1)))
  go_loopw [9, 10] (fun q1 q2 wr => ∃ (v : Value) (k : Nat), q1 = v ∧ q2 = .int .i64 (k : Int) ∧ k ≤ d ∧ wr.ownsRow w.heap.size 24 32 v k (flat32 (pf k ls i)) ∧ Below w.heap.size w wr) (fun _ q _ => d - (intOf q).toNat)
  case atStart => exact ⟨_, 0, rfl, rfl, by omega, World.ownsRow_nil _ _ _ _, Below.refl _ _⟩
  case round =>
    obtain ⟨v, k, rfl, rfl, hk, hown, hbl⟩ := hrel
    have hsz := hbl.size
    by_cases hlt : k < d
    · have hI : (k : Int) < d := by omega
      have hk16 : k ≤ 16 := by omega
      have hwk := wrap_pow hk16
      have hq16 := pow16 hk16
      have hq0 : 0 < 2 ^ k := Nat.pow_pos (by omega)
      have hpf : pf (k + 1) ls i = pf k ls i ++ [tr k ((ls.drop (sib (i / 2 ^ k) * 2 ^ k)).take (2 ^ k))] := by rw [pf_succ, tr_take]
      obtain ⟨s, hs⟩ : ∃ s : Nat, s = 2 ^ k := ⟨_, rfl⟩
      rw [← hs] at hwk hq16 hq0 hpf
      replace hs := Hid.mk' hs
      have hsz0 : ¬ (s : Int) = 0 := by omega
      obtain ⟨c, hc⟩ : ∃ c : Nat, c = i / s := ⟨_, rfl⟩
      have hcI : (i : Int) / (s : Int) = (c : Int) := by rw [hc]; exact (Int.natCast_ediv i s).symm
      have hc16 : c ≤ 65536 := by rw [hc]; exact Nat.le_trans (Nat.div_le_self i s) (by omega)
      have hxb := i64_xor1 c (by omega)
      have hb16 := sib_le2 hc16
      rw [← hc] at hpf
      obtain ⟨b, hb⟩ : ∃ b : Nat, b = sib c := ⟨_, rfl⟩
      rw [← hb] at hpf hxb hb16
      replace hb := Hid.mk' hb
      replace hc := Hid.mk' hc
      have hbs : b * s ≤ 65537 * 65536 := Nat.mul_le_mul hb16 hq16
      obtain ⟨q, hq⟩ : ∃ q : Nat, q = b * s := ⟨_, rfl⟩
      rw [← hq] at hpf hbs
      have hqI : (b : Int) * (s : Int) = (q : Int) := by rw [hq]; exact (Int.natCast_mul b s).symm
      have hqI2 : ((b : Int) + 1) * (s : Int) = ((q + s : Nat) : Int) := by rw [Int.add_mul, hqI, Int.one_mul]; exact (Int.natCast_add q s).symm
      replace hq := Hid.mk' hq
      have hpart := fun w x hx hS => part_any q s w.heap.size sp n cap ls w x hx (by omega) hq16 hS
      have hH := (hS.below hbl).mono (show w.heap.size ≤ wr.heap.size by omega)
      have hl32 : ∀ X ∈ (ls.drop q).take s, X.length = 32 := fun X hX => hS.l32 X (List.mem_of_mem_drop (List.mem_of_mem_take hX))
      generalize (ls.drop q).take s = hl at *
      have ht32 := tr_len k hl hl32
      have hroot := fun N sp n cap w x hx hS => refroot_any k N sp n cap hl w x hx hk16 hS
      replace hpf := Hid.mk' hpf
      generalize tr k hl = Y at *
      go_wp2_with (first
        | (refine ag24 (by rfl) _ _ (by rfl) w.heap.size k _ (pf k ls i) Y (by rfl) (own3.alloc _) w3.heap.size 1 (by rfl) (Arr.new w3 24 (h8 Y)) ht32 (by omega) (by simp; omega) ?_; intro v' w4 hown4 hg4)
        | (refine b1L (by rfl) _ (by rfl) Y (by rfl) ht32 ?_)
        | (go_at_call 76; go_must (refine (hroot _ _ _ _ _ _ (by rfl) hP).mono ?_; rintro e w3 ⟨rfl, hb3⟩; have hs3 := hb3.size; have own3 := own_same hown (fun k hk => hb3.block k (hown.lt k hk).2)))
        | (go_at_call 78; go_must (refine (hpart _ _ (by first | rfl | exact hqI2) hH).mono ?_; rintro e w2 ⟨sp', n', cap', rfl, hw2, hP⟩; cases hw2)))
      go_roundw
      case rel => exact ⟨_, k + 1, rfl, by go_num, by omega, by rw [hpf.out]; exact hown4, grown_below ((hbl.trans (hb3.mono hsz)).alloc (by omega) _) hg4 (fun k hk => (hown.lt k hk).1) (by simp; omega)⟩
      case measure => simp [intOf]; omega
    · obtain rfl : k = d := by omega
      have hI : ¬ (k : Int) < k := by omega
      go_wp2
      go_ret2
      exact ⟨_, rfl, hown, hbl⟩
end Go.Proofs.Ytlebojbfcolkhaa
/- Layer merkle: errors of Proof; Empty. -/
namespace Go.Proofs.Ytlebojbfcolkhaa
open Go.RowKit Go.Shelf
set_option maxRecDepth 100000
set_option linter.unusedVariables false
set_option linter.unusedSimpArgs false
attribute [local go_sem] Oper.semAt_some

set_option maxRecDepth 100000 in
set_option maxHeartbeats 1000000 in
theorem proof_limit (d i : Nat) (sp : Option Addr) (n cap : Nat) (w : World) (hd : d ≤ 16) (hi : i < 2 ^ d) (hn : 2 ^ d < n) (hsm : n ≤ 140737488355328) :
    Calls Try.prog 77 #[.int .i64 d, .slice sp n cap, .int .i64 i] w fun e w' => e = .returned (.tuple #[.slice none 0 0, .int .i64 4]) ∧ Below w.heap.size w w' := by
  have hmd : ∀ w, Calls Try.prog 66 #[.int .i64 d] w fun e w' => e = .returned (.bool true) ∧ w' = w := fun w => by have h := mayDepth_any d w; rwa [decide_eq_true (by omega)] at h
  have hmp : ∀ w, Calls Try.prog 67 #[.int .i64 d, .int .i64 i] w fun e w' => e = .returned (.bool true) ∧ w' = w := fun w => by have h := mayPlace_any d hd i w; rwa [decide_eq_true (by omega)] at h
  have hwd := width_any d hd
  obtain ⟨p, hp⟩ : ∃ p : Nat, p = 2 ^ d := ⟨_, rfl⟩
  rw [← hp] at hwd hn
  have hnI : (p : Int) < n := by omega
  clear hp hi
  have hb0 := (alloc_bel' w (.cells #[.slice sp n cap] 42)).alloc (by simp) (.cells #[.int .i64 i] 3)
  have A0 := (Arr.new w 42 #[.slice sp n cap]).alloc (.cells #[.int .i64 i] 3)
  have A1 := Arr.new (w.alloc (.cells #[.slice sp n cap] 42)) 3 #[.int .i64 i]
  rw [World.size_alloc] at A1
  have c1 := A1.cell 0
  simp at c1
  go_enter Try.func77, Try.ntmps77
  go_upto_region 3 with (first
    | (go_at_call 66; go_must (refine (hmd _).mono ?_; rintro e w1 ⟨rfl, rfl⟩))
    | (go_at_call 67; go_must (refine (hmp _).mono ?_; rintro e w1 ⟨rfl, rfl⟩)))
  refine wp_region_held_drew (S := fun u => Arr u w.heap.size 42 #[.slice sp n cap]) (by kernel_rfl) A0.drew (fun hHeld => ?_)
  refine wpAnyH_take (i := 0) (oi := ⟨_, _, _, _, _, _⟩) (v := ?_) rfl (by kernel_rfl) (by kernel_rfl) (by kernel_rfl) (fun _ _ _ h => h) (Or.inl ⟨by rfl, ?_⟩) (by assumption) ?_
  rotate_left
  · intro u hSw
    have cu := hSw.cell 0
    simp at cu
    go_simp
    try (with_reducible rfl)
  try simp only [Act.put, List.setIfInBounds_toArray, List.set_cons_zero, List.set_cons_succ]
  refine wpAnyH_take (i := 1) (oi := ⟨_, _, _, _, _, _⟩) (v := ?_) rfl (by kernel_rfl) (by kernel_rfl) (by kernel_rfl) (fun _ _ _ h => h) (Or.inl ⟨by rfl, ?_⟩) (by assumption) ?_
  rotate_left
  · intro u hSw
    go_simp
    try (with_reducible rfl)
  try simp only [Act.put, List.setIfInBounds_toArray, List.set_cons_zero, List.set_cons_succ]
  refine wpAnyH_take (i := 2) (oi := ⟨_, _, _, _, _, _⟩) (v := ?_) rfl (by kernel_rfl) (by kernel_rfl) (by kernel_rfl) (fun _ _ _ h => h) (Or.inl ⟨by rfl, ?_⟩) (by assumption) ?_
  rotate_left
  · intro u hSw
    go_simp
    try (with_reducible rfl)
  try simp only [Act.put, List.setIfInBounds_toArray, List.set_cons_zero, List.set_cons_succ]
  refine wpAnyH_ready (rs := [3]) (by kernel_rfl) (by simp) ?_
  refine AllReadyH.cons (o := ⟨_, _, _, _, _, _⟩) rfl (fun K hK => ?_) AllReadyH.nil
  go_simp
  refine (hwd _).mono ?_; rintro e u1 ⟨rfl, rfl⟩
  go_wp2_with fail
  refine hK.out _ _ A0.drew (fun hHeld => ?_)
  clear hK K
  try simp only [Act.put, List.setIfInBounds_toArray, List.set_cons_zero, List.set_cons_succ]
  refine wpAnyH_take (i := 4) (oi := ⟨_, _, _, _, _, _⟩) (v := ?_) rfl (by kernel_rfl) (by kernel_rfl) (by kernel_rfl) (fun _ _ _ h => h) (Or.inl ⟨by rfl, ?_⟩) (by assumption) ?_
  rotate_left
  · intro u hSw
    go_simp
    try (with_reducible rfl)
  try simp only [Act.put, List.setIfInBounds_toArray, List.set_cons_zero, List.set_cons_succ]
  refine wpAnyH_done (by kernel_rfl) ?_ _
  go_wp2
  go_ret2
  exact ⟨rfl, hb0.drew⟩
set_option maxRecDepth 100000 in
set_option maxHeartbeats 1000000 in
theorem refProof_bad (d i : Int) (N : Nat) (sp : Option Addr) (n cap : Nat) (ls : List (List Int)) (w : World) (hS : HS N w sp n cap ls) (h : pE d i n ≠ 0) :
    Calls Try.prog 54 #[.int .i64 d, .slice sp n cap, .int .i64 i] w fun e w' => e = .returned (.tuple #[.slice none 0 0, .int .i64 (pE d i n)]) ∧ Below w.heap.size w w' := by
  have hsm := hS.small
  clear hS
  unfold pE at h ⊢
  by_cases h1 : 0 ≤ d
  · by_cases h2 : d ≤ 16
    · obtain ⟨m, rfl⟩ : ∃ m : Nat, d = m := ⟨d.toNat, by omega⟩
      have hm : m ≤ 16 := by omega
      have hwp := wrap_pow hm
      have hbad := refBad_any m n
      unfold rE at hbad
      rw [if_pos ⟨h1, h2⟩] at hbad
      rw [Int.toNat_natCast] at h hbad ⊢
      obtain ⟨p, hp⟩ : ∃ p : Nat, p = 2 ^ m := ⟨_, rfl⟩
      rw [← hp] at hwp h hbad ⊢
      replace hp := Hid.mk' hp
      by_cases h3 : 0 ≤ i
      · by_cases h4 : i < p
        · rw [if_pos ⟨⟨h1, h2⟩, h3, h4⟩] at h ⊢
          by_cases h5 : n ≤ p
          · rw [if_pos h5] at h; exact absurd rfl h
          · rw [if_neg h5] at hbad ⊢
            clear h
            have h6 : ¬ (p : Int) ≤ i := by omega
            go_enter Try.func54, Try.ntmps54
            go_wp2_with (first
              | (go_at_call 75; go_must (refine (hbad _).mono ?_; rintro e w1 ⟨rfl, rfl⟩)))
            go_ret2
            exact ⟨rfl, Below.refl _ _⟩
        · rw [if_neg (fun hh => h4 hh.2.2)]
          clear h hbad
          have h6 : (p : Int) ≤ i := by omega
          go_enter Try.func54, Try.ntmps54
          go_wp2
          go_ret2
          exact ⟨rfl, Below.refl _ _⟩
      · rw [if_neg (fun hh => h3 hh.2.1)]
        clear h hbad
        go_enter Try.func54, Try.ntmps54
        go_wp2
        go_ret2
        exact ⟨rfl, Below.refl _ _⟩
    · rw [if_neg (fun hh => h2 hh.1.2)]
      clear h
      go_enter Try.func54, Try.ntmps54
      go_wp2
      go_ret2
      exact ⟨rfl, Below.refl _ _⟩
  · rw [if_neg (fun hh => h1 hh.1.1)]
    clear h
    go_enter Try.func54, Try.ntmps54
    go_wp2
    go_ret2
    exact ⟨rfl, Below.refl _ _⟩
theorem pE_cases {d i : Int} {n : Nat} (h : pE d i n = 0) : ∃ a b : Nat, d = a ∧ i = b ∧ a ≤ 16 ∧ b < 2 ^ a ∧ n ≤ 2 ^ a := by
  unfold pE at h
  by_cases h1 : (0 ≤ d ∧ d ≤ 16) ∧ 0 ≤ i ∧ i < (2 ^ d.toNat : Nat)
  · rw [if_pos h1] at h
    by_cases h2 : n ≤ 2 ^ d.toNat
    · exact ⟨d.toNat, i.toNat, by omega, by omega, by omega, by omega, h2⟩
    · rw [if_neg h2] at h; cases h
  · rw [if_neg h1] at h; cases h
/-- What both Proofs answer: the proof where there is one. -/
def pF (d i : Int) (ls : List (List Int)) : List (List Int) := if pE d i ls.length = 0 then pf d.toNat ls i.toNat else []
theorem pF_l32 {d i : Int} {ls : List (List Int)} (hl : ∀ x ∈ ls, x.length = 32) : ∀ x ∈ pF d i ls, x.length = 32 := by
  intro x hx
  unfold pF at hx
  split at hx
  · unfold pf at hx
    obtain ⟨k, -, rfl⟩ := List.mem_map.1 hx
    exact tr_len _ _ (fun y hy => hl y (List.mem_of_mem_drop hy))
  · cases hx
/-- An answer of Proof. -/
def PPost (d i : Int) (ls : List (List Int)) (w : World) (e : Ending) (w' : World) : Prop :=
  ∃ sp cap, e = .returned (.tuple #[.slice sp (pF d i ls).length cap, .int .i64 (pE d i ls.length)]) ∧ HS w'.heap.size w' sp (pF d i ls).length cap (pF d i ls) ∧ w'.ownsRow w.heap.size 24 32 (.slice sp (pF d i ls).length cap) (pF d i ls).length (flat32 (pF d i ls)) ∧ Below w.heap.size w w'
theorem proof_any (d i : Int) (N : Nat) (sp : Option Addr) (n cap : Nat) (ls : List (List Int)) (w : World) (hS : HS N w sp n cap ls) : Calls Try.prog 77 #[.int .i64 d, .slice sp n cap, .int .i64 i] w (PPost d i ls w) := by
  have hln := hS.len.out
  by_cases h : pE d i ls.length = 0
  · obtain ⟨a, b, rfl, rfl, h1, h2, h3⟩ := pE_cases h
    have e : pF a b ls = pf a ls b := by unfold pF; rw [if_pos h]; simp
    have hl := pF_l32 (d := a) (i := b) hS.l32
    rw [e] at hl
    refine (proof_ok a b N sp n cap ls w h1 h2 (by omega) hS).mono ?_
    rintro e' w' ⟨v, rfl, hown, hb⟩
    obtain ⟨sq, cq, rfl, hH, -⟩ := own_hs hown hl (by rw [pf_len]) (by omega)
    unfold PPost
    rw [e, h, pf_len]
    exact ⟨sq, cq, rfl, hH, hown, hb⟩
  · have e : pF d i ls = [] := by unfold pF; rw [if_neg h]
    have hE : Calls Try.prog 77 #[.int .i64 d, .slice sp n cap, .int .i64 i] w fun e w' => e = .returned (.tuple #[.slice none 0 0, .int .i64 (pE d i n)]) ∧ Below w.heap.size w w' := by
      by_cases h1 : (0 ≤ d ∧ d ≤ 16) ∧ 0 ≤ i ∧ i < (2 ^ d.toNat : Nat)
      · have h2 : ¬ n ≤ 2 ^ d.toNat := fun hh => h (by unfold pE; rw [if_pos h1, if_pos (by omega)])
        have e2 : pE d i n = 4 := by unfold pE; rw [if_pos h1, if_neg h2]
        rw [e2]
        have h3 := proof_limit d.toNat i.toNat sp n cap w (by omega) (by omega) (by omega) hS.small
        rwa [Int.toNat_of_nonneg h1.1.1, Int.toNat_of_nonneg h1.2.1] at h3
      · have e2 : pE d i n = 2 := by unfold pE; rw [if_neg h1]
        rw [e2]
        exact proof_arg d i sp n cap w h1
    refine hE.mono ?_
    rintro e' w' ⟨rfl, hb⟩
    unfold PPost
    rw [e, ← hln]
    exact ⟨none, 0, rfl, HS.nil0 _ _, World.ownsRow_nil _ _ _ _, hb⟩
theorem refProof_any (d i : Int) (N : Nat) (sp : Option Addr) (n cap : Nat) (ls : List (List Int)) (w : World) (hS : HS N w sp n cap ls) : Calls Try.prog 54 #[.int .i64 d, .slice sp n cap, .int .i64 i] w (PPost d i ls w) := by
  have hln := hS.len.out
  by_cases h : pE d i ls.length = 0
  · obtain ⟨a, b, rfl, rfl, h1, h2, h3⟩ := pE_cases h
    have e : pF a b ls = pf a ls b := by unfold pF; rw [if_pos h]; simp
    have hl := pF_l32 (d := a) (i := b) hS.l32
    rw [e] at hl
    refine (refProof_ok a b N sp n cap ls w h1 h2 (by omega) hS).mono ?_
    rintro e' w' ⟨v, rfl, hown, hb⟩
    obtain ⟨sq, cq, rfl, hH, -⟩ := own_hs hown hl (by rw [pf_len]) (by omega)
    unfold PPost
    rw [e, h, pf_len]
    exact ⟨sq, cq, rfl, hH, hown, hb⟩
  · have e : pF d i ls = [] := by unfold pF; rw [if_neg h]
    refine (refProof_bad d i N sp n cap ls w hS (by rw [hln]; exact h)).mono ?_
    rintro e' w' ⟨rfl, hb⟩
    unfold PPost
    rw [e, ← hln]
    exact ⟨none, 0, rfl, HS.nil0 _ _, World.ownsRow_nil _ _ _ _, hb⟩
end Go.Proofs.Ytlebojbfcolkhaa
