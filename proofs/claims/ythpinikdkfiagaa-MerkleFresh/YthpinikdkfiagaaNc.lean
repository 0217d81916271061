/- Layer merkle: the walk of MerkleFresh. -/
import Derived.Test.YthpinikdkfiagaaNa
import Derived.Laws.AppendOwnNone
namespace Go.Proofs.Ythpinikdkfiagaa
open Go.RowKit Go.Shelf
set_option linter.unusedVariables false
set_option linter.unusedSimpArgs false

/-- append of sums to a slice of the call's own. -/
theorem as24 {ops : Array Oper} {rest : List Oper} {o : Oper} {a : Act} {w : World} {Q : Exit → Act → World → Prop} (hgd : o.guard = none) (s x : Operand) (ho : o.op = .call { callee := .builtin .append, args := #[s, x], argTypes := #[22, 22] })
    (base N : Nat) (v : Value) (hs : a.eval s = v) (hown : w.ownsRow base 24 32 v 0 (flat32 []))
    (sp : Option Addr) (n cap : Nat) (ls : List (List Int)) (hx : a.eval x = .slice sp n cap) (hS : HS N w sp n cap ls) (hb : n * 32 ≤ 140737488351232) (hbase : base ≤ w.heap.size)
    (h : ∀ v' w', w'.ownsRow base 24 32 v' n (flat32 ls) → w.grownBy w' v.ownBlock → wpList Try.prog ops Q rest (a.put o.dst v') w') : wpList Try.prog ops Q (o :: rest) a w := by
  obtain ⟨i0, hi0, hz0, hz1, hz2⟩ := info_parts info24
  have hln := hS.len.out
  cases sp with
  | none =>
    obtain ⟨rfl, rfl⟩ := hS.nil rfl
    obtain rfl : ls = [] := List.eq_nil_of_length_eq_zero hln.symm
    have hrun := run_append_owned_none (P := Try.prog) (w := w) base 22 o.type 24 i0 32 Try.underlying22 hi0 v 0 _ hown
    refine wpList_plain hgd fun _ hK => ?_
    unfold Oper.wp
    simp [execOp, ho, resolve, invoke, builtin, hs, hx, hrun, Result.andThen]
    exact hK _ _ (h v w hown ⟨rfl, rfl, rfl, Nat.le_refl _, fun _ _ _ => rfl⟩)
  | some ad =>
    refine wpList_append_own w hgd s x 22 ho base 24 i0 (.agg (h8 Z32)) 32 32 Try.underlying22 hi0 hz0 hz1 hz2 (by show (h8 Z32).size = 32; rw [h8_size, Z32_len]) (by omega) v 0 _ hs hown ad n cap (flat32 ls) hx (by rw [flat32_len hS.l32, hln]) (fun j u hj => ?_) (fun u hu => ?_) (by unfold maxLen; omega) (by omega) hbase (fun v' w' h1 h2 _ => h v' w' (by simpa [flat32] using h1) h2)
    · obtain ⟨X, hX, hv'⟩ := flat32_of hS.l32 hj
      have hjn := (List.getElem?_eq_some_iff.1 hX).1
      obtain ⟨b, off, e, -, hR⟩ := hS.at0 (by omega)
      obtain rfl := Option.some.inj e
      have := hR _ X hX _ u hv'
      rw [Addr.add_mid]
      rwa [Nat.add_assoc, Nat.div_add_mod' j 32] at this
    · obtain ⟨L, hL, hv'⟩ := List.mem_flatten.1 hu
      obtain ⟨X, -, rfl⟩ := List.mem_map.1 hL
      exact by8_one X u hv'
theorem own_hs2 {w : World} {base n : Nat} {v : Value} {ls : List (List Int)} (h : w.ownsRow base 24 32 v n (flat32 ls)) (hl : ∀ x ∈ ls, x.length = 32) (hn : n = ls.length) (hsm : n ≤ 140737488355328) : ∃ sp cap, v = .slice sp n cap ∧ HS w.heap.size w sp n cap ls ∧ ∀ b off, sp = some ⟨b, off, none⟩ → base ≤ b := by
  obtain ⟨-, h | ⟨g, cap, cur, rfl, hg, hh, hnc, hcm, hc, ht⟩⟩ := h
  · obtain ⟨rfl, rfl⟩ := h
    obtain rfl : ls = [] := List.eq_nil_of_length_eq_zero hn.symm
    exact ⟨none, 0, rfl, HS.nil0 _ _, fun b off e => by cases e⟩
  · refine ⟨_, cap, rfl, ⟨hn, (fun e => by cases e), hnc, by unfold maxLen at hcm; omega, by omega, fun h0 => ⟨g, 0, rfl, (Array.getElem?_eq_some_iff.1 hh).1, fun i X hX j u hu => ?_⟩, hl⟩, fun b off e => by cases e; exact hg⟩
    have hi := (List.getElem?_eq_some_iff.1 hX).1
    have hj : j < 32 := by
      have := (List.getElem?_eq_some_iff.1 hu).1
      rw [by8_len, hl X (List.mem_of_getElem? hX)] at this; exact this
    rw [Nat.zero_add, cell_of_row w g _ cur 24 (0, 0) hh, ← Array.getElem?_toList, ← List.getElem?_take_of_lt (show i * 32 + j < n * 32 by omega), ht]
    exact flat32_at hl hX hu
theorem own_there {w : World} {base n cap : Nat} {sp : Option Addr} {xs : List Value} (h : w.ownsRow base 24 32 (.slice sp n cap) n xs) (h0 : 0 < n) : ∃ g, sp = some ⟨g, 0, none⟩ ∧ base ≤ g ∧ w.there g 0 (n * 32) := by
  obtain ⟨-, h | ⟨g, cap', cur, e, hg, hh, hnc, hcm, hc, ht⟩⟩ := h
  · have := h.2; omega
  · cases e
    refine ⟨g, rfl, hg, fun j hj => ⟨?_, ?_⟩⟩
    · rw [Nat.zero_add, cell_of_row w g _ cur 24 (0, 0) hh, Array.getElem?_eq_getElem (by have := Nat.mul_le_mul_right 32 hnc; omega)]
      rfl
    · simp [World.frozen?, hh]
/-- A sum of a 9 and noughts. -/
def X9 : List Int := 9 :: List.replicate 31 0
theorem lit9 : ∃ Y : List Int, Y.length = 32 ∧ Value.agg #[.int .u8 9, .int .u8 0, .int .u8 0, .int .u8 0, .int .u8 0, .int .u8 0, .int .u8 0, .int .u8 0, .int .u8 0, .int .u8 0, .int .u8 0, .int .u8 0, .int .u8 0, .int .u8 0, .int .u8 0, .int .u8 0, .int .u8 0, .int .u8 0, .int .u8 0, .int .u8 0, .int .u8 0, .int .u8 0, .int .u8 0, .int .u8 0, .int .u8 0, .int .u8 0, .int .u8 0, .int .u8 0, .int .u8 0, .int .u8 0, .int .u8 0, .int .u8 0] = .agg (h8 Y) := ⟨X9, rfl, rfl⟩
set_option maxRecDepth 100000 in
set_option maxHeartbeats 4000000 in
theorem fresh_walk (k x : Int) (sp : Option Addr) (n cap : Nat) (ls : List (List Int)) (w : World) (hk : 0 ≤ k ∧ k ≤ 255) (hx : 0 ≤ x ∧ x ≤ 65535) (hS : HS w.heap.size w sp n cap ls) (hn32 : n * 32 ≤ 140737488351232) :
    Calls Try.prog 6 #[.int .u8 k, .slice sp n cap, .int .u16 x] w fun e w' => e = .returned (.bool true) ∧ Below w.heap.size w w' := by
  have hln := hS.len
  have hsm := hS.small
  obtain ⟨m, hm⟩ : ∃ m : Nat, k % 6 = (m : Int) := ⟨(k % 6).toNat, by omega⟩
  have hm6 : m ≤ 5 := by omega
  obtain ⟨p, hp⟩ : ∃ p : Nat, p = 2 ^ m := ⟨_, rfl⟩
  have hp0 : 0 < p := by rw [hp]; exact Nat.pow_pos (by omega)
  have hwp : wrap64 (2 ^ m) = (p : Int) := by rw [hp]; exact wrap_pow (by omega)
  have hpz : ¬ p = 0 := by omega
  replace hp := Hid.mk' hp
  have hb0 := alloc_bel' w (.cells #[] 24)
  have own0 : (w.alloc (.cells #[] 24)).ownsRow w.heap.size 24 32 (.slice (some ⟨w.heap.size, 0, none⟩) 0 0) 0 (flat32 []) := World.ownsRow_made w #[] 0 (Nat.le_refl _) (by unfold maxLen; omega) rfl
  obtain ⟨Y9, hY32, hY9⟩ := lit9
  replace hY9 := Hid.mk' hY9
  go_enter Try.func6, Try.ntmps6
  go_upto_region 3 with (first
    | (refine as24 (by rfl) _ _ (by rfl) w.heap.size w.heap.size _ (by rfl) own0 sp n cap ls (by rfl) (hS.below hb0) hn32 (by simp) ?_; intro v1 w1 hown1 hg1))
  have hs0 := hb0.size
  obtain ⟨spl, capl, rfl, H1, -⟩ := own_hs2 hown1 hS.l32 hln.out hsm
  have bw1 := grown_below hb0 hg1 (fun k hk => by simp [Value.ownBlock] at hk; omega) hs0
  have hs1 := bw1.size
  clear hown1 hg1 own0 hb0 hs0
  obtain ⟨i, hi⟩ : ∃ i : Int, x % (p : Int) = i := ⟨_, rfl⟩
  have cE := Hid.mk' (fun N w sp cap hS => proof_any m i N sp n cap ls w hS)
  have cF := Hid.mk' (fun N w sp cap hS => refProof_any m i N sp n cap ls w hS)
  unfold PPost at cE cF
  generalize pE m i ls.length = pe at *
  generalize pF m i ls = P at *
  generalize hpl : P.length = pl at *
  have hpp : (pe == pe) = true := by simp
  go_upto_region 4 with (first
    | (go_at_call 10; go_must (refine (cE.out _ _ _ _ H1).mono ?_; rintro e w2 ⟨spP, capP, rfl, H2, own2, hb2⟩; have hs2 := hb2.size))
    | (simp only [hi]; go_at_call 10; go_must (refine (cE.out _ _ _ _ H1).mono ?_; rintro e w2 ⟨spP, capP, rfl, H2, own2, hb2⟩; have hs2 := hb2.size)))
  have hP0 : 0 < pl → ∃ g, spP = some ⟨g, 0, none⟩ ∧ w1.heap.size ≤ g ∧ w2.there g 0 (pl * 32) := own_there own2
  have hpc := H2.le
  have hpb := H2.big
  have hps := H2.small
  clear own2 H2
  go_wp2_with fail
  go_loopw [11] (fun q wr => ∃ j : Nat, q = .int .i64 (j : Int) ∧ j ≤ pl ∧ HS w1.heap.size wr spl n capl ls ∧ Below w.heap.size w wr ∧ (∀ g, w2.there g 0 (pl * 32) → wr.there g 0 (pl * 32)) ∧ w1.heap.size ≤ wr.heap.size) (fun q _ => pl - (intOf q).toNat)
  case atStart => exact ⟨0, rfl, by omega, H1.below hb2, bw1.trans (hb2.mono hs1), fun _ h => h, hs2⟩
  case round =>
    obtain ⟨j, rfl, hj, HL, bwr, hth, hsr⟩ := hrel
    by_cases hlt : j < pl
    · have hI : (j : Int) < pl := by omega
      obtain ⟨g, rfl, hg, ht⟩ := hP0 (by omega)
      have ht' := hth g ht
      have ht32 : wr.there g (j * 32) (h8 Y9).size := fun t h => by
        have := ht' (j * 32 + t) (by rw [h8_size, hY32] at h; omega)
        rwa [Nat.zero_add] at this
      go_wp2_with (first
        | (refine wpList_store_mid (by rfl) 24 _ _ (by rfl) g (j * 32) (h8 Y9) (by rfl) (by exact hY9.out) ht32 (s24h8 hY32) (h8_one Y9) ?_))
      go_roundw
      case rel => exact ⟨j + 1, by go_num, by omega, HL.below (below_setCells (Below.refl _ _) hg _ _), below_setCells bwr (by omega) _ _, fun g' h' => World.there_setCells (hth g' h') _ _ _, by rw [size_setCells]; exact hsr⟩
      case measure => simp [intOf]; omega
    · obtain rfl : j = pl := by omega
      have hI : ¬ (j : Int) < j := by omega
      have HLr := HL.mono hsr
      have hwr := bwr.size
      have hSr := (hS.below bwr).mono hwr
      go_upto_region 9 with (first
        | (go_at_call 10; go_must (refine (cE.out _ _ _ _ HL).mono ?_; rintro e w3 ⟨spQ, capQ, rfl, H3, -, hb3⟩; have hs3 := hb3.size))
        | (simp only [hi]; go_at_call 10; go_must (refine (cE.out _ _ _ _ HL).mono ?_; rintro e w3 ⟨spQ, capQ, rfl, H3, -, hb3⟩; have hs3 := hb3.size)))
      have bw3 := bwr.trans (hb3.mono hwr)
      have hS3 := hS.below bw3
      go_upto_region 10 with (first
        | (go_at_call 11; go_must (refine (cF.out _ _ _ _ hS3).mono ?_; rintro e w4 ⟨spO, capO, rfl, H4, -, hb4⟩; have hs4 := hb4.size))
        | (simp only [hi]; go_at_call 11; go_must (refine (cF.out _ _ _ _ hS3).mono ?_; rintro e w4 ⟨spO, capO, rfl, H4, -, hb4⟩; have hs4 := hb4.size)))
      have bw4 := bw3.trans (hb4.mono (by omega))
      have H3' := H3.below hb4
      have HL4 := (HLr.below hb3).below (hb4.mono hs3)
      have hS4 := hS.below bw4
      go_wp2_with (first
        | (go_at_call 13; go_must (refine (anchored_any w4).mono ?_; rintro e w5 ⟨rfl, hb5⟩; have hs5 := hb5.size))
        | (go_at_call 12; go_must (first
          | (refine (same_true _ _ spQ spO _ capQ capO P w6 ((H3'.below (hb5.mono (by omega))).below (hb6.mono (by omega))) ((H4.below hb5).below (hb6.mono hs5))).mono ?_; rintro e w7 ⟨rfl, hb7⟩; have hs7 := hb7.size)
          | (refine (same_true _ _ spl sp n capl cap ls w5 (HL4.below (hb5.mono (by omega))) (hS4.below (hb5.mono (by omega)))).mono ?_; rintro e w6 ⟨rfl, hb6⟩; have hs6 := hb6.size))))
      go_ret
      exact ⟨rfl, ((bw4.trans (hb5.mono (by omega))).trans (hb6.mono (by omega))).trans (hb7.mono (by omega))⟩
end Go.Proofs.Ythpinikdkfiagaa
