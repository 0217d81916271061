/- Layer merkle: what MerkleProves leans on. -/
import Derived.Test.YthpinikdkfiagaaMu
import Derived.Test.YthpinikdkfiagaaMr
namespace Go.Proofs.Ythpinikdkfiagaa
open Go.RowKit Go.Shelf
set_option linter.unusedVariables false
set_option linter.unusedSimpArgs false

/-- make of sums. -/
theorem mk24 {ops : Array Oper} {rest : List Oper} {o : Oper} {a : Act} {w : World} {Q : Exit → Act → World → Prop} (hgd : o.guard = none) (x : Operand) (ho : o.op = .makeSlice 22 x x) (p : Nat) (hx : a.eval x = .int .i64 p) (hp : p ≤ 65536)
    (h : wpList Try.prog ops Q rest (a.put o.dst (.slice (some ⟨w.heap.size, 0, none⟩) p p)) (w.alloc (.cells (flat32 (List.replicate p Z32)).toArray 24))) : wpList Try.prog ops Q (o :: rest) a w := by
  obtain ⟨i0, hi0, hz0, hz1, hz2⟩ := info_parts info24
  have hr := run_make (P := Try.prog) w 22 24 i0 (.agg (h8 Z32)) Try.underlying22 hi0 hz0 .i64 .i64 p p (by omega) (Int.le_refl _) (by rw [hz2]; omega) (by omega)
  rw [hz1, Int.toNat_natCast, made24] at hr
  refine wpList_plain hgd fun _ hK => ?_
  unfold Oper.wp execOp
  simp only [ho, hx, hr, Sem.run_bind, Sem.run_pure, Result.andThen_ok]
  exact hK _ _ h
/-- copy of sums. -/
theorem cp24 {ops : Array Oper} {rest : List Oper} {o : Oper} {a : Act} {w : World} {Q : Exit → Act → World → Prop} (hgd : o.guard = none) (x y : Operand) (ho : o.op = .call { callee := .builtin .copy, args := #[x, y], argTypes := #[22, 22] })
    (g k N : Nat) (sp : Option Addr) (n cap : Nat) (ls : List (List Int)) (hx : a.eval x = .slice (some ⟨g, 0, none⟩) k k) (hy : a.eval y = .slice sp n cap) (hS : HS N w sp n cap ls) (hA : Arr w g 24 (flat32 (List.replicate k Z32)).toArray) (hn : n ≤ k)
    (h : wpList Try.prog ops Q rest (a.put o.dst (goInt n)) (w.setRow g (flat32 (ls ++ List.replicate (k - n) Z32)).toArray)) : wpList Try.prog ops Q (o :: rest) a w := by
  refine wpList_plain hgd fun _ hK => ?_
  have hr := run_copy24 w g k N sp n cap ls o.type hS hA hn
  unfold Oper.wp
  simp [execOp, ho, resolve, invoke, builtin, hx, hy, hr, Result.andThen]
  exact hK _ _ h
/-- A sum into the middle of a slice of the call's own. -/
theorem arr_there {w : World} {g : Nat} {F : List (List Int)} (hA : Arr w g 24 (flat32 F).toArray) (hF : ∀ x ∈ F, x.length = 32) {i : Nat} (hi : i < F.length) : w.there g (i * 32) 32 := fun j hj => by
  refine ⟨?_, hA.frozen _⟩
  rw [hA.cell, Array.getElem?_eq_getElem (by rw [List.size_toArray, flat32_len hF]; omega)]
  rfl
theorem sm24 {ops : Array Oper} {rest : List Oper} {o : Oper} {a : Act} {w : World} {Q : Exit → Act → World → Prop} (hgd : o.guard = none) (x y : Operand) (ho : o.op = .store 24 x y)
    (g i : Nat) (F : List (List Int)) (X : List Int) (off : Nat) (hoff : off = i * 32) (hx : a.eval x = .pointer (some ⟨g, off, none⟩)) (hy : a.eval y = .agg (h8 X)) (hX : X.length = 32) (hA : Arr w g 24 (flat32 F).toArray) (hF : ∀ x ∈ F, x.length = 32) (hi : i < F.length)
    (h : wpList Try.prog ops Q rest (a.put o.dst undef) (w.setCells g (i * 32) (by8 X))) : wpList Try.prog ops Q (o :: rest) a w := by
  subst hoff
  exact wpList_store_mid hgd 24 x y ho g (i * 32) (h8 X) hx hy (by rw [h8_size, hX]; exact arr_there hA hF hi) (s24h8 hX) (h8_one X) h
theorem hs_set {w : World} {g i p : Nat} {F : List (List Int)} {X : List Int} (hA : Arr w g 24 (flat32 F).toArray) (hF : ∀ x ∈ F, x.length = 32) (hi : i < F.length) (hX : X.length = 32) (hp : p = F.length) (hsm : p ≤ 65536) :
    HS (w.setCells g (i * 32) (by8 X)).heap.size (w.setCells g (i * 32) (by8 X)) (some ⟨g, 0, none⟩) p p (F.set i X) := by
  refine ⟨show p = _ by rw [List.length_set]; exact hp, (fun e => by cases e), Nat.le_refl _, by omega, by omega, fun _ => ⟨g, 0, rfl, by rw [size_setCells]; exact hA.lt, fun j Y hY => ?_⟩, fun Y hY => ?_⟩
  · rw [Nat.zero_add]
    by_cases hj : j = i
    · subst hj
      rw [List.getElem?_set_self hi] at hY
      cases hY
      exact World.rangeAt_setCells_same _ _ _ _ (by rw [by8_len, hX]; exact arr_there hA hF hi)
    · rw [List.getElem?_set_ne (fun h => hj h.symm)] at hY
      have hY32 := hF Y (List.mem_of_getElem? hY)
      refine World.rangeAt_setCells_apart (hA.part32 hF hY) _ _ _ (.inr ?_)
      rw [by8_len, by8_len, hX, hY32]; omega
  · rcases List.mem_or_eq_of_mem_set hY with h | h
    · exact hF Y h
    · rw [h]; exact hX
theorem hs_arr {w : World} {g p : Nat} {F : List (List Int)} (hA : Arr w g 24 (flat32 F).toArray) (hF : ∀ x ∈ F, x.length = 32) (hp : p = F.length) (hsm : p ≤ 65536) : HS w.heap.size w (some ⟨g, 0, none⟩) p p F :=
  ⟨hp, (fun e => by cases e), Nat.le_refl _, by omega, by omega, fun _ => ⟨g, 0, rfl, hA.lt, fun j Y hY => by rw [Nat.zero_add]; exact hA.part32 hF hY⟩, hF⟩
theorem HS.other {N : Nat} {w : World} {sp : Option Addr} {n cap : Nat} {ls : List (List Int)} (h : HS N w sp n cap ls) (g o : Nat) (vs : List Value) (hne : ∀ b off, sp = some ⟨b, off, none⟩ → b ≠ g) : HS N (w.setCells g o vs) sp n cap ls :=
  ⟨h.len, h.nil, h.le, h.big, h.small, fun h0 => by
    obtain ⟨b, off, e, hb, hR⟩ := h.at0 h0
    exact ⟨b, off, e, hb, fun i X hX => World.rangeAt_setCells_apart (hR i X hX) _ _ _ (.inl (hne b off e))⟩, h.l32⟩
theorem sum2 (a b : Int) (w : World) (g : Nat) (hg : g = w.heap.size) : Calls Try.prog 20 #[.slice (some ⟨g, 0, none⟩) 2 2] (w.alloc (.cells #[.int .u8 a, .int .u8 b] 5)) fun e w' => e = .returned (.agg (h8 (shl [a, b]))) ∧ Below w.heap.size w w' := by
  subst hg
  refine (refSum_any (some ⟨w.heap.size, 0, none⟩) 2 2 [a, b] _ rfl (fun h => by cases h) (Arr.sl (Arr.new w 5 _)) (by omega)).mono ?_
  rintro e w' ⟨he, hb⟩
  rw [sha_h8] at he
  exact ⟨he, (alloc_bel' w _).trans (hb.mono (by simp))⟩
theorem rR_ok {m : Nat} (hm : m ≤ 16) {ls : List (List Int)} (h : ls.length ≤ 2 ^ m) : rE m ls.length = 0 ∧ rR m ls = tr m ls := by
  have e : rE m ls.length = 0 := by
    unfold rE
    rw [if_pos ⟨by omega, by omega⟩, if_pos (by simpa using h)]
  exact ⟨e, by unfold rR; rw [if_pos e]; simp⟩
/-- The calls of MerkleProves, each with its answer. -/
theorem proves_calls {m p i q : Nat} (hm : m ≤ 6) (hp : p = 2 ^ m) (hi : i < p) {sp : Option Addr} {cap : Nat} {ls : List (List Int)} (hl : ∀ x ∈ ls, x.length = 32) (hq : q = ls.length) (hqp : q ≤ p) {X N : List Int} (hX : (ls ++ List.replicate (p - q) Z32)[i]? = some X) (hN : N.length = 32) :
    ∃ R S P, R.length = 32 ∧ S.length = 32 ∧
      (∀ W, HS W.heap.size W sp q cap ls → Calls Try.prog 7 #[.int .i64 m, .slice sp q cap] W fun e w' => e = .returned (.tuple #[.agg (h8 R), .int .i64 0]) ∧ Below W.heap.size W w') ∧
      (∀ W, HS W.heap.size W sp q cap ls → Calls Try.prog 10 #[.int .i64 m, .slice sp q cap, .int .i64 i] W fun e w' => ∃ sp' cap', e = .returned (.tuple #[.slice sp' m cap', .int .i64 0]) ∧ HS w'.heap.size w' sp' m cap' P ∧ (∀ b off, sp' = some ⟨b, off, none⟩ → W.heap.size ≤ b) ∧ Below W.heap.size W w') ∧
      (∀ W sp' cap', HS W.heap.size W sp' m cap' P → Calls Try.prog 18 #[.agg (h8 R), .int .i64 i, .agg (h8 X), .slice sp' m cap'] W fun e w' => e = .returned (.bool true) ∧ Below W.heap.size W w') ∧
      (∀ W sp' cap', HS W.heap.size W sp' m cap' P → Calls Try.prog 16 #[.agg (h8 R), .int .i64 i, .agg (h8 X), .agg (h8 N), .slice sp' m cap'] W fun e w' => e = .returned (.tuple #[.agg (h8 S), .bool true]) ∧ Below W.heap.size W w') ∧
      (∀ W g, HS W.heap.size W (some ⟨g, 0, none⟩) p p ((ls ++ List.replicate (p - q) Z32).set i N) → Calls Try.prog 7 #[.int .i64 m, .slice (some ⟨g, 0, none⟩) p p] W fun e w' => e = .returned (.tuple #[.agg (h8 S), .int .i64 0]) ∧ Below W.heap.size W w') ∧
      (∀ W sp' cap', HS W.heap.size W sp' m cap' P → Calls Try.prog 16 #[.agg (h8 S), .int .i64 i, .agg (h8 N), .agg (h8 X), .slice sp' m cap'] W fun e w' => e = .returned (.tuple #[.agg (h8 R), .bool true]) ∧ Below W.heap.size W w') := by
  subst hp
  have hF32 : ∀ x ∈ ls ++ List.replicate (2 ^ m - q) Z32, x.length = 32 := fun x hx => by
    rcases List.mem_append.1 hx with h | h
    · exact hl x h
    · exact zeros32 _ x h
  have hFl : (ls ++ List.replicate (2 ^ m - q) Z32).length = 2 ^ m := by rw [List.length_append, List.length_replicate]; omega
  have hX32 := hF32 X (List.mem_of_getElem? hX)
  have hset : (ls ++ List.replicate (2 ^ m - q) Z32).set i X = ls ++ List.replicate (2 ^ m - q) Z32 := by
    have := (List.getElem?_eq_some_iff.1 hX).2
    rw [← this]; exact List.set_getElem_self _
  have f1 : fo i X (pf m ls i) = tr m ls := by
    rw [← pf_pad m ls (2 ^ m - q) i, fo_set m _ i X hi (by omega), hset, tr_pad]
  have f2 : fo i N (pf m ls i) = tr m ((ls ++ List.replicate (2 ^ m - q) Z32).set i N) := by
    rw [← pf_pad m ls (2 ^ m - q) i, fo_set m _ i N hi (by omega)]
  have hF32' : ∀ x ∈ (ls ++ List.replicate (2 ^ m - q) Z32).set i N, x.length = 32 := fun x hx => by
    rcases List.mem_or_eq_of_mem_set hx with h | h
    · exact hF32 x h
    · rw [h]; exact hN
  have hR32 := tr_len m ls hl
  have hS32 := tr_len m _ hF32'
  have hok : FoOK (i : Int) (pf m ls i).length := by rw [pf_len]; exact ⟨by omega, by omega, by omega⟩
  have hP32 : ∀ x ∈ pf m ls i, x.length = 32 := fun x hx => by
    unfold pf at hx
    obtain ⟨k, -, rfl⟩ := List.mem_map.1 hx
    exact tr_len _ _ (fun y hy => hl y (List.mem_of_mem_drop hy))
  have k1 : ckB (tr m ls) i X (pf m ls i) = true := by unfold ckB; exact decide_eq_true ⟨hok, by simpa using f1⟩
  have k2 : ckB (tr m ((ls ++ List.replicate (2 ^ m - q) Z32).set i N)) i N (pf m ls i) = true := by unfold ckB; exact decide_eq_true ⟨hok, by simpa using f2⟩
  refine ⟨tr m ls, tr m ((ls ++ List.replicate (2 ^ m - q) Z32).set i N), pf m ls i, hR32, hS32, ?_, ?_, ?_, ?_, ?_, ?_⟩
  · intro W hS
    have h := root_any m _ sp q cap ls W hS
    obtain ⟨e1, e2⟩ := rR_ok (m := m) (by omega) (ls := ls) (by omega)
    rw [e1, e2] at h
    exact h
  · intro W hS
    refine (proof_ok m i _ sp q cap ls W (by omega) hi (by omega) hS).mono ?_
    rintro e w' ⟨v, he, hown, hb⟩
    obtain ⟨sp', cap', rfl, hH, hbl⟩ := own_hs hown hP32 (by rw [pf_len]) (by omega)
    exact ⟨sp', cap', he, hH, hbl, hb⟩
  · intro W sp' cap' hS
    have h := check_any (tr m ls) i X _ sp' m cap' _ W hR32 hX32 hS
    rw [k1] at h
    exact h
  · intro W sp' cap' hS
    have h := swap_any (tr m ls) i X N _ sp' m cap' _ W hR32 hX32 hN hS
    have e : swR (tr m ls) i X N (pf m ls i) = tr m ((ls ++ List.replicate (2 ^ m - q) Z32).set i N) := by
      unfold swR; rw [if_pos k1]; simpa using f2
    rw [k1, e] at h
    exact h
  · intro W g hS
    have h := root_any m _ _ (2 ^ m) (2 ^ m) _ W hS
    obtain ⟨e1, e2⟩ := rR_ok (m := m) (by omega) (ls := (ls ++ List.replicate (2 ^ m - q) Z32).set i N) (by rw [List.length_set]; omega)
    rw [e1, e2] at h
    exact h
  · intro W sp' cap' hS
    have h := swap_any (tr m ((ls ++ List.replicate (2 ^ m - q) Z32).set i N)) i N X _ sp' m cap' _ W hS32 hN hX32 hS
    have e : swR (tr m ((ls ++ List.replicate (2 ^ m - q) Z32).set i N)) i N X (pf m ls i) = tr m ls := by
      unfold swR; rw [if_pos k2]; simpa using f1
    rw [k2, e] at h
    exact h
end Go.Proofs.Ythpinikdkfiagaa
