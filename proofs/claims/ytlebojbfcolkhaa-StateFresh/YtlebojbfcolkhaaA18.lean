/- Mu, Mr, Mv. -/
import Derived.Test.YtlebojbfcolkhaaA17
import Derived.Laws.MakeOwn
import Derived.Laws.CopyRow
/- Layer merkle: make and copy of sums. -/
namespace Go.Proofs.Ytlebojbfcolkhaa
open Go.RowKit
set_option maxRecDepth 100000
set_option linter.unusedVariables false
set_option linter.unusedSimpArgs false

theorem zeros32 (k : Nat) : ∀ x ∈ List.replicate k Z32, x.length = 32 := fun x hx => by rw [(List.mem_replicate.1 hx).2]; exact Z32_len
theorem made24 (k : Nat) : madeCells (Value.agg (h8 Z32)).cells (k * 32) = (flat32 (List.replicate k Z32)).toArray := by
  apply Array.ext_getElem?
  intro j
  by_cases hj : j < k * 32
  · have hd : j / 32 < k := by omega
    have hm : j % 32 < 32 := Nat.mod_lt _ (by omega)
    have h1 : (flat32 (List.replicate k Z32))[j / 32 * 32 + j % 32]? = some (.int .u8 0) := flat32_at (zeros32 k) (X := Z32) (by rw [List.getElem?_replicate, if_pos hd]) (by rw [by8_get (by rw [Z32_len]; exact hm), bat_Z])
    rw [Nat.div_add_mod' j 32] at h1
    have h2 : (h8 Z32)[j % 32]? = some (.int .u8 0) := by rw [h8_get (by rw [Z32_len]; exact hm), bat_Z]
    have h3 : (h8 Z32)[j % (h8 Z32).size]! = .int .u8 0 := by
      rw [h8_size, Z32_len, getElem!_def, h2]
    have h4 : (flat32 (List.replicate k Z32)).toArray[j]? = some (.int .u8 0) := by simpa using h1
    rw [h4]
    simp only [madeCells, Value.cells]
    rw [Array.getElem?_map, Array.getElem?_eq_getElem (by simpa using hj)]
    simp only [Array.getElem_range, Option.map_some]
    rw [h3]
  · rw [Array.getElem?_eq_none (by rw [size_madeCells]; omega), Array.getElem?_eq_none (by rw [List.size_toArray, flat32_len (zeros32 k), List.length_replicate]; omega)]
theorem flat32_of {ls : List (List Int)} (hl : ∀ x ∈ ls, x.length = 32) {j : Nat} {v : Value} (h : (flat32 ls)[j]? = some v) : ∃ X, ls[j / 32]? = some X ∧ (by8 X)[j % 32]? = some v := by
  have hj := (List.getElem?_eq_some_iff.1 h).1
  rw [flat32_len hl] at hj
  have hd : j / 32 < ls.length := by omega
  obtain ⟨X, hX⟩ : ∃ X, ls[j / 32]? = some X := ⟨ls[j / 32], List.getElem?_eq_getElem hd⟩
  have h32 := hl X (List.mem_of_getElem? hX)
  have hm : j % 32 < 32 := Nat.mod_lt _ (by omega)
  have h1 := flat32_at hl hX (by8_get (L := X) (t := j % 32) (by omega))
  rw [Nat.div_add_mod' j 32, h] at h1
  refine ⟨X, hX, ?_⟩
  rw [by8_get (by omega)]
  exact h1.symm
theorem flat32_append (a b : List (List Int)) : flat32 (a ++ b) = flat32 a ++ flat32 b := by simp [flat32]
/-- copy of sums over noughts. -/
theorem run_copy24 (w : World) (g k N : Nat) (sp : Option Addr) (n cap : Nat) (ls : List (List Int)) (ty : TypeId) (hS : HS N w sp n cap ls) (hA : Arr w g 24 (flat32 (List.replicate k Z32)).toArray) (hn : n ≤ k) :
    (Builtin.copy_ #[42, 42] ty #[.slice (some ⟨g, 0, none⟩) k k, .slice sp n cap]).run Try.prog w = .ok (goInt n) (w.setRow g (flat32 (ls ++ List.replicate (k - n) Z32)).toArray) := by
  have hln := hS.len.out
  have hlen := flat32_len hS.l32
  obtain ⟨i0, hi0, hz0, hz1, hz2⟩ := info_parts info24
  by_cases h0 : n = 0
  · subst h0
    obtain rfl : ls = [] := List.eq_nil_of_length_eq_zero hln.symm
    have e : w.setRow g (flat32 ([] ++ List.replicate (k - 0) Z32)).toArray = w := by
      simp only [List.nil_append, Nat.sub_zero]
      exact setRow_self w g _ 24 (0, 0) hA
    rw [e]
    cases sp with
    | none => simp [Builtin.copy_, run_underlying Try.underlying42, Builtin.lenOf, Builtin.firstCells, sizeOf, typeInfo, hi0, storeCells]
    | some ad => simp [Builtin.copy_, run_underlying Try.underlying42, Builtin.lenOf, Builtin.firstCells, sizeOf, typeInfo, hi0, loadCells, loadCellsFrom, storeCells]
  · obtain ⟨b, off, rfl, -, hR⟩ := hS.at0 (by omega)
    have hl := run_loadCells_list (P := Try.prog) w ⟨b, off, none⟩ (flat32 ls) (fun j v hv => by
      obtain ⟨X, hX, hv'⟩ := flat32_of hS.l32 hv
      have := hR _ X hX _ v hv'
      rw [Addr.add_mid]
      rwa [Nat.add_assoc, Nat.div_add_mod' j 32] at this)
    have hst := run_storeCells_at Try.prog g 0 24 (flat32 ls) 0 _ w hA (by rw [List.size_toArray, flat32_len (zeros32 k), List.length_replicate, hlen]; omega) (fun v hv => by
      obtain ⟨L, hL, hv'⟩ := List.mem_flatten.1 hv
      obtain ⟨X, -, rfl⟩ := List.mem_map.1 hL
      exact by8_one X v hv')
    have e : (List.take (0 + 0) (flat32 (List.replicate k Z32)).toArray.toList ++ flat32 ls ++ List.drop (0 + 0 + (flat32 ls).length) (flat32 (List.replicate k Z32)).toArray.toList) = flat32 (ls ++ List.replicate (k - n) Z32) := by
      rw [flat32_append]
      simp only [Nat.add_zero, Nat.zero_add, List.take_zero, List.nil_append]
      congr 1
      have hsplit : List.replicate k Z32 = List.replicate n Z32 ++ List.replicate (k - n) Z32 := by rw [List.replicate_append_replicate]; congr 1; omega
      rw [hsplit, flat32_append]
      rw [List.drop_append_of_le_length (by rw [hlen, flat32_len (zeros32 n), List.length_replicate, hln]; exact Nat.le_refl _), List.drop_eq_nil_of_le (by rw [hlen, flat32_len (zeros32 n), List.length_replicate, hln]; exact Nat.le_refl _)]
      rfl
    rw [e] at hst
    rw [hlen, ← hln] at hl
    have hmin : Nat.min n k = n := Nat.min_eq_left hn
    simp [Builtin.copy_, run_underlying Try.underlying42, Builtin.lenOf, Builtin.firstCells, sizeOf, typeInfo, hi0, hz1, hmin, hl, hst]
end Go.Proofs.Ytlebojbfcolkhaa
/- Layer merkle: the walk of MerkleFolds. -/
namespace Go.Proofs.Ytlebojbfcolkhaa
open Go.RowKit Go.Shelf
set_option maxRecDepth 100000
set_option linter.unusedVariables false
set_option linter.unusedSimpArgs false

theorem ck_self (i : Int) (X : List Int) (ls : List (List Int)) : ckB (foR i X ls) i X ls = (foE i ls == 0) := by
  unfold ckB foR foE
  by_cases h : FoOK i ls.length
  · rw [if_pos h, if_pos h]; exact (decide_eq_true ⟨h, rfl⟩).trans rfl
  · rw [if_neg h, if_neg h]; exact (decide_eq_false (fun q => h q.1)).trans rfl
theorem Arr.part32 {w : World} {g ty : Nat} {ls : List (List Int)} (h : Arr w g ty (flat32 ls).toArray) (hl : ∀ x ∈ ls, x.length = 32) {k : Nat} {X : List Int} (hX : ls[k]? = some X) : w.rangeAt g (k * 32) (by8 X) := fun j v hv => by
  rw [h.cell]
  simpa using flat32_at hl hX hv

end Go.Proofs.Ytlebojbfcolkhaa
/- Layer merkle: what MerkleProves leans on. -/
namespace Go.Proofs.Ytlebojbfcolkhaa
open Go.RowKit Go.Shelf
set_option maxRecDepth 100000
set_option linter.unusedVariables false
set_option linter.unusedSimpArgs false

/-- make of sums. -/
theorem mk24 {ops : Array Oper} {rest : List Oper} {o : Oper} {a : Act} {w : World} {Q : Exit → Act → World → Prop} (hgd : o.guard = none) (x : Operand) (ho : o.op = .makeSlice 42 x x) (p : Nat) (hx : a.eval x = .int .i64 p) (hp : p ≤ 65536)
    (h : wpList Try.prog ops Q rest (a.put o.dst (.slice (some ⟨w.heap.size, 0, none⟩) p p)) (w.alloc (.cells (flat32 (List.replicate p Z32)).toArray 24))) : wpList Try.prog ops Q (o :: rest) a w := by
  obtain ⟨i0, hi0, hz0, hz1, hz2⟩ := info_parts info24
  have hr := run_make (P := Try.prog) w 42 24 i0 (.agg (h8 Z32)) Try.underlying42 hi0 hz0 .i64 .i64 p p (by omega) (Int.le_refl _) (by rw [hz2]; omega) (by omega)
  rw [hz1, Int.toNat_natCast, made24] at hr
  refine wpList_plain hgd fun _ hK => ?_
  unfold Oper.wp execOp
  simp only [ho, hx, hr, Sem.run_bind, Sem.run_pure, Result.andThen_ok]
  exact hK _ _ h
/-- copy of sums. -/
theorem cp24 {ops : Array Oper} {rest : List Oper} {o : Oper} {a : Act} {w : World} {Q : Exit → Act → World → Prop} (hgd : o.guard = none) (x y : Operand) (ho : o.op = .call { callee := .builtin .copy, args := #[x, y], argTypes := #[42, 42] })
    (g k N : Nat) (sp : Option Addr) (n cap : Nat) (ls : List (List Int)) (hx : a.eval x = .slice (some ⟨g, 0, none⟩) k k) (hy : a.eval y = .slice sp n cap) (hS : HS N w sp n cap ls) (hA : Arr w g 24 (flat32 (List.replicate k Z32)).toArray) (hn : n ≤ k)
    (h : wpList Try.prog ops Q rest (a.put o.dst (goInt n)) (w.setRow g (flat32 (ls ++ List.replicate (k - n) Z32)).toArray)) : wpList Try.prog ops Q (o :: rest) a w := by
  refine wpList_plain hgd fun _ hK => ?_
  have hr := run_copy24 w g k N sp n cap ls o.type hS hA hn
  unfold Oper.wp
  simp [execOp, ho, resolve, invoke, builtin, hx, hy, hr, Result.andThen]
  exact hK _ _ h
/-- A sum into the middle of a slice of the call's own. -/
theorem arr_there {w : World} {g : Nat} {F : List (List Int)} (hA : Arr w g 24 (flat32 F).toArray) (hF : ∀ x ∈ F, x.length = 32) {i : Nat} (hi : i < F.length) : w.there g (i * 32) 32 := fun j hj => by
  refine ⟨?_, hA.frozen _⟩
  rw [hA.cell, Array.getElem?_eq_getElem (by rw [List.size_toArray, flat32_len hF]; omega)]
  rfl
theorem sm24 {ops : Array Oper} {rest : List Oper} {o : Oper} {a : Act} {w : World} {Q : Exit → Act → World → Prop} (hgd : o.guard = none) (x y : Operand) (ho : o.op = .store 24 x y)
    (g i : Nat) (F : List (List Int)) (X : List Int) (off : Nat) (hoff : off = i * 32) (hx : a.eval x = .pointer (some ⟨g, off, none⟩)) (hy : a.eval y = .agg (h8 X)) (hX : X.length = 32) (hA : Arr w g 24 (flat32 F).toArray) (hF : ∀ x ∈ F, x.length = 32) (hi : i < F.length)
    (h : wpList Try.prog ops Q rest (a.put o.dst undef) (w.setCells g (i * 32) (by8 X))) : wpList Try.prog ops Q (o :: rest) a w := by
  subst hoff
  exact wpList_store_mid hgd 24 x y ho g (i * 32) (h8 X) hx hy (by rw [h8_size, hX]; exact arr_there hA hF hi) (s24h8 hX) (h8_one X) h
theorem hs_set {w : World} {g i p : Nat} {F : List (List Int)} {X : List Int} (hA : Arr w g 24 (flat32 F).toArray) (hF : ∀ x ∈ F, x.length = 32) (hi : i < F.length) (hX : X.length = 32) (hp : p = F.length) (hsm : p ≤ 65536) :
    HS (w.setCells g (i * 32) (by8 X)).heap.size (w.setCells g (i * 32) (by8 X)) (some ⟨g, 0, none⟩) p p (F.set i X) := by
  refine ⟨show p = _ by rw [List.length_set]; exact hp, (fun e => by cases e), Nat.le_refl _, by omega, by omega, fun _ => ⟨g, 0, rfl, by rw [size_setCells]; exact hA.lt, fun j Y hY => ?_⟩, fun Y hY => ?_⟩
  · rw [Nat.zero_add]
    by_cases hj : j = i
    · subst hj
      rw [List.getElem?_set_self hi] at hY
      cases hY
      exact World.rangeAt_setCells_same _ _ _ _ (by rw [by8_len, hX]; exact arr_there hA hF hi)
    · rw [List.getElem?_set_ne (fun h => hj h.symm)] at hY
      have hY32 := hF Y (List.mem_of_getElem? hY)
      refine World.rangeAt_setCells_apart (hA.part32 hF hY) _ _ _ (.inr ?_)
      rw [by8_len, by8_len, hX, hY32]; omega
  · rcases List.mem_or_eq_of_mem_set hY with h | h
    · exact hF Y h
    · rw [h]; exact hX
theorem hs_arr {w : World} {g p : Nat} {F : List (List Int)} (hA : Arr w g 24 (flat32 F).toArray) (hF : ∀ x ∈ F, x.length = 32) (hp : p = F.length) (hsm : p ≤ 65536) : HS w.heap.size w (some ⟨g, 0, none⟩) p p F :=
  ⟨hp, (fun e => by cases e), Nat.le_refl _, by omega, by omega, fun _ => ⟨g, 0, rfl, hA.lt, fun j Y hY => by rw [Nat.zero_add]; exact hA.part32 hF hY⟩, hF⟩
theorem HS.other {N : Nat} {w : World} {sp : Option Addr} {n cap : Nat} {ls : List (List Int)} (h : HS N w sp n cap ls) (g o : Nat) (vs : List Value) (hne : ∀ b off, sp = some ⟨b, off, none⟩ → b ≠ g) : HS N (w.setCells g o vs) sp n cap ls :=
  ⟨h.len, h.nil, h.le, h.big, h.small, fun h0 => by
    obtain ⟨b, off, e, hb, hR⟩ := h.at0 h0
    exact ⟨b, off, e, hb, fun i X hX => World.rangeAt_setCells_apart (hR i X hX) _ _ _ (.inl (hne b off e))⟩, h.l32⟩
theorem sum2 (a b : Int) (w : World) (g : Nat) (hg : g = w.heap.size) : Calls Try.prog 64 #[.slice (some ⟨g, 0, none⟩) 2 2] (w.alloc (.cells #[.int .u8 a, .int .u8 b] 5)) fun e w' => e = .returned (.agg (h8 (shl [a, b]))) ∧ Below w.heap.size w w' := by
  subst hg
  refine (refSum_any (some ⟨w.heap.size, 0, none⟩) 2 2 [a, b] _ rfl (fun h => by cases h) (Arr.sl (Arr.new w 5 _)) (by omega)).mono ?_
  rintro e w' ⟨he, hb⟩
  rw [sha_h8] at he
  exact ⟨he, (alloc_bel' w _).trans (hb.mono (by simp))⟩
theorem rR_ok {m : Nat} (hm : m ≤ 16) {ls : List (List Int)} (h : ls.length ≤ 2 ^ m) : rE m ls.length = 0 ∧ rR m ls = tr m ls := by
  have e : rE m ls.length = 0 := by
    unfold rE
    rw [if_pos ⟨by omega, by omega⟩, if_pos (by simpa using h)]
  exact ⟨e, by unfold rR; rw [if_pos e]; simp⟩
end Go.Proofs.Ytlebojbfcolkhaa
