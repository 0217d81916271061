/- Layer collide: literals; the sum of 9. -/
import Derived.Test.YtgjnbpimldjkpaaCj
namespace Go.Proofs.Ytgjnbpimldjkpaa
open Go.RowKit
set_option linter.unusedVariables false
set_option linter.unusedSimpArgs false

theorem sum9 : shaSt (bat [9]) (1 / 64) (1 % 64) = ⟨726414383, 1412688869, 2443303543, 3759395255, 611669549, 1213697482, 2340731590, 1696349369⟩ := by kernel_rfl
theorem nine_ne : shl [9] ≠ Z32 := by
  intro h
  have h0 : (shl [9])[0]? = Z32[0]? := by rw [h]
  have e : shaB (bat [9]) 1 0 = 43 := by
    show outB (shaSt (bat [9]) (1 / 64) (1 % 64)) 0 = 43
    rw [sum9]; decide
  simp [shl, Z32, e] at h0
theorem info24 : (Try.prog.info? 29).map (fun i => (i.zero, i.size, i.bytes)) = some (some (.agg (h8 Z32)), 32, 32) := by kernel_rfl
theorem wp_bld1 {o : Oper} {a : Act} {w : World} {K : Act → World → Prop} {Q : Exit → Act → World → Prop} (x : Operand) (ho : o.op = .buildSlice 30 1 #[(0, x)]) (X : List Int) (hx : a.eval x = .agg (h8 X)) (hX : X.length = 32)
    (h : K (a.put o.dst (.slice (some ⟨w.heap.size, 0, none⟩) 1 1)) (w.alloc (.cells (h8 X) 29))) : o.wp Try.prog a w K Q := by
  obtain ⟨i0, hi0, hz0, hz1, hz2⟩ := info_parts info24
  refine wp_buildSlice 30 29 1 _ ho (h8 X) i0 (.agg (h8 Z32)) Try.underlying30 hi0 hz0 (by rw [hz1]; omega) (by rw [hz1]; omega) ?_ h
  have e : (#[(0, x)].map fun (p : Nat × Operand) => (p.1, a.eval p.2)).toList = ([Value.agg (h8 X)].zipIdx 0).map fun x => (x.2, x.1) := by simp [hx]
  rw [hz1]
  refine Eq.trans (congrArg _ e) ?_
  rw [Great.fill_whole (s := 32) (by omega) [.agg (h8 X)] _ (fun v hv => by simp only [List.mem_singleton] at hv; rw [hv]; show (h8 X).size = 32; rw [h8_size, hX]) (by simp)]
  simp [Value.cells, h8]
theorem b1L {ops : Array Oper} {rest : List Oper} {o : Oper} {a : Act} {w : World} {Q : Exit → Act → World → Prop} (hgd : o.guard = none) (x : Operand) (ho : o.op = .buildSlice 30 1 #[(0, x)]) (X : List Int) (hx : a.eval x = .agg (h8 X)) (hX : X.length = 32)
    (h : wpList Try.prog ops Q rest (a.put o.dst (.slice (some ⟨w.heap.size, 0, none⟩) 1 1)) (w.alloc (.cells (h8 X) 29))) : wpList Try.prog ops Q (o :: rest) a w :=
  wpList_plain hgd fun _ hK => wp_bld1 x ho X hx hX (hK _ _ h)
theorem b3E {ops : Array Oper} {rest : List Oper} {o : Oper} {a : Act} {w : World} {Q : Exit → Act → World → Prop} (hgd : o.guard = none) (x y z : Operand) (ho : o.op = .buildSlice 22 3 #[(0, x), (1, y), (2, z)]) (e f g : En) (hx : a.eval x = .agg e.arr) (hy : a.eval y = .agg f.arr) (hz : a.eval z = .agg g.arr) (he : e.sm.length = 32) (hf : f.sm.length = 32) (hg : g.sm.length = 32)
    (h : wpList Try.prog ops Q rest (a.put o.dst (.slice (some ⟨w.heap.size, 0, none⟩) 3 3)) (w.alloc (.cells (flatE [e, f, g]).toArray 54))) : wpList Try.prog ops Q (o :: rest) a w := by
  refine wpList_plain hgd fun _ hK => ?_
  obtain ⟨i0, hi0, hz0, hz1, hz2⟩ := info_parts info54
  refine wp_buildSlice 22 54 3 _ ho (flatE [e, f, g]).toArray i0 (.agg (En.arr ⟨none, 0, 0, [], Z32⟩)) Try.underlying22 hi0 hz0 (by rw [hz1]; omega) (by rw [hz1]; omega) ?_ (hK _ _ h)
  have e1 : (#[(0, x), (1, y), (2, z)].map fun (p : Nat × Operand) => (p.1, a.eval p.2)).toList = ([Value.agg e.arr, Value.agg f.arr, Value.agg g.arr].zipIdx 0).map fun x => (x.2, x.1) := by simp [hx, hy, hz]
  rw [hz1]
  refine Eq.trans (congrArg _ e1) ?_
  rw [Great.fill_whole (s := 33) (by omega) [.agg e.arr, .agg f.arr, .agg g.arr] _ (fun v hv => by
    simp only [List.mem_cons, List.not_mem_nil, or_false] at hv
    rcases hv with rfl | rfl | rfl
    · exact En.size he
    · exact En.size hf
    · exact En.size hg) (by simp)]
  simp [Value.cells, En.arr, flatE]
/-- A literal's slice of entries. -/
theorem es_lit {w : World} {g : Nat} {es : List En} {m : Nat} (h : Arr w g 54 (flatE es).toArray) (hl : ∀ e ∈ es, EnOK w.heap.size w e) (hm : m = es.length) (hsm : m ≤ 1000) : ES w.heap.size w (some ⟨g, 0, none⟩) m m es :=
  ⟨hm, (fun e => by cases e), Nat.le_refl _, by omega, by omega, fun h0 => ⟨g, 0, rfl, h.lt, fun i e he j u hu => by
    rw [Nat.zero_add, h.cell]
    simpa using flatE_at (fun e he => (hl e he).s32) he hu⟩, hl⟩
theorem hs_one {w : World} {g : Nat} {X : List Int} (h : Arr w g 29 (h8 X)) (hX : X.length = 32) : HS w.heap.size w (some ⟨g, 0, none⟩) 1 1 [X] :=
  ⟨rfl, (fun e => by cases e), Nat.le_refl _, by omega, by omega, fun h0 => ⟨g, 0, rfl, h.lt, fun i Y hY => by
    have hi : i = 0 := by have := (List.getElem?_eq_some_iff.1 hY).1; simpa using this
    subst hi
    simp at hY; subst hY
    simpa using h.range⟩, fun Y hY => by simp at hY; subst hY; exact hX⟩
theorem bs_lit {w : World} {g : Nat} {b : Int} (h : Arr w g 5 #[.int .u8 b]) (hb : 0 ≤ b ∧ b ≤ 255) : BS w.heap.size w (some ⟨g, 0, none⟩) 1 1 [b] :=
  ⟨rfl, (fun e => by cases e), Nat.le_refl _, by omega, by omega, fun h0 => ⟨g, 0, rfl, h.lt, fun t ht => by
    obtain rfl : t = 0 := by omega
    rw [h.cell]; simp [bat]⟩, fun x hx => by simp at hx; subst hx; exact hb⟩
/-- What Find finds among the anchor's three. -/
theorem fnd_anchor {e f g : En} {a b : Int} {c : Bool} {s : List Int} (he : e.bs = [1] ∧ e.sm = s) (hf : f.bs = [2] ∧ f.sm = Z32) (hg : g.bs = [3] ∧ g.sm = s) (hs : s ≠ Z32) (h : Fnd [e, f, g] a b c) : a = 0 ∧ b = 2 ∧ c = true := by
  have h01 : hit [e, f, g] 0 1 = false := by simp [hit, hitE, he.2, hf.2, hs]
  have h02 : hit [e, f, g] 0 2 = true := by simp [hit, hitE, he.2, hg.2, he.1, hg.1]
  have h2 : Fnd [e, f, g] 0 2 true := .inl ⟨rfl, 0, 2, rfl, rfl, by omega, by simp, h02, fun j' hj' i' hi' => by
    obtain ⟨rfl, rfl⟩ : j' = 1 ∧ i' = 0 := by omega
    exact h01, fun i' hi' => by omega⟩
  obtain ⟨h3, h4, h5⟩ := Fnd.one h2 h
  exact ⟨h3, h4, h5⟩
theorem sum1 (b : Int) (w : World) (g : Nat) (hg : g = w.heap.size) : Calls Try.prog 17 #[.slice (some ⟨g, 0, none⟩) 1 1] (w.alloc (.cells #[.int .u8 b] 5)) fun e w' => e = .returned (.agg (h8 (shl [b]))) ∧ Below w.heap.size w w' := by
  subst hg
  refine (refSum_any (some ⟨w.heap.size, 0, none⟩) 1 1 [b] _ rfl (fun h => by cases h) (Arr.sl (Arr.new w 5 _)) (by omega)).mono ?_
  rintro e w' ⟨he, hb⟩
  rw [sha_h8] at he
  exact ⟨he, (alloc_bel' w _).trans (hb.mono (by simp))⟩
end Go.Proofs.Ytgjnbpimldjkpaa
