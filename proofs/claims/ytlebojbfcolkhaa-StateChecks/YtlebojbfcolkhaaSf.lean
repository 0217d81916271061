/- Layer state: a thing and a witness that came in. -/
import Derived.Test.YtlebojbfcolkhaaSe
import Derived.Test.YtlebojbfcolkhaaA25
namespace Go.Proofs.Ytlebojbfcolkhaa
open Go.RowKit
set_option maxRecDepth 100000
set_option linter.unusedVariables false
set_option linter.unusedSimpArgs false

section
variable {H : Type} {enc : TypeId × Value → H} {W : World} {base : Nat}
theorem th_of_trod {fuel : Nat} {cs : List Value} {x : DataW H × List MemPlace} (h : DataW.trod enc Try.prog W base (fun _ => true) true fuel 55 cs = some x) :
    ∃ a b R, cs = thC a b R ∧ AcOK a ∧ OuOK b ∧ R.length = 32 ∧ Bts R := by
  obtain ⟨xs, n, rfl, hdx, hl, hxl, hff⟩ := DataW.trod_struct Try.underlying55 h
  rw [cells55] at hl
  simp at hxl
  match xs, hxl with
  | [x0, x1, x2], _ =>
  have f0 := hff 0 _ rfl
  have f1 := hff 1 _ rfl
  have f2 := hff 2 _ rfl
  simp [cells26, cells53, cells29] at f0 f1 f2
  obtain ⟨a, e0, ha⟩ := ac_of_trod _ _ _ f0
  obtain ⟨b, e1, hb⟩ := ou_of_trod _ _ _ f1
  obtain ⟨R, hR, bR, e2⟩ := h_of_trod f2
  refine ⟨a, b, R, ?_, ha, hb, hR, bR⟩
  unfold thC
  rw [← e0, ← e1, ← e2]
  rw [List.take_of_length_le (l := List.drop 36 cs) (by rw [List.length_drop]; omega)]
  rw [take_drop_cat cs 2 34, List.take_append_drop]
theorem wt_of_trod {fuel : Nat} {cs : List Value} {x : DataW H × List MemPlace} (h : DataW.trod enc Try.prog W base (fun _ => true) true fuel 44 cs = some x) (hs : Small 44 x.1) :
    ∃ sp n cap ls o c, cs = wtC sp n cap o c ∧ WT W.heap.size W sp n cap ls o c := by
  obtain ⟨xs, n, rfl, hdx, hl, hxl, hff⟩ := DataW.trod_struct Try.underlying44 h
  rw [cells44] at hl
  simp at hxl
  match xs, hxl with
  | [x0, x1, x2], _ =>
  have hd0 : x.1 = _ := (Prod.ext_iff.1 hdx).1
  have f0 := hff 0 _ rfl
  have f1 := hff 1 _ rfl
  have f2 := hff 2 _ rfl
  simp [cells30, cells29, cells22] at f0 f1 f2
  have s0 : Small 42 x0.1 := fun m hm => hs m (by rw [hd0]; simp [DataW.weights, Try.underlying44, DataW.weightsEach, hm])
  obtain ⟨sp, m, cap, ls, e0, hH, -⟩ := hs_of_trod f0 s0
  obtain ⟨o, ho, bo, e1⟩ := h_of_trod f1
  obtain ⟨c, e2, -, wc⟩ := DataW.trod_int Try.underlying22 f2
  refine ⟨sp, m, cap, ls, o, c, ?_, ⟨hH, ho, (u64_wf wc).1, (u64_wf wc).2⟩⟩
  unfold wtC
  rw [← e1, ← e2]
  rw [List.take_of_length_le (l := List.drop 33 cs) (by rw [List.length_drop]; omega)]
  rw [show List.take 32 cs.tail ++ List.drop 33 cs = List.drop 1 cs from by rw [← List.drop_one]; exact take_drop_cat cs 32 1]
  have := List.take_append_drop 1 cs
  rw [e0] at this
  exact this.symm
/-- A THING THAT CAME IN. -/
theorem open_thing {b0 : Nat} {v : Value} {d : DataW H} {p : List MemPlace}
    (hv : Value.okWide Try.prog W .any b0 55 v) (h : DataW.Trod enc Try.prog W base (fun _ => true) true 55 v d p) :
    ∃ a b R, v = .agg (thA a b R) ∧ AcOK a ∧ OuOK b ∧ R.length = 32 ∧ Bts R := by
  unfold Value.okWide at hv
  rw [Try.underlying55] at hv
  obtain ⟨cs, rfl, hc, -⟩ := hv
  obtain ⟨fuel, hf⟩ := h
  obtain ⟨a, b, R, e, h⟩ := th_of_trod hf
  refine ⟨a, b, R, ?_, h⟩
  congr 1
  apply Array.toList_inj.1
  exact e
/-- A WITNESS THAT CAME IN. -/
theorem open_wit {b0 : Nat} {v : Value} {d : DataW H} {p : List MemPlace} {ts : List TypeId} {ds : List (DataW H)} {j : Nat}
    (hv : Value.okWide Try.prog W .any b0 44 v) (h : DataW.Trod enc Try.prog W base (fun _ => true) true 44 v d p)
    (hsz : (DataW.weightsEach Try.prog ts ds).all (· ≤ reachBytes) = true) (ht : ts[j]? = some 44) (hd : ds[j]? = some d) :
    ∃ sp n cap ls o c, v = .agg (wtA sp n cap o c) ∧ WT W.heap.size W sp n cap ls o c := by
  unfold Value.okWide at hv
  rw [Try.underlying44] at hv
  obtain ⟨cs, rfl, hc, -⟩ := hv
  obtain ⟨fuel, hf⟩ := h
  obtain ⟨sp, n, cap, ls, o, c, e, h⟩ := wt_of_trod hf (fun m hm => by
    have := List.all_eq_true.1 hsz m (DataW.weights_mem_each ht hd m hm)
    simpa using this)
  refine ⟨sp, n, cap, ls, o, c, ?_, h⟩
  congr 1
  apply Array.toList_inj.1
  exact e
end
end Go.Proofs.Ytlebojbfcolkhaa
