/- Layer merkle: sums that came in. -/
import Derived.Test.YthpinikdkfiagaaMr
import Derived.Test.YthpinikdkfiagaaTp
namespace Go.Proofs.Ythpinikdkfiagaa
open Go.ChangeShapes Go.WideShapes Go.ChangeAt Go.RowKit
set_option linter.unusedVariables false
set_option linter.unusedSimpArgs false

theorem exists_list {α : Type} {P : Nat → α → Prop} : ∀ (n : Nat), (∀ i, i < n → ∃ a, P i a) → ∃ l : List α, l.length = n ∧ ∀ i a, l[i]? = some a → P i a
  | 0, _ => ⟨[], rfl, fun i a h => by simp at h⟩
  | n + 1, h => by
    obtain ⟨l, hl, hP⟩ := exists_list n (fun i hi => h i (by omega))
    obtain ⟨a, ha⟩ := h n (by omega)
    refine ⟨l ++ [a], by simp [hl], fun i b hb => ?_⟩
    by_cases hi : i < n
    · rw [List.getElem?_append_left (by omega)] at hb; exact hP i b hb
    · rw [List.getElem?_append_right (by omega)] at hb
      have : i - l.length = 0 := by have := (List.getElem?_eq_some_iff.1 hb).1; simp at this; omega
      rw [this] at hb
      simp at hb
      subst hb
      obtain rfl : i = n := by omega
      exact ha
theorem cells24 : Try.prog.cellsOf 24 = 32 := by kernel_rfl
theorem cells5 : Try.prog.cellsOf 5 = 1 := by kernel_rfl
theorem cells39 : Try.prog.cellsOf 39 = 96 := by kernel_rfl
theorem bytes24 : Try.prog.bytesOf 24 = 32 := by kernel_rfl

section
variable {H : Type} {enc : TypeId × Value → H} {W : World} {base : Nat}

theorem h_of_trod {fuel : Nat} {cs : List Value} {x : DataW H × List MemPlace} (h : DataW.trod enc Try.prog W base (fun _ => true) true fuel 24 cs = some x) : ∃ X : List Int, X.length = 32 ∧ cs = by8 X := by
  obtain ⟨xs, m, -, hx, hl, hxs, hi⟩ := DataW.trod_array Try.underlying24 h
  rw [cells24] at hl
  have key : ∀ i, i < 32 → ∃ z, cs[i]? = some (.int .u8 z) := fun i hin => by
    have := hi i hin
    rw [List.getElem?_eq_getElem (by omega), cells5] at this
    obtain ⟨z, hz, -⟩ := DataW.trod_int Try.underlying5 this
    refine ⟨z, ?_⟩
    simp only [Nat.mul_one] at hz
    have h2 : (List.take 1 (List.drop i cs))[0]? = some (.int .u8 z) := by rw [hz]; rfl
    simpa using h2
  refine ⟨cs.map fun v => match v with | .int _ z => z | _ => 0, by simp [hl], ?_⟩
  apply List.ext_getElem?
  intro i
  by_cases hin : i < 32
  · obtain ⟨z, hz⟩ := key i hin
    simp [by8, hz]
  · rw [List.getElem?_eq_none (by omega), List.getElem?_eq_none (by rw [by8_len]; simp; omega)]
/-- Nothing in it is greater than the reach. -/
def Small (t : TypeId) (d : DataW H) : Prop := ∀ n ∈ d.weights Try.prog t, n ≤ reachBytes
theorem hs_of_trod {fuel : Nat} {cs : List Value} {x : DataW H × List MemPlace} (h : DataW.trod enc Try.prog W base (fun _ => true) true fuel 22 cs = some x) (hs : Small 22 x.1) :
    ∃ sp n cap ls, cs = [.slice sp n cap] ∧ HS W.heap.size W sp n cap ls ∧ n * 32 ≤ 140737488351232 := by
  rcases DataW.trod_slice Try.underlying22 h with ⟨rfl, -⟩ | ⟨a, len, cap, elems, rest, n, rfl, rfl, rfl, hb, hlc, hm, hlen, hel, hsp, -⟩
  · exact ⟨none, 0, 0, [], rfl, HS.nil0 _ _, by omega⟩
  · obtain ⟨hrl, -⟩ := hsp rfl
    have hr := hs ((elems.length + rest.length) * 32) (by simp [DataW.weights, Try.underlying22, bytes24])
    simp only [reachBytes] at hr
    have hstep : ∀ i, i < len → ∃ g off, ∃ X : List Int, a.add (i * 32) = ⟨g, off, none⟩ ∧ X.length = 32 ∧ W.rangeAt g off (by8 X) := fun i hi => by
      have h1 := hel i hi
      rw [cells24, List.getElem?_eq_getElem (by omega), Option.bind_eq_some_iff] at h1
      obtain ⟨cs, hcs, ht⟩ := h1
      obtain ⟨X, hX, rfl⟩ := h_of_trod ht
      obtain ⟨-, -, hc⟩ := World.cells?_some hcs
      have h0 := hc 0 (by omega)
      rw [by8_get (by omega)] at h0
      obtain ⟨ad, ha⟩ : ∃ ad, ad = a.add (i * 32) := ⟨_, rfl⟩
      rw [← ha] at h0 hc ⊢
      obtain ⟨g, off, spot⟩ := ad
      have hspot : spot = none := by simpa [Addr.add] using World.cell?_spot h0
      subst hspot
      refine ⟨g, off, X, rfl, hX, fun j v hv => ?_⟩
      have hj : j < 32 := by have := (List.getElem?_eq_some_iff.1 hv).1; rw [by8_len, hX] at this; exact this
      have := hc j hj
      rw [Addr.add_mid] at this
      rw [this]; exact hv
    by_cases h0 : 0 < len
    · obtain ⟨g, off, -, e, -⟩ := hstep 0 h0
      have ha : a = ⟨g, off, none⟩ := by simpa [Addr.add] using e
      subst ha
      obtain ⟨l, hl, hP⟩ := exists_list (P := fun i (X : List Int) => X.length = 32 ∧ W.rangeAt g (off + i * 32) (by8 X)) len (fun i hi => by
        obtain ⟨g', off', X, e', h1, ho⟩ := hstep i hi
        rw [Addr.add_mid] at e'
        cases e'
        exact ⟨X, h1, ho⟩)
      refine ⟨some ⟨g, off, none⟩, len, cap, l, rfl, ⟨show _ = _ by simp [hl], (fun e => by cases e), hlc, by unfold maxLen at hm; omega, by omega, fun _ => ⟨g, off, rfl, ?_, fun i X hX => (hP i X hX).2⟩, fun X hX => ?_⟩, by omega⟩
      · obtain ⟨X, hX⟩ : ∃ X, l[0]? = some X := ⟨l[0], List.getElem?_eq_getElem (by omega)⟩
        have h32 := (hP 0 X hX).1
        exact block_lt_of_cell ((hP 0 X hX).2 0 _ (by8_get (by omega)))
      · obtain ⟨i, hi⟩ := List.mem_iff_getElem?.1 hX
        exact (hP i X hi).1
    · obtain rfl : len = 0 := by omega
      exact ⟨some a, 0, cap, [], rfl, ⟨rfl, (fun e => by cases e), by omega, by unfold maxLen at hm; omega, by omega, fun h => by omega, fun X hX => by cases hX⟩, by omega⟩
/-- A slice of sums that came in. -/
theorem open_hashes {b0 : Nat} {v : Value} {d : DataW H} {p : List MemPlace} {ts : List TypeId} {ds : List (DataW H)} {j : Nat}
    (hv : Value.okWide Try.prog W .any b0 22 v) (h : DataW.Trod enc Try.prog W base (fun _ => true) true 22 v d p)
    (hsz : (DataW.weightsEach Try.prog ts ds).all (· ≤ reachBytes) = true) (ht : ts[j]? = some 22) (hd : ds[j]? = some d) :
    ∃ sp n cap ls, v = .slice sp n cap ∧ HS W.heap.size W sp n cap ls ∧ n * 32 ≤ 140737488351232 := by
  obtain ⟨a0, len0, cap0, rfl⟩ := okWide_slice Try.underlying22 hv
  obtain ⟨fuel, hf⟩ := h
  have hs : Small 22 d := fun n hn => by
    have := List.all_eq_true.1 hsz n (DataW.weights_mem_each ht hd n hn)
    simpa using this
  obtain ⟨sq, k, cq, fs, e, hi⟩ := hs_of_trod (x := (d, p)) hf hs
  simp [Value.cells] at e
  obtain ⟨rfl, rfl, rfl⟩ := e
  exact ⟨_, _, _, fs, rfl, hi⟩
/-- A leaf, a new one and a root that came in. -/
theorem open_try {b0 : Nat} {v : Value} {d : DataW H} {p : List MemPlace}
    (hv : Value.okWide Try.prog W .any b0 39 v) (h : DataW.Trod enc Try.prog W base (fun _ => true) true 39 v d p) :
    ∃ L X R : List Int, v = .agg (flat32 [L, X, R]).toArray ∧ L.length = 32 ∧ X.length = 32 ∧ R.length = 32 := by
  unfold Value.okWide at hv
  rw [Try.underlying39] at hv
  obtain ⟨cs, rfl, hc, -⟩ := hv
  obtain ⟨fuel, hf⟩ := h
  obtain ⟨xs, n, -, -, hl, hxl, hff⟩ := DataW.trod_struct Try.underlying39 hf
  rw [cells39] at hl
  simp at hxl
  match xs, hxl with
  | [x0, x1, x2], _ =>
  have f0 := hff 0 _ rfl
  have f1 := hff 1 _ rfl
  have f2 := hff 2 _ rfl
  simp [cells24, Value.cells] at f0 f1 f2
  obtain ⟨L, hL, e0⟩ := h_of_trod f0
  obtain ⟨X, hX, e1⟩ := h_of_trod f1
  obtain ⟨R, hR, e2⟩ := h_of_trod f2
  refine ⟨L, X, R, ?_, hL, hX, hR⟩
  have hl' : cs.toList.length = 96 := hl
  congr 1
  apply Array.toList_inj.1
  show cs.toList = flat32 [L, X, R]
  have e : cs.toList = List.take 32 cs.toList ++ (List.take 32 (List.drop 32 cs.toList) ++ List.take 32 (List.drop 64 cs.toList)) := by
    rw [show List.drop 64 cs.toList = List.drop 32 (List.drop 32 cs.toList) by rw [List.drop_drop], List.take_of_length_le (l := List.drop 32 (List.drop 32 cs.toList)) (by rw [List.drop_drop, List.length_drop]; omega), List.take_append_drop, List.take_append_drop]
  rw [e, e0, e1, e2]
  simp [flat32]
end
end Go.Proofs.Ythpinikdkfiagaa
