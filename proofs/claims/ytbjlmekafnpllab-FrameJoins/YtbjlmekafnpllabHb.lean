/- Layer frame, the document's answer: Split. -/
import Derived.Test.YtbjlmekafnpllabHa
namespace Go.Proofs.Ytbjlmekafnpllab
open Go.RowKit
set_option linter.unusedVariables false
set_option linter.unusedSimpArgs false

/-- Pieces of so many bytes, the last one what is left. -/
structure Pcs (c : Int) (z : Nat) (s : Int) (X : List (Int × Int × Bool × List Int)) : Prop where
  at' : ∀ (i : Nat) x, X[i]? = some x → x.1 = c ∧ x.2.1 = s + i ∧ x.2.2.1 = decide (i + 1 = X.length) ∧ (i + 1 < X.length → x.2.2.2.length = z) ∧ (i + 1 = X.length → x.2.2.2.length ≤ z ∧ (X.length = 1 ∨ 0 < x.2.2.2.length))
theorem pcs_unique (c : Int) (z : Nat) (hz1 : 1 ≤ z) : ∀ (X : List (Int × Int × Bool × List Int)) (k : Nat) (s : Int), X ≠ [] → Pcs c z s X → ((X.map (·.2.2.2)).flatten).length < k → X = spl c z k s (X.map (·.2.2.2)).flatten
  | [], k, s, h, _, _ => absurd rfl h
  | [x], k, s, _, hp, hk => by
    obtain ⟨k', rfl⟩ : ∃ k', k = k' + 1 := ⟨k - 1, by omega⟩
    obtain ⟨q1, q2, q3, -, q5⟩ := hp.at' 0 x rfl
    have q5 := (q5 rfl).1
    obtain ⟨a, b, l, d⟩ := x
    simp only at q1 q2 q3 q5
    simp only [List.map_cons, List.map_nil, List.flatten_cons, List.flatten_nil, List.append_nil]
    rw [spl_last q5]
    simp at q2 q3
    simp [q1, q2, q3]
  | x :: y :: ys, k, s, _, hp, hk => by
    obtain ⟨k', rfl⟩ : ∃ k', k = k' + 1 := ⟨k - 1, by omega⟩
    obtain ⟨q1, q2, q3, q4, -⟩ := hp.at' 0 x rfl
    have q4 := q4 (by simp)
    have hp' : Pcs c z (s + 1) (y :: ys) := ⟨fun i u hu => by
      obtain ⟨r1, r2, r3, r4, r5⟩ := hp.at' (i + 1) u (by simpa using hu)
      refine ⟨r1, by rw [r2]; push_cast; omega, by rw [r3]; simp, fun h => r4 (by simpa using h), fun h => ?_⟩
      have := r5 (by simpa using h)
      refine ⟨this.1, .inr ?_⟩
      rcases this.2 with h1 | h1
      · simp at h1
      · exact h1⟩
    have hrest : 0 < (((y :: ys).map (·.2.2.2)).flatten).length := by
      have hl : (y :: ys).length - 1 < (y :: ys).length := by simp
      have hm := List.getElem_mem hl
      obtain ⟨-, -, -, -, r5⟩ := hp'.at' _ _ (List.getElem?_eq_getElem hl)
      have r6 := (hp.at' ((y :: ys).length - 1 + 1) ((y :: ys)[(y :: ys).length - 1]) (by simp)).2.2.2.2 (by simp)
      rcases r6.2 with h1 | h1
      · simp at h1
      · have h2 : ((y :: ys)[(y :: ys).length - 1]).2.2.2 ∈ (y :: ys).map (·.2.2.2) := List.mem_map_of_mem hm
        have h3 : ∀ (Ls : List (List Int)) (M : List Int), M ∈ Ls → M.length ≤ Ls.flatten.length := by
          intro Ls
          induction Ls with
          | nil => intro M h; simp at h
          | cons A As ih =>
            intro M h
            simp only [List.flatten_cons, List.length_append]
            rcases List.mem_cons.1 h with rfl | h
            · omega
            · have := ih M h; omega
        have := h3 _ _ h2
        omega
    have ih := pcs_unique c z hz1 (y :: ys) k' (s + 1) (by simp) hp' (by
      simp only [List.map_cons, List.flatten_cons, List.length_append] at hk ⊢ hrest
      omega)
    obtain ⟨a, b, l, d⟩ := x
    simp only at q1 q2 q3 q4
    have e1 : ((((a, b, l, d) :: y :: ys).map (·.2.2.2)).flatten) = d ++ ((y :: ys).map (·.2.2.2)).flatten := by simp
    rw [e1, spl_more (by rw [List.length_append]; omega)]
    rw [List.take_left' q4, List.drop_left' q4, ← ih]
    simp at q2 q3
    simp [q1, q2, q3]

/-- What the document's Split has made of the first bytes: the full pieces, and the one that is being filled. -/
structure Mid (c : Int) (z : Nat) (L : List Int) (i : Nat) (X : List Fr) (f : Fr) : Prop where
  full : ∀ (j : Nat) g, X[j]? = some g → g.ch = c ∧ g.seq = j ∧ g.last = false ∧ g.bs.length = z
  fch : f.ch = c
  fseq : f.seq = X.length
  flast : f.last = false
  fle : f.bs.length ≤ z
  fpos : X = [] ∨ 0 < f.bs.length
  all : (X.map (·.bs)).flatten ++ f.bs = L.take i
theorem Mid.done {c : Int} {z : Nat} {L : List Int} {X : List Fr} {f : Fr} (h : Mid c z L L.length X f) (hz : 1 ≤ z) (f' : Fr) (hf' : f'.ck = (f.ch, f.seq, true, f.bs)) : (X ++ [f']).map Fr.ck = split c z L := by
  have hp : Pcs c z 0 ((X ++ [f']).map Fr.ck) := ⟨fun i x hx => by
    rw [List.map_append, List.map_cons, List.map_nil] at hx
    by_cases hi : i < X.length
    · rw [List.getElem?_append_left (by simpa using hi), List.getElem?_map, List.getElem?_eq_getElem hi] at hx
      simp only [Option.map_some, Option.some.injEq] at hx
      subst hx
      obtain ⟨q1, q2, q3, q4⟩ := h.full i _ (List.getElem?_eq_getElem hi)
      refine ⟨q1, by show X[i].seq = 0 + (i : Int); omega, ?_, fun _ => q4, fun e => by simp at e; omega⟩
      show X[i].last = _
      rw [q3]; symm; rw [decide_eq_false_iff_not]; simp; omega
    · rw [List.getElem?_append_right (by simp; omega)] at hx
      have hix : i = X.length := by
        have := (List.getElem?_eq_some_iff.1 hx).1
        simp at this; omega
      subst hix
      simp at hx
      subst hx
      rw [hf']
      refine ⟨h.fch, by show f.seq = _; rw [h.fseq]; omega, by simp, fun e => by simp at e, fun _ => ⟨h.fle, ?_⟩⟩
      rcases h.fpos with e | e
      · left; simp [e]
      · exact .inr e⟩
  have hall : (((X ++ [f']).map Fr.ck).map (·.2.2.2)).flatten = L := by
    have h1 := h.all
    rw [List.take_length] at h1
    rw [List.map_map, List.map_append, List.flatten_append]
    simp only [List.map_cons, List.map_nil, List.flatten_cons, List.flatten_nil, List.append_nil, Function.comp]
    rw [hf']
    exact h1
  have := pcs_unique c z hz ((X ++ [f']).map Fr.ck) (L.length + 1) 0 (by simp) hp (by rw [hall]; omega)
  rw [hall] at this
  exact this
/-- A frame of a row gets another Body, or is the Last one. -/
theorem own_setBody {w : World} {base g n cap q : Nat} {X : List Fr} {f : Fr} (h : w.ownsRow base 25 4 (.slice (some ⟨g, 0, none⟩) n cap) n (flat4 (X ++ [f]))) (hn : n = X.length + 1) (hq : q = X.length) (sp : Option Addr) (m c : Nat) (bs : List Int) :
    (w.setCell ⟨g, q * 4 + 3, none⟩ (.slice sp m c)).ownsRow base 25 4 (.slice (some ⟨g, 0, none⟩) n cap) n (flat4 (X ++ [⟨f.ch, f.seq, f.last, sp, m, c, bs⟩])) := by
  subst hq
  obtain ⟨hl, h | ⟨g', cap', cur, e, hg, hh, hnc, hm, hc, ht⟩⟩ := h
  · cases h.1
  · cases e
    have hA : Arr w g 25 cur := hh
    refine ⟨by rw [flat4_len]; simp; omega, .inr ⟨g, cap, _, rfl, hg, hA.set _ _, hnc, hm, by simpa using hc, ?_⟩⟩
    rw [Array.toList_setIfInBounds, List.take_set, ht, flat4_snoc, flat4_snoc, List.set_append_right _ _ (by rw [flat4_len]; omega), flat4_len, show X.length * 4 + 3 - X.length * 4 = 3 by omega]
    rfl
theorem own_setLast {w : World} {base g n cap q : Nat} {X : List Fr} {f : Fr} (h : w.ownsRow base 25 4 (.slice (some ⟨g, 0, none⟩) n cap) n (flat4 (X ++ [f]))) (hn : n = X.length + 1) (hq : q = X.length) (l : Bool) :
    (w.setCell ⟨g, q * 4 + 2, none⟩ (.bool l)).ownsRow base 25 4 (.slice (some ⟨g, 0, none⟩) n cap) n (flat4 (X ++ [⟨f.ch, f.seq, l, f.sp, f.n, f.cap, f.bs⟩])) := by
  subst hq
  obtain ⟨hl, h | ⟨g', cap', cur, e, hg, hh, hnc, hm, hc, ht⟩⟩ := h
  · cases h.1
  · cases e
    have hA : Arr w g 25 cur := hh
    refine ⟨by rw [flat4_len]; simp; omega, .inr ⟨g, cap, _, rfl, hg, hA.set _ _, hnc, hm, by simpa using hc, ?_⟩⟩
    rw [Array.toList_setIfInBounds, List.take_set, ht, flat4_snoc, flat4_snoc, List.set_append_right _ _ (by rw [flat4_len]; omega), flat4_len, show X.length * 4 + 2 - X.length * 4 = 2 by omega]
    rfl
end Go.Proofs.Ytbjlmekafnpllab
