/- Layer frame, plain lists: what is cut comes together again, in whatever order, and without a part it does not. -/
import Derived.Test.YtbjlmekafnpllabFh
namespace Go.Proofs.Ytbjlmekafnpllab
open Go.RowKit
set_option linter.unusedVariables false
set_option linter.unusedSimpArgs false

theorem spl_facts (c : Int) (z : Nat) (hz : 1 ≤ z) : ∀ (k : Nat) (s : Int) (L : List Int), L.length < k →
    spl c z k s L ≠ [] ∧ ((spl c z k s L).map (·.2.2.2)).flatten = L ∧ ∀ (i : Nat) x, (spl c z k s L)[i]? = some x → x.1 = c ∧ x.2.1 = s + i ∧ x.2.2.1 = decide (i + 1 = (spl c z k s L).length) ∧ x.2.2.2.length ≤ z
  | 0, s, L, h => by omega
  | k + 1, s, L, h => by
    by_cases hL : L.length ≤ z
    · rw [spl_last hL]
      refine ⟨by simp, by simp, fun i x hx => ?_⟩
      match i, hx with
      | 0, hx => simp at hx; subst hx; simpa using hL
      | i + 1, hx => simp at hx
    · rw [spl_more hL]
      obtain ⟨h1, h2, h3⟩ := spl_facts c z hz k (s + 1) (L.drop z) (by rw [List.length_drop]; omega)
      refine ⟨by simp, by simp only [List.map_cons, List.flatten_cons, h2, List.take_append_drop], fun i x hx => ?_⟩
      match i, hx with
      | 0, hx =>
        simp at hx; subst hx
        have : 0 < (spl c z k (s + 1) (L.drop z)).length := List.length_pos_iff.2 h1
        refine ⟨rfl, by simp, ?_, by simp; omega⟩
        simp only [List.length_cons]
        symm; rw [decide_eq_false_iff_not]; omega
      | i + 1, hx =>
        obtain ⟨q1, q2, q3, q4⟩ := h3 i x (by simpa using hx)
        refine ⟨q1, by rw [q2]; push_cast; omega, ?_, q4⟩
        rw [q3]; simp

/-- The frames of a channel that was cut. -/
structure Chan (c : Int) (L : List Int) (fs : List Fr) : Prop where
  ne : fs ≠ []
  all : (fs.map (·.bs)).flatten = L
  at' : ∀ (i : Nat) f, fs[i]? = some f → f.ch = c ∧ f.seq = i ∧ f.last = decide (i + 1 = fs.length) ∧ f.may = true
theorem chan_of {c : Int} {z : Nat} {L : List Int} {fs : List Fr} (hz : 1 ≤ z) (hz2 : z ≤ 4096) (h : fs.map Fr.ck = split c z L) (hl : fs.length ≤ 1024) (hn : ∀ f ∈ fs, f.n = f.bs.length) : Chan c L fs := by
  obtain ⟨h1, h2, h3⟩ := spl_facts c z hz (L.length + 1) 0 L (by omega)
  change split c z L ≠ [] at h1
  change ((split c z L).map (·.2.2.2)).flatten = L at h2
  change ∀ (i : Nat) x, (split c z L)[i]? = some x → x.1 = c ∧ x.2.1 = 0 + (i : Int) ∧ x.2.2.1 = decide (i + 1 = (split c z L).length) ∧ x.2.2.2.length ≤ z at h3
  rw [← h] at h1 h2 h3
  refine ⟨fun e => by rw [e] at h1; exact h1 rfl, ?_, fun i f hf => ?_⟩
  · rw [List.map_map] at h2; exact h2
  · have hi := (List.getElem?_eq_some_iff.1 hf).1
    obtain ⟨q1, q2, q3, q4⟩ := h3 i f.ck (by rw [List.getElem?_map, hf]; rfl)
    rw [List.length_map] at q3
    have q2' : f.seq = i := by have : f.seq = 0 + (i : Int) := q2; omega
    refine ⟨q1, q2', q3, ?_⟩
    rw [Fr.may_iff, q2']
    have := hn f (List.mem_of_getElem? hf)
    have q4' : f.bs.length ≤ z := q4
    omega
/-- Which frames count, among those of a channel and others'. -/
theorem cnt_chan {c : Int} {L : List Int} {fs A : List Fr} (h : Chan c L fs) (hsub : ∀ f ∈ A, f.ch ≠ c ∨ f ∈ fs) {i : Nat} {f : Fr} (hf : fs[i]? = some f) (hin : f ∈ A) : cnt c A i = some f := by
  obtain ⟨q1, q2, q3, q4⟩ := h.at' i f hf
  cases hq : cnt c A (i : Int) with
  | none =>
    have := List.find?_eq_none.1 hq f hin
    simp [q1, q2, q4] at this
  | some g =>
    obtain ⟨g1, g2, g3, g4⟩ := cnt_some hq
    rcases hsub g g4 with hne | hg
    · exact absurd g2 hne
    · obtain ⟨j, hj, e⟩ := List.mem_iff_getElem.1 hg
      obtain ⟨r1, r2, r3, r4⟩ := h.at' j g (by rw [← e]; exact List.getElem?_eq_getElem hj)
      have : j = i := by rw [g3] at r2; omega
      subst this
      rw [List.getElem?_eq_getElem hj, e] at hf
      exact hf
theorem jgo_chan {c : Int} {L : List Int} {fs A : List Fr} (h : Chan c L fs) (hsub : ∀ f ∈ A, f.ch ≠ c ∨ f ∈ fs) (hsup : ∀ f ∈ fs, f ∈ A) : ∀ (k i : Nat), i < fs.length → fs.length ≤ k + i → jgo c A k i = some ((fs.drop i).map (·.bs)).flatten
  | 0, i, hi, hk => by omega
  | k + 1, i, hi, hk => by
    have hf := List.getElem?_eq_getElem hi
    obtain ⟨q1, q2, q3, q4⟩ := h.at' i _ hf
    rw [jgo, cnt_chan h hsub hf (hsup _ (List.getElem_mem hi))]
    rw [List.drop_eq_getElem_cons hi]
    simp only [List.map_cons, List.flatten_cons]
    by_cases hl : i + 1 = fs.length
    · rw [if_pos (by rw [q3]; simpa using hl), List.drop_of_length_le (by omega)]
      simp
    · rw [if_neg (by rw [q3]; simpa using hl)]
      have := jgo_chan h hsub hsup k (i + 1) (by omega) (by omega)
      rw [show ((i : Int) + 1) = ((i + 1 : Nat) : Int) by omega, this]
      rfl
theorem jn_chan {c : Int} {L : List Int} {fs A : List Fr} (h : Chan c L fs) (hl : fs.length ≤ 1024) (hsub : ∀ f ∈ A, f.ch ≠ c ∨ f ∈ fs) (hsup : ∀ f ∈ fs, f ∈ A) : jn c A = some L := by
  have h0 : 0 < fs.length := List.length_pos_iff.2 h.ne
  have := jgo_chan h hsub hsup 1024 0 h0 (by omega)
  rw [List.drop_zero, h.all] at this
  exact this
/-- Without one of them. -/
theorem jgo_lack {c : Int} {L : List Int} {fs A : List Fr} {out : Nat} (h : Chan c L fs) (hout : out < fs.length) (hsub : ∀ f ∈ A, f.ch ≠ c ∨ f ∈ fs) (hsup : ∀ f ∈ fs, f.seq ≠ out → f ∈ A) (hno : ∀ f ∈ A, f.ch ≠ c ∨ f.seq ≠ out) : ∀ (k i : Nat), i ≤ out → jgo c A k i = none
  | 0, i, hi => rfl
  | k + 1, i, hi => by
    rw [jgo]
    by_cases e : i = out
    · subst e
      have : cnt c A (i : Int) = none := by
        cases hq : cnt c A (i : Int) with
        | none => rfl
        | some g =>
          obtain ⟨g1, g2, g3, g4⟩ := cnt_some hq
          rcases hno g g4 with h1 | h1
          · exact absurd g2 h1
          · exact absurd g3 h1
      rw [this]
    · have hi' : i < fs.length := by omega
      have hf := List.getElem?_eq_getElem hi'
      obtain ⟨q1, q2, q3, q4⟩ := h.at' i _ hf
      rw [cnt_chan h hsub hf (hsup _ (List.getElem_mem hi') (by rw [q2]; omega))]
      simp only
      rw [if_neg (by rw [q3]; simp; omega), show ((i : Int) + 1) = ((i + 1 : Nat) : Int) by omega, jgo_lack h hout hsub hsup hno k (i + 1) (by omega)]
      rfl
theorem jn_lack {c : Int} {L : List Int} {fs A : List Fr} {out : Nat} (h : Chan c L fs) (hout : out < fs.length) (hsub : ∀ f ∈ A, f.ch ≠ c ∨ f ∈ fs) (hsup : ∀ f ∈ fs, f.seq ≠ out → f ∈ A) (hno : ∀ f ∈ A, f.ch ≠ c ∨ f.seq ≠ out) : jn c A = none :=
  jgo_lack h hout hsub hsup hno 1024 0 (by omega)
/-- Two places exchanged. -/
theorem mem_swap {A : List Fr} {a b : Nat} {fa fb : Fr} (ha : A[a]? = some fa) (hb : A[b]? = some fb) (f : Fr) : f ∈ (A.set a fb).set b fa ↔ f ∈ A := by
  have hal := (List.getElem?_eq_some_iff.1 ha).1
  have hbl := (List.getElem?_eq_some_iff.1 hb).1
  have key : ∀ i, ((A.set a fb).set b fa)[i]? = A[if i = b then a else if i = a then b else i]? := by
    intro i
    by_cases h1 : i = b
    · subst h1; simp [hbl, ha]
    · rw [List.getElem?_set_ne (Ne.symm h1), if_neg h1]
      by_cases h2 : i = a
      · subst h2; simp [hal, hb]
      · rw [List.getElem?_set_ne (Ne.symm h2), if_neg h2]
  constructor
  · intro hf
    obtain ⟨i, hi, rfl⟩ := List.mem_iff_getElem.1 hf
    have := key i
    rw [List.getElem?_eq_getElem hi] at this
    exact List.mem_of_getElem? this.symm
  · intro hf
    obtain ⟨i, hi, rfl⟩ := List.mem_iff_getElem.1 hf
    have := key (if i = b then a else if i = a then b else i)
    have e : (if (if i = b then a else if i = a then b else i) = b then a else if (if i = b then a else if i = a then b else i) = a then b else (if i = b then a else if i = a then b else i)) = i := by
      by_cases h1 : i = b
      · subst h1
        by_cases h2 : a = i
        · simp [h2]
        · simp [h2]
      · by_cases h2 : i = a
        · subst h2; simp [h1]
        · simp [h1, h2]
    rw [e, List.getElem?_eq_getElem hi] at this
    exact List.mem_of_getElem? this
end Go.Proofs.Ytbjlmekafnpllab
