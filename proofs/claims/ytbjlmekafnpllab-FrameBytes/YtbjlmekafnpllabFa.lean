/- Layer frame: frames as plain data, which of them count, and what they come to. -/
import Derived.Test.YtbjlmekafnpllabRc
namespace Go.Proofs.Ytbjlmekafnpllab
open Go.RowKit
set_option linter.unusedVariables false
set_option linter.unusedSimpArgs false

/-- A frame: its four parts, and the bytes of its Body. -/
structure Fr where
  ch : Int
  seq : Int
  last : Bool
  sp : Option Addr
  n : Nat
  cap : Nat
  bs : List Int
/-- .. as a value. -/
def Fr.val (f : Fr) : Value := .agg #[.int .u64 f.ch, .int .i64 f.seq, .bool f.last, .slice f.sp f.n f.cap]
/-- Whether it may be. -/
def Fr.may (f : Fr) : Bool := decide (0 ≤ f.seq) && decide (f.seq < 1024) && decide (f.n ≤ 4096)
/-- The one that counts for a channel and a number. -/
def cnt (c : Int) (l : List Fr) (s : Int) : Option Fr := l.find? fun f => f.may && f.ch == c && f.seq == s
theorem cnt_nil (c s : Int) : cnt c [] s = none := rfl
theorem cnt_snoc (c : Int) (l : List Fr) (f : Fr) (s : Int) : cnt c (l ++ [f]) s = (cnt c l s).or (if f.may && f.ch == c && f.seq == s then some f else none) := by
  unfold cnt
  rw [List.find?_append]
  congr 1
  simp only [List.find?_cons, List.find?_nil]
  split <;> simp_all
theorem cnt_some {c : Int} {l : List Fr} {s : Int} {f : Fr} (h : cnt c l s = some f) : f.may = true ∧ f.ch = c ∧ f.seq = s ∧ f ∈ l := by
  have h1 := List.find?_some h
  simp only [Bool.and_eq_true, beq_iff_eq] at h1
  exact ⟨h1.1.1, h1.1.2, h1.2, List.mem_of_find?_eq_some h⟩
/-- Whether a frame counts behind others. -/
def keeps (c : Int) (l : List Fr) (f : Fr) : Bool := f.ch == c && f.may && (cnt c l f.seq).isNone
theorem cnt_kept {c : Int} {l : List Fr} {f : Fr} (h : keeps c l f = true) (s : Int) : cnt c (l ++ [f]) s = if s = f.seq then some f else cnt c l s := by
  simp only [keeps, Bool.and_eq_true, beq_iff_eq, Option.isNone_iff_eq_none] at h
  rw [cnt_snoc]
  by_cases e : s = f.seq
  · subst e; simp [h]
  · rw [if_neg e, if_neg (by simp [Ne.symm e])]; simp
theorem cnt_left {c : Int} {l : List Fr} {f : Fr} (h : keeps c l f = false) (s : Int) : cnt c (l ++ [f]) s = cnt c l s := by
  rw [cnt_snoc]
  cases hq : cnt c l s with
  | some g => rfl
  | none =>
    simp only [Option.none_or]
    rw [if_neg]
    intro h2
    simp only [Bool.and_eq_true, beq_iff_eq] at h2
    obtain ⟨⟨h3, h4⟩, h5⟩ := h2
    subst h5
    simp [keeps, h3, h4, hq] at h
/-- Where a channel ends, as far as it has come. -/
structure Endd (c : Int) (l : List Fr) (E : Int) : Prop where
  ge : 0 ≤ E
  le : E ≤ 1024
  min : ∀ s f, cnt c l s = some f → f.last = true → E ≤ s
  hit : E = 1024 ∨ ∃ f, cnt c l E = some f ∧ f.last = true
theorem Endd.nil (c : Int) : Endd c [] 1024 := ⟨by omega, by omega, fun s f h => by simp [cnt] at h, .inl rfl⟩
theorem Fr.may_iff (f : Fr) : f.may = true ↔ 0 ≤ f.seq ∧ f.seq < 1024 ∧ f.n ≤ 4096 := by simp [Fr.may, and_assoc]
theorem Endd.left {c : Int} {l : List Fr} {f : Fr} {E : Int} (h : Endd c l E) (hk : keeps c l f = false) : Endd c (l ++ [f]) E := by
  refine ⟨h.ge, h.le, fun s g hg => ?_, ?_⟩
  · rw [cnt_left hk] at hg; exact h.min s g hg
  · rw [cnt_left hk]; exact h.hit
theorem Endd.kept {c : Int} {l : List Fr} {f : Fr} {E : Int} (h : Endd c l E) (hk : keeps c l f = true) (hl : f.last = false) : Endd c (l ++ [f]) E := by
  refine ⟨h.ge, h.le, fun s g hg hgl => ?_, ?_⟩
  · rw [cnt_kept hk] at hg
    split at hg
    · cases hg; rw [hl] at hgl; cases hgl
    · exact h.min s g hg hgl
  · rcases h.hit with e | ⟨g, hg, hgl⟩
    · exact .inl e
    · refine .inr ⟨g, ?_, hgl⟩
      rw [cnt_kept hk, if_neg, hg]
      intro e
      simp only [keeps, Bool.and_eq_true, Option.isNone_iff_eq_none] at hk
      rw [← e, hg] at hk
      cases hk.2
theorem Endd.last {c : Int} {l : List Fr} {f : Fr} {E : Int} (h : Endd c l E) (hk : keeps c l f = true) (hl : f.last = true) : Endd c (l ++ [f]) (if E ≤ f.seq then E else f.seq) := by
  have hm : f.may = true := by simp only [keeps, Bool.and_eq_true] at hk; exact hk.1.2
  rw [Fr.may_iff] at hm
  have hno : cnt c l f.seq = none := by simp only [keeps, Bool.and_eq_true, Option.isNone_iff_eq_none] at hk; exact hk.2
  have h1 := h.ge
  have h2 := h.le
  refine ⟨by split <;> omega, by split <;> omega, fun s g hg hgl => ?_, ?_⟩
  · rw [cnt_kept hk] at hg
    split at hg
    · cases hg; split <;> omega
    · have := h.min s g hg hgl; split <;> omega
  · split
    · rcases h.hit with e | ⟨g, hg, hgl⟩
      · omega
      · refine .inr ⟨g, ?_, hgl⟩
        rw [cnt_kept hk, if_neg, hg]
        intro e
        rw [← e, hg] at hno; cases hno
    · exact .inr ⟨f, by rw [cnt_kept hk, if_pos rfl], hl⟩

/-- What the frames from a number on come to: so many steps at most. -/
def jgo (c : Int) (l : List Fr) : Nat → Int → Option (List Int)
  | 0, _ => none
  | k + 1, s => match cnt c l s with
    | none => none
    | some f => if f.last then some f.bs else (jgo c l k (s + 1)).map (f.bs ++ ·)
/-- What the frames of a channel come to. -/
def jn (c : Int) (l : List Fr) : Option (List Int) := jgo c l 1024 0
/-- The bodies from s to E, all being there. -/
def bod (c : Int) (l : List Fr) : Nat → Int → Option (List Int)
  | 0, _ => some []
  | k + 1, s => match cnt c l s with
    | none => none
    | some f => (bod c l k (s + 1)).map (f.bs ++ ·)
theorem bod_jgo {c : Int} {l : List Fr} {E : Int} (h : Endd c l E) : ∀ (k : Nat) (s : Int), (k : Int) + s = 1024 → 0 ≤ s → s ≤ E → bod c l (E + 1 - s).toNat s = jgo c l k s
  | 0, s, hk, h0, hs => by
    have := h.le
    obtain rfl : s = 1024 := by omega
    obtain rfl : E = 1024 := by omega
    have e : ((1024 : Int) + 1 - 1024).toNat = 0 + 1 := rfl
    rw [e, bod]
    cases hq : cnt c l 1024 with
    | none => rfl
    | some f =>
      have := cnt_some hq
      have h1 := (Fr.may_iff f).1 this.1
      omega
  | k + 1, s, hk, h0, hs => by
    obtain ⟨q, hq⟩ : ∃ q, (E + 1 - s).toNat = q + 1 := ⟨(E - s).toNat, by omega⟩
    rw [hq, bod, jgo]
    cases hc : cnt c l s with
    | none => rfl
    | some f =>
      simp only
      cases hl : f.last with
      | true =>
        have := h.min s f hc hl
        obtain rfl : q = 0 := by omega
        simp [bod]
      | false =>
        simp only [Bool.false_eq_true, if_false]
        have hne : s ≠ E := by
          rintro rfl
          rcases h.hit with e | ⟨g, hg, hgl⟩
          · have := cnt_some hc
            have h1 := (Fr.may_iff f).1 this.1
            omega
          · rw [hc] at hg; cases hg; rw [hl] at hgl; cases hgl
        rw [← bod_jgo h k (s + 1) (by omega) (by omega) (by omega), show (E + 1 - (s + 1)).toNat = q by omega]
theorem bod_jn {c : Int} {l : List Fr} {E : Int} (h : Endd c l E) : bod c l (E + 1).toNat 0 = jn c l := by
  have := bod_jgo h 1024 0 (by omega) (by omega) h.ge
  rwa [Int.sub_zero] at this
end Go.Proofs.Ytbjlmekafnpllab
