/- Layer rlp: an item of the call's own is written over. -/
import Derived.Test.YtbjlmekafnpllabVa
namespace Go.Proofs.Ytbjlmekafnpllab
open Go.RowKit
set_option linter.unusedVariables false
set_option linter.unusedSimpArgs false

/-- Bytes that may be written over. -/
def TB (S : Nat → Prop) (w : World) (sp : Option Addr) (n cap : Nat) : Prop :=
  (sp = none ∧ n = 0 ∧ cap = 0) ∨ ∃ g C, sp = some ⟨g, 0, none⟩ ∧ S g ∧ Arr w g 5 C ∧ C.size = cap ∧ n ≤ cap ∧ cap ≤ maxLen ∧ n ≤ 1000000
/-- An item that may be written over, of so many lists in lists at most. -/
def Tm (S : Nat → Prop) (w : World) : Nat → Value → Prop
  | 0, v => ∃ l sp n cap, v = .agg #[.bool l, .slice sp n cap, .slice none 0 0] ∧ TB S w sp n cap
  | d + 1, v => ∃ l sp n cap sq k cq, v = .agg #[.bool l, .slice sp n cap, .slice sq k cq] ∧ TB S w sp n cap ∧ ((sq = none ∧ k = 0 ∧ cq = 0) ∨
      ∃ g C, sq = some ⟨g, 0, none⟩ ∧ S g ∧ Arr w g 59 C ∧ C.size = 3 * cq ∧ k ≤ cq ∧ k ≤ 1000000 ∧ ∀ i, i < k → ∃ a b c, C[3 * i]? = some a ∧ C[3 * i + 1]? = some b ∧ C[3 * i + 2]? = some c ∧ Tm S w d (.agg #[a, b, c]))
/-- Rows stay rows; an item of a row stays, or is none at all. -/
def Pr (S : Nat → Prop) (w w' : World) : Prop :=
  (∀ g C, S g → Arr w g 5 C → ∃ C', Arr w' g 5 C' ∧ C'.size = C.size) ∧
  ∀ g C, S g → Arr w g 59 C → ∃ C', Arr w' g 59 C' ∧ C'.size = C.size ∧ ∀ i, (C'[3 * i]? = C[3 * i]? ∧ C'[3 * i + 1]? = C[3 * i + 1]? ∧ C'[3 * i + 2]? = C[3 * i + 2]?) ∨
    (C'[3 * i]? = some (.bool false) ∧ C'[3 * i + 1]? = some (.slice none 0 0) ∧ C'[3 * i + 2]? = some (.slice none 0 0))
theorem Pr.refl (S : Nat → Prop) (w : World) : Pr S w w := ⟨fun g C _ h => ⟨C, h, rfl⟩, fun g C _ h => ⟨C, h, rfl, fun i => .inl ⟨rfl, rfl, rfl⟩⟩⟩
theorem Pr.trans {S : Nat → Prop} {a b c : World} (h : Pr S a b) (k : Pr S b c) : Pr S a c := by
  refine ⟨fun g C hs hA => ?_, fun g C hs hA => ?_⟩
  · obtain ⟨C1, h1, e1⟩ := h.1 g C hs hA
    obtain ⟨C2, h2, e2⟩ := k.1 g C1 hs h1
    exact ⟨C2, h2, e2.trans e1⟩
  · obtain ⟨C1, h1, e1, f1⟩ := h.2 g C hs hA
    obtain ⟨C2, h2, e2, f2⟩ := k.2 g C1 hs h1
    refine ⟨C2, h2, e2.trans e1, fun i => ?_⟩
    rcases f2 i with ⟨x, y, z⟩ | z
    · rcases f1 i with ⟨x', y', z'⟩ | ⟨x', y', z'⟩
      · exact .inl ⟨x.trans x', y.trans y', z.trans z'⟩
      · exact .inr ⟨x.trans x', y.trans y', z.trans z'⟩
    · exact .inr z
theorem Pr.of_below {S : Nat → Prop} {a b : World} (h : Below a.heap.size a b) : Pr S a b :=
  ⟨fun g C _ hA => ⟨C, hA.below h hA.lt, rfl⟩, fun g C _ hA => ⟨C, hA.below h hA.lt, rfl, fun i => .inl ⟨rfl, rfl, rfl⟩⟩⟩
theorem Arr.chg {S : Nat → Prop} {a b : World} {g ty : Nat} {C : Array Value} (hA : Arr a g ty C) (h : Chg S a b) (hg : ¬ S g) : Arr b g ty C := (h.block g hA.lt hg).trans hA
/-- The bytes of one block are written over. -/
theorem Pr.bytes {S : Nat → Prop} {a b : World} {g0 : Nat} {C0 : Array Value} (h : Chg (· = g0) a b) (hA0 : Arr a g0 5 C0) (hB : ∃ C, Arr b g0 5 C ∧ C.size = C0.size) : Pr S a b := by
  refine ⟨fun g C hs hA => ?_, fun g C hs hA => ?_⟩
  · by_cases e : g = g0
    · subst e
      obtain ⟨C1, h1, e1⟩ := hB
      have e2 : C0 = C := by have := hA0.symm.trans hA; cases this; rfl
      exact ⟨C1, h1, by rw [e1, e2]⟩
    · exact ⟨C, hA.chg h e, rfl⟩
  · by_cases e : g = g0
    · subst e
      have := hA0.symm.trans hA
      cases this
    · exact ⟨C, hA.chg h e, rfl, fun i => .inl ⟨rfl, rfl, rfl⟩⟩
theorem Tm.zero (S : Nat → Prop) (w : World) (d : Nat) : Tm S w d (.agg #[.bool false, .slice none 0 0, .slice none 0 0]) := by
  cases d with
  | zero => exact ⟨false, none, 0, 0, rfl, .inl ⟨rfl, rfl, rfl⟩⟩
  | succ d => exact ⟨false, none, 0, 0, none, 0, 0, rfl, .inl ⟨rfl, rfl, rfl⟩, .inl ⟨rfl, rfl, rfl⟩⟩
theorem TB.pr {S : Nat → Prop} {w w' : World} {sp : Option Addr} {n cap : Nat} (h : TB S w sp n cap) (hp : Pr S w w') : TB S w' sp n cap := by
  rcases h with h | ⟨g, C, e, hs, hA, hC, rest⟩
  · exact .inl h
  · obtain ⟨C', hA', hC'⟩ := hp.1 g C hs hA
    exact .inr ⟨g, C', e, hs, hA', hC'.trans hC, rest⟩
theorem Tm.pr {S : Nat → Prop} {w w' : World} (hp : Pr S w w') : ∀ {d : Nat} {v : Value}, Tm S w d v → Tm S w' d v
  | 0, v, h => by
    obtain ⟨l, sp, n, cap, e, hb⟩ := h
    exact ⟨l, sp, n, cap, e, hb.pr hp⟩
  | d + 1, v, h => by
    obtain ⟨l, sp, n, cap, sq, k, cq, e, hb, hl⟩ := h
    refine ⟨l, sp, n, cap, sq, k, cq, e, hb.pr hp, ?_⟩
    rcases hl with hl | ⟨g, C, e1, hs, hA, hC, hk, hk6, hi⟩
    · exact .inl hl
    · obtain ⟨C', hA', hC', hz⟩ := hp.2 g C hs hA
      refine .inr ⟨g, C', e1, hs, hA', hC'.trans hC, hk, hk6, fun i hik => ?_⟩
      obtain ⟨a, b, c, h1, h2, h3, hT⟩ := hi i hik
      rcases hz i with ⟨x, y, z⟩ | ⟨x, y, z⟩
      · exact ⟨a, b, c, x.trans h1, y.trans h2, z.trans h3, hT.pr hp⟩
      · exact ⟨_, _, _, x, y, z, Tm.zero S w' d⟩
theorem Tm.mono {S T : Nat → Prop} {w : World} (hST : ∀ b, S b → T b) : ∀ {d : Nat} {v : Value}, Tm S w d v → Tm T w d v
  | 0, v, h => by
    obtain ⟨l, sp, n, cap, e, hb⟩ := h
    refine ⟨l, sp, n, cap, e, ?_⟩
    rcases hb with h | ⟨g, C, e, hs, rest⟩
    · exact .inl h
    · exact .inr ⟨g, C, e, hST g hs, rest⟩
  | d + 1, v, h => by
    obtain ⟨l, sp, n, cap, sq, k, cq, e, hb, hl⟩ := h
    refine ⟨l, sp, n, cap, sq, k, cq, e, ?_, ?_⟩
    · rcases hb with h | ⟨g, C, e, hs, rest⟩
      · exact .inl h
      · exact .inr ⟨g, C, e, hST g hs, rest⟩
    · rcases hl with hl | ⟨g, C, e1, hs, hA, hC, hk, hk6, hi⟩
      · exact .inl hl
      · refine .inr ⟨g, C, e1, hST g hs, hA, hC, hk, hk6, fun i hik => ?_⟩
        obtain ⟨a, b, c, h1, h2, h3, hT⟩ := hi i hik
        exact ⟨a, b, c, h1, h2, h3, hT.mono hST⟩

/-- Spoil, of whatever bytes that may be written over. -/
theorem spoil_tb (S : Nat → Prop) (sp : Option Addr) (n cap : Nat) (x : Int) (w : World) (h : TB S w sp n cap) (hx : 0 ≤ x ∧ x ≤ 255) :
    Calls Try.prog 22 #[.slice sp n cap, .int .u8 x] w fun e w' => e = .returned (.tuple #[]) ∧ Chg S w w' ∧ Pr S w w' := by
  rcases h with ⟨rfl, rfl, rfl⟩ | ⟨g, C, rfl, hs, hA, hC, hn, hc, h6⟩
  · refine (spoil_nil x w hx).mono ?_
    rintro e w' ⟨he, hb⟩
    exact ⟨he, Chg.of_below hb, Pr.of_below hb⟩
  · refine (spoil_some g n cap x C w hA hC hn hc h6 hx).mono ?_
    rintro e w' ⟨he, hch, C', hA', hC'⟩
    exact ⟨he, hch.mono fun i _ e => e ▸ hs, Pr.bytes hch hA ⟨C', hA', hC'.trans hC.symm⟩⟩

theorem lt_of_some {C : Array Value} {i : Nat} {v : Value} (h : C[i]? = some v) : i < C.size := (Array.getElem?_eq_some_iff.1 h).1
/-- One item of a row is made none at all. -/
theorem Pr.item {S : Nat → Prop} {a : World} {g0 j : Nat} {C0 : Array Value} (hA0 : Arr a g0 59 C0) (hj : 3 * j + 2 < C0.size) :
    Pr S a (((a.setCell ⟨g0, j * 3, none⟩ (.bool false)).setCell ⟨g0, j * 3 + 1, none⟩ (.slice none 0 0)).setCell ⟨g0, j * 3 + 2, none⟩ (.slice none 0 0)) := by
  rw [Nat.mul_comm j 3]
  refine ⟨fun g C hs hA => ?_, fun g C hs hA => ?_⟩
  · have e : g ≠ g0 := fun e => by subst e; have := hA0.symm.trans hA; cases this
    exact ⟨C, ((hA.setOther _ e).setOther _ e).setOther _ e, rfl⟩
  · by_cases e : g = g0
    · subst e
      have e2 : C0 = C := by have := hA0.symm.trans hA; cases this; rfl
      subst e2
      refine ⟨_, ((hA0.set _ _).set _ _).set _ _, by simp, fun i => ?_⟩
      by_cases ei : i = j
      · subst ei
        right
        refine ⟨?_, ?_, ?_⟩
        · rw [Array.getElem?_setIfInBounds_ne (by omega), Array.getElem?_setIfInBounds_ne (by omega), Array.getElem?_setIfInBounds_self_of_lt (by omega)]
        · rw [Array.getElem?_setIfInBounds_ne (by omega), Array.getElem?_setIfInBounds_self_of_lt (by simp; omega)]
        · rw [Array.getElem?_setIfInBounds_self_of_lt (by simp; omega)]
      · left
        refine ⟨?_, ?_, ?_⟩ <;> rw [Array.getElem?_setIfInBounds_ne (by omega), Array.getElem?_setIfInBounds_ne (by omega), Array.getElem?_setIfInBounds_ne (by omega)]
    · exact ⟨C, ((hA.setOther _ e).setOther _ e).setOther _ e, rfl, fun i => .inl ⟨rfl, rfl, rfl⟩⟩

/-- What a round knows of the item that it comes to. -/
theorem Tm.at {S : Nat → Prop} {w : World} {d : Nat} {l : Bool} {sp : Option Addr} {n cap g k cq j : Nat} (h : Tm S w (d + 1) (.agg #[.bool l, .slice sp n cap, .slice (some ⟨g, 0, none⟩) k cq])) (hj : j < k) :
    S g ∧ ∃ C a b c, Arr w g 59 C ∧ 3 * j + 2 < C.size ∧ w.cell? ⟨g, 3 * j, none⟩ = some a ∧ w.cell? ⟨g, 3 * j + 1, none⟩ = some b ∧ w.cell? ⟨g, 3 * j + 2, none⟩ = some c ∧ Tm S w d (.agg #[a, b, c]) := by
  obtain ⟨l', sp', n', cap', sq, k', cq', e, hb, hl⟩ := h
  cases e
  rcases hl with ⟨hl, -⟩ | ⟨g', C, e1, hs, hA, hC, hk, hk6, hi⟩
  · cases hl
  · cases e1
    obtain ⟨a, b, c, h1, h2, h3, hT⟩ := hi j hj
    exact ⟨hs, C, a, b, c, hA, lt_of_some h3, by rw [hA.cell]; exact h1, by rw [hA.cell]; exact h2, by rw [hA.cell]; exact h3, hT⟩
theorem Tm.shape {S : Nat → Prop} {w : World} {d : Nat} {v : Value} (h : Tm S w d v) : ∃ l sp n cap sq k cq, v = .agg #[.bool l, .slice sp n cap, .slice sq k cq] := by
  cases d with
  | zero => obtain ⟨l, sp, n, cap, e, -⟩ := h; exact ⟨_, _, _, _, _, _, _, e⟩
  | succ d => obtain ⟨l, sp, n, cap, sq, k, cq, e, -⟩ := h; exact ⟨_, _, _, _, _, _, _, e⟩

theorem row_get {C : Array Value} {n : Nat} {xs : List Value} {i : Nat} {v : Value} (h : C.toList.take n = xs) (hi : xs[i]? = some v) : C[i]? = some v := by
  subst h
  rw [List.getElem?_take] at hi
  split at hi
  · rw [← Array.getElem?_toList]; exact hi
  · cases hi
theorem BSs.tb {S : Nat → Prop} {w : World} {sp : Option Addr} {n cap : Nat} {L : List Int} (h : BSs S w sp n cap L) (hn : n ≤ 1000000) : TB S w sp n cap := by
  obtain ⟨-, ⟨-, h | ⟨g, c, cur, e, -, hh, hnc, hm, hc, -⟩⟩, hS⟩ := h
  · obtain ⟨e, rfl⟩ := h
    cases e
    exact .inl ⟨rfl, rfl, rfl⟩
  · cases e
    exact .inr ⟨g, cur, rfl, hS g 0 rfl, hh, by omega, hnc, hm, hn⟩
theorem flat_len {Fs : List (List Int)} (h : ∀ F ∈ Fs, 0 < F.length) : Fs.length ≤ Fs.flatten.length := by
  induction Fs with
  | nil => simp
  | cons F Fs ih =>
    have h1 := h F (by simp)
    have h2 := ih fun G hG => h G (by simp [hG])
    simp only [List.flatten_cons, List.length_append, List.length_cons]; omega
theorem wrapL (bs : List Int) (b : Bool) : bs.length ≤ (wrap b bs).length := (wrap_len b bs).1
theorem mem_flat_len {Fs : List (List Int)} {F : List Int} (h : F ∈ Fs) : F.length ≤ Fs.flatten.length := by
  induction Fs with
  | nil => simp at h
  | cons G Gs ih =>
    simp only [List.flatten_cons, List.length_append]
    rcases List.mem_cons.1 h with rfl | h
    · omega
    · have := ih h; omega
theorem Dec.pos {S : Nat → Prop} {w : World} {d : Nat} {v : Value} {F : List Int} (h : Dec S w d v F) : 0 < F.length := by
  cases d with
  | zero => obtain ⟨sp, n, cap, bs, -, -, rfl⟩ := h; exact wrap_pos _ _
  | succ d =>
    rcases h with ⟨sp, n, cap, bs, -, -, rfl⟩ | ⟨sq, k, cq, vs, Fs, -, -, -, -, rfl⟩ <;> exact wrap_pos _ _
/-- What was read may be written over. -/
theorem Dec.tm {S : Nat → Prop} {w : World} : ∀ {d : Nat} {v : Value} {F : List Int}, Dec S w d v F → F.length ≤ 1000000 → Tm S w d v
  | 0, v, F, h, hF => by
    obtain ⟨sp, n, cap, bs, e, hb, rfl⟩ := h
    have h1 := wrapL bs false
    exact ⟨false, sp, n, cap, e, hb.tb (by rw [hb.1.len.out]; omega)⟩
  | d + 1, v, F, h, hF => by
    rcases h with ⟨sp, n, cap, bs, e, hb, rfl⟩ | ⟨sq, k, cq, vs, Fs, e, hi, hl, hd, rfl⟩
    · have h1 := wrapL bs false
      exact ⟨false, sp, n, cap, none, 0, 0, e, hb.tb (by rw [hb.1.len.out]; omega), .inl ⟨rfl, rfl, rfl⟩⟩
    · have h1 := wrapL Fs.flatten true
      have hk := hi.1.len.out
      refine ⟨true, none, 0, 0, sq, k, cq, e, .inl ⟨rfl, rfl, rfl⟩, ?_⟩
      obtain ⟨hIS, ⟨hl2, h | ⟨g, c, cur, e2, -, hh, hnc, hm, hc, ht⟩⟩, hS⟩ := hi
      · obtain ⟨e2, rfl⟩ := h
        cases e2
        exact .inl ⟨rfl, rfl, rfl⟩
      · cases e2
        have hpos : ∀ F ∈ Fs, 0 < F.length := fun F hF => by
          obtain ⟨i, hi, rfl⟩ := List.mem_iff_getElem.1 hF
          exact (hd i vs[i] Fs[i] (List.getElem?_eq_getElem (by omega)) (List.getElem?_eq_getElem hi)).pos
        have h2 := flat_len hpos
        refine .inr ⟨g, cur, rfl, hS g 0 rfl, hh, by omega, hnc, by omega, fun i hik => ?_⟩
        obtain ⟨g', off, e3, -, hcells⟩ := hIS.at0 (by omega)
        cases e3
        have hiv : i < vs.length := by omega
        have hiF : i < Fs.length := by omega
        obtain ⟨a, b, c', e4, q0, q1, q2⟩ := hcells i vs[i] (List.getElem?_eq_getElem hiv)
        have hA : Arr w g 59 cur := hh
        rw [Nat.zero_add, hA.cell] at q0 q1 q2
        refine ⟨a, b, c', q0, q1, q2, ?_⟩
        rw [← e4]
        have h3 := mem_flat_len (List.getElem_mem hiF)
        exact (hd i vs[i] Fs[i] (List.getElem?_eq_getElem hiv) (List.getElem?_eq_getElem hiF)).tm (by omega)
end Go.Proofs.Ytbjlmekafnpllab
