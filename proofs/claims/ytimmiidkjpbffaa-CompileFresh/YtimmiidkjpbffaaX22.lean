/- Kv, Kw, Ku, Ie1. -/
import Derived.Test.YtimmiidkjpbffaaX10
import Derived.Test.YtimmiidkjpbffaaX21
import Derived.Test.YtimmiidkjpbffaaX17
import Derived.Test.YtimmiidkjpbffaaX01
import Derived.Test.YtimmiidkjpbffaaX02
import Derived.Test.YtimmiidkjpbffaaX03
import Derived.Test.YtimmiidkjpbffaaX09
import Derived.BigQuiet
import Derived.BigRegion
import Derived.ChangeKeysEq
import Derived.Deep.DeepCutAuto
import Derived.Deep.DrawnRows
import Derived.Deep.MidRow
import Derived.Deep.QuietTactic
import Derived.Deep.RegionHeld3
import Derived.Deep.RegionLaw
import Derived.Deep.RegionWith
import Derived.Deep.WholeRow
import Derived.DeepKeys3
import Derived.Great.BuildSlice
import Derived.Handy
import Derived.Laws.AppendOwnNone
import Derived.Laws.BitsLemmas
import Derived.Laws.BytesArg
import Derived.Laws.CopyOwn
import Derived.Laws.ResultCell
import Derived.Laws.Tables
import Derived.Lib.SlBytesConst
import Derived.LoopIn
import Derived.LoopNIn
import Derived.LoopTactic
import Derived.Maps.AppendAt
import Derived.OwnWalkIn
import Derived.RangeFuncBound
import Derived.RangeFuncCalls
import Derived.RangeFuncLeaves
import Derived.RangeFuncNested
import Derived.RangeFuncRecord
import Derived.Shelf.Abstract
import Derived.Shelf.RegionOpen
import Derived.SizedLaws
import Derived.TacticsInMore
import Derived.WalkKit
import Derived.WalkLawsBesides
import Derived.WalkSpells
/- Layer compile: how long code is, by nodes (pure). -/
namespace Go.Proofs.Ytimmiidkjpbffaa
open Go.RowKit
set_option maxRecDepth 100000
set_option linter.unusedVariables false
set_option linter.unusedSimpArgs false

variable {E : KE} {f lv : Int} {vs : Int}
theorem kX_cost : ∀ (d : Nat) (t : ExT d) (r : Int) (s : KS) (n m : Nat), exN vs d t n = some m → (kX E f d t r s).code.length + 2 * m ≤ s.code.length + 2 * n ∧ m < n
  | 0, _, _, _, _, _, h => by cases h
  | d + 1, t, r, s, n, m, h => by
    unfold exN at h
    split at h
    · cases h
    next hc =>
    have hn : 0 < n := by omega
    have hmy : mayE vs t.nd = true := by
      cases hq : mayE vs t.nd with
      | true => rfl
      | false => exact absurd (.inr hq) hc
    replace h : fld (exN vs d) t.nd.l (n - 1) = some m := h
    rw [kX]
    generalize t.nd = u at *
    obtain ⟨k, x, v, o, l⟩ := u
    unfold kXone
    by_cases h1 : k = 1
    · subst h1
      have hl : l = [] := by simp [mayE] at hmy; exact hmy.1
      subst hl
      have hm : n - 1 = m := Option.some.inj h
      rw [if_pos rfl]
      split
      · simp [KS.put]; omega
      · simp [KS.put]; omega
    rw [if_neg h1]
    by_cases h2 : k = 2
    · subst h2
      have hl : l = [] := by simp [mayE] at hmy; exact hmy.2.1
      subst hl
      have hm : n - 1 = m := Option.some.inj h
      rw [if_pos rfl]
      simp [kVar, kSlot, KS.to]; omega
    rw [if_neg h2]
    by_cases h3 : k = 3
    · subst h3
      have hl : l.length = 2 := by simp [mayE] at hmy; omega
      match l, hl, h with
      | [a, b], _, h =>
        unfold fld at h
        cases ha : exN vs d a (n - 1) with
        | none => rw [ha] at h; cases h
        | some n1 =>
          rw [ha] at h
          replace h : fld (exN vs d) [b] n1 = some m := h
          unfold fld at h
          cases hb : exN vs d b n1 with
          | none => rw [hb] at h; cases h
          | some n2 =>
            rw [hb] at h
            have hm : n2 = m := Option.some.inj h
            have c1 := kX_cost d a r s _ _ ha
            have c2 := kX_cost d b (r + 1) (kX E f d a r s) _ _ hb
            simp only [KS.put, List.length_append, List.length_cons, List.length_nil]
            omega
    · have hl : l.length = 1 := by
        by_cases h4 : k = 4
        · subst h4; simp [mayE] at hmy; omega
        · simp [mayE, h1, h2, h3, h4] at hmy
      match l, hl, h with
      | [a], _, h =>
        unfold fld at h
        cases ha : exN vs d a (n - 1) with
        | none => rw [ha] at h; cases h
        | some n1 =>
          rw [ha] at h
          have hm : n1 = m := Option.some.inj h
          have c1 := kX_cost d a r s _ _ ha
          show (if kIn E d a = true then kData 17 r 0 (kNum d a) s else kData 17 r r 0 (kProbe r (kX E f d a r s))).code.length + 2 * m ≤ _ ∧ _
          split
          · simp only [kData, KS.to, List.length_append, List.length_cons, List.length_nil]; omega
          · simp only [kData, kProbe, KS.to, KS.put, List.length_append, List.length_cons, List.length_nil]; omega
theorem kAdr_cost {d : Nat} {t : ExT d} {r : Int} {s : KS} {n m : Nat} (h : exN vs d t n = some m) : (kAdr E f d t r s).code.length + 2 * m ≤ s.code.length + 2 * n + 2 ∧ m < n := by
  have c := kX_cost (E := E) (f := f) d t r s n m h
  unfold kAdr
  split
  · simp only [kData, KS.to, List.length_append, List.length_cons, List.length_nil]; omega
  · simp only [kRaise, kProbe, KS.put, List.length_append, List.length_cons, List.length_nil]; omega
theorem kArg_cost {g : Int} : ∀ (l : List (ExT 8)) (j : Int) (s : KS) (n m : Nat), fld (exN vs 8) l n = some m → (kArg E f g l j s).code.length + 3 * m ≤ s.code.length + 3 * n ∧ m ≤ n
  | [], j, s, n, m, h => by
    have hm : n = m := Option.some.inj h
    subst hm
    exact ⟨Nat.le_refl _, Nat.le_refl _⟩
  | a :: r, j, s, n, m, h => by
    unfold fld at h
    cases ha : exN vs 8 a n with
    | none => rw [ha] at h; cases h
    | some n1 =>
      rw [ha] at h
      have c1 := kX_cost (E := E) (f := f) 8 a 1 s _ _ ha
      have c2 := kArg_cost (g := g) r (j + 1) (kSlot 18 1 (kHome E g j) (kX E f 8 a 1 s)) _ _ h
      simp only [kSlot, KS.to, List.length_append, List.length_cons, List.length_nil] at c2
      show (kArg E f g r (j + 1) (kSlot 18 1 (kHome E g j) (kX E f 8 a 1 s))).code.length + 3 * m ≤ _ ∧ _
      simp only [kSlot, KS.to]
      omega
theorem fld_cons {α : Type} {F : α → Nat → Option Nat} {a : α} {r : List α} {n m : Nat} (h : fld F (a :: r) n = some m) : ∃ n1, F a n = some n1 ∧ fld F r n1 = some m := by
  unfold fld at h
  cases ha : F a n with
  | none => rw [ha] at h; cases h
  | some n1 => rw [ha] at h; exact ⟨n1, rfl, h⟩
/-- A statement's own cost, and that of its parts. -/
theorem kOne_cost {α : Type} {B : List α → KS → KS} {F : α → Nat → Option Nat} {t : StN α} {ps : List Int} {n n1 n2 m : Nat} (hm : mayS ps vs t = true) (hn : 0 < n) (ha : fld (exN vs 8) t.a (n - 1) = some n1) (ht : fld F t.th n1 = some n2) (he : fld F t.el n2 = some m)
    (hB : ∀ (l : List α) (s : KS) (a b : Nat), fld F l a = some b → (B l s).code.length + 8 * b ≤ s.code.length + 8 * a ∧ (B l s).nx + 8 * b ≤ s.nx + 8 * a ∧ b ≤ a) (s : KS) :
    (kOne E f lv B t s).code.length + 8 * m ≤ s.code.length + 8 * n ∧ (kOne E f lv B t s).nx + 8 * m ≤ s.nx + 8 * n ∧ m < n := by
  have T := fun s => hB t.th s n1 n2 ht
  have L := fun s => hB t.el s n2 m he
  have hn2 := (T s).2.2
  have hm2 := (L s).2.2
  have X := fun (a : ExT 8) (r : Int) (s : KS) (p q : Nat) (h : exN vs 8 a p = some q) => And.intro (kX_cost (E := E) (f := f) 8 a r s p q h) (kX_le E f 8 a r s).2
  have Y := fun (a : ExT 8) (r : Int) (s : KS) (p q : Nat) (h : exN vs 8 a p = some q) => And.intro (kAdr_cost (E := E) (f := f) (r := r) (s := s) h) (kAdr_le E f 8 a r s).2
  obtain ⟨k, v, g, tg, a, th, el⟩ := t
  replace ha : fld (exN vs 8) a (n - 1) = some n1 := ha
  unfold kOne
  by_cases h1 : k = 1
  · subst h1
    have hl : a.length = 1 := by simp [mayS] at hm; omega
    match a, hl, ha with
    | [x], _, ha =>
      obtain ⟨p1, e1, e2⟩ := fld_cons ha
      have := Option.some.inj e2
      have c1 := X x 1 s _ _ e1
      show (kVar E f 18 1 v (kX E f 8 x 1 s)).code.length + 8 * m ≤ _ ∧ (kVar E f 18 1 v (kX E f 8 x 1 s)).nx + 8 * m ≤ _ ∧ _
      simp only [kVar, kSlot, KS.to, List.length_append, List.length_cons, List.length_nil]
      omega
  by_cases h2 : k = 2
  · subst h2
    have hl : a.length = 2 := by simp [mayS] at hm; omega
    match a, hl, ha with
    | [x, y], _, ha =>
      obtain ⟨p1, e1, e2⟩ := fld_cons ha
      obtain ⟨p2, e3, e4⟩ := fld_cons e2
      have := Option.some.inj e4
      have c1 := X x 1 s _ _ e1
      have c2 := X y 2 (kX E f 8 x 1 s) _ _ e3
      have c3 := X y 1 s _ _ e3
      show (if kIn E 8 x = true then kData 18 1 0 (kNum 8 x) (kX E f 8 y 1 s) else kData 18 2 1 0 (kProbe 1 (kX E f 8 y 2 (kX E f 8 x 1 s)))).code.length + 8 * m ≤ _ ∧ (if kIn E 8 x = true then kData 18 1 0 (kNum 8 x) (kX E f 8 y 1 s) else kData 18 2 1 0 (kProbe 1 (kX E f 8 y 2 (kX E f 8 x 1 s)))).nx + 8 * m ≤ _ ∧ _
      split
      · simp only [kData, KS.to, List.length_append, List.length_cons, List.length_nil]; omega
      · simp only [kData, kProbe, KS.to, KS.put, List.length_append, List.length_cons, List.length_nil]; omega
  by_cases h3 : k = 3
  · subst h3
    have hl : a.length = 1 := by simp [mayS] at hm; omega
    match a, hl, ha with
    | [x], _, ha =>
      obtain ⟨p1, e1, e2⟩ := fld_cons ha
      have := Option.some.inj e2
      have c1 := X x 1 s.fresh.fresh _ _ e1
      have c2 := T ((kX E f 8 x 1 s.fresh.fresh).to s.nx ⟨20, 1, 0, 0, 0⟩)
      have c3 := L (((B th ((kX E f 8 x 1 s.fresh.fresh).to s.nx ⟨20, 1, 0, 0, 0⟩)).to (s.nx + 1) ⟨19, 0, 0, 0, 0⟩).here s.nx)
      show ((B el (((B th ((kX E f 8 x 1 s.fresh.fresh).to s.nx ⟨20, 1, 0, 0, 0⟩)).to (s.nx + 1) ⟨19, 0, 0, 0, 0⟩).here s.nx)).here (s.nx + 1)).code.length + 8 * m ≤ _ ∧ ((B el (((B th ((kX E f 8 x 1 s.fresh.fresh).to s.nx ⟨20, 1, 0, 0, 0⟩)).to (s.nx + 1) ⟨19, 0, 0, 0, 0⟩).here s.nx)).here (s.nx + 1)).nx + 8 * m ≤ _ ∧ _
      simp only [KS.to, KS.here, KS.fresh, List.length_append, List.length_cons, List.length_nil] at c1 c2 c3 ⊢
      omega
  by_cases h4 : k = 4
  · subst h4
    have hl : a.length = 1 ∧ el = [] := by simp [mayS] at hm; exact ⟨by omega, hm.2.2.2.2⟩
    obtain ⟨hl, rfl⟩ := hl
    have hel : n2 = m := Option.some.inj he
    match a, hl, ha with
    | [x], _, ha =>
      obtain ⟨p1, e1, e2⟩ := fld_cons ha
      have := Option.some.inj e2
      have c1 := X x 1 (s.fresh.fresh.here s.nx) _ _ e1
      have c2 := T ((kX E f 8 x 1 (s.fresh.fresh.here s.nx)).to (s.nx + 1) ⟨20, 1, 0, 0, 0⟩)
      show (((B th ((kX E f 8 x 1 (s.fresh.fresh.here s.nx)).to (s.nx + 1) ⟨20, 1, 0, 0, 0⟩)).to s.nx ⟨19, 0, 0, 0, 0⟩).here (s.nx + 1)).code.length + 8 * m ≤ _ ∧ (((B th ((kX E f 8 x 1 (s.fresh.fresh.here s.nx)).to (s.nx + 1) ⟨20, 1, 0, 0, 0⟩)).to s.nx ⟨19, 0, 0, 0, 0⟩).here (s.nx + 1)).nx + 8 * m ≤ _ ∧ _
      simp only [KS.to, KS.here, KS.fresh, List.length_append, List.length_cons, List.length_nil] at c1 c2 ⊢
      omega
  by_cases h5 : k = 5
  · subst h5
    have hl : a.length = 1 := by simp [mayS] at hm; omega
    match a, hl, ha with
    | [x], _, ha =>
      obtain ⟨p1, e1, e2⟩ := fld_cons ha
      have := Option.some.inj e2
      have c1 := X x 1 s _ _ e1
      show ((kX E f 8 x 1 s).to lv ⟨19, 0, 0, 0, 0⟩).code.length + 8 * m ≤ _ ∧ ((kX E f 8 x 1 s).to lv ⟨19, 0, 0, 0, 0⟩).nx + 8 * m ≤ _ ∧ _
      simp only [KS.to, List.length_append, List.length_cons, List.length_nil]
      omega
  by_cases h6 : k = 6
  · subst h6
    have c1 := kArg_cost (E := E) (f := f) (g := g) a 0 s _ _ ha
    have cn : ∀ (l : List (ExT 8)) (j : Int) (s : KS), (kArg E f g l j s).nx = s.nx := by
      intro l
      induction l with
      | nil => intro j s; rfl
      | cons x r ih => intro j s; exact (ih (j + 1) _).trans (kX_le E f 8 x 1 s).2
    have c2 := cn a 0 s
    show (kVar E f 18 1 v ((((kArg E f g a 0 s).fresh.to (kArg E f g a 0 s).nx ⟨2, 15, 0, 0, 0⟩).to g ⟨19, 0, 0, 0, 0⟩).here (kArg E f g a 0 s).nx)).code.length + 8 * m ≤ _ ∧ (kVar E f 18 1 v ((((kArg E f g a 0 s).fresh.to (kArg E f g a 0 s).nx ⟨2, 15, 0, 0, 0⟩).to g ⟨19, 0, 0, 0, 0⟩).here (kArg E f g a 0 s).nx)).nx + 8 * m ≤ _ ∧ _
    simp only [kVar, kSlot, KS.to, KS.here, KS.fresh, List.length_append, List.length_cons, List.length_nil] at c1 c2 ⊢
    omega
  by_cases h7 : k = 7
  · subst h7
    have hl : a.length = 3 := by simp [mayS] at hm; omega
    match a, hl, ha with
    | [x, y, z], _, ha =>
      obtain ⟨p1, e1, e2⟩ := fld_cons ha
      obtain ⟨p2, e3, e4⟩ := fld_cons e2
      obtain ⟨p3, e5, e6⟩ := fld_cons e4
      have := Option.some.inj e6
      have c1 := Y x 1 s _ _ e1
      have c2 := Y y 2 (kAdr E f 8 x 1 s) _ _ e3
      have c3 := X z 3 (kAdr E f 8 y 2 (kAdr E f 8 x 1 s)) _ _ e5
      have c4 := X y 2 (kAdr E f 8 x 1 s) _ _ e3
      have c5 := X z 3 (kX E f 8 y 2 (kAdr E f 8 x 1 s)) _ _ e5
      show ((if kIn E 8 y = true then kX E f 8 z 3 (kAdr E f 8 y 2 (kAdr E f 8 x 1 s)) else (fun u : KS => kRaise 2 ((kProbe 2 (u.fresh.to u.nx ⟨20, 3, 0, 0, 0⟩)).here u.nx)) (kX E f 8 z 3 (kX E f 8 y 2 (kAdr E f 8 x 1 s)))).put [⟨23, 1, 2, 3, kAhead tg⟩]).code.length + 8 * m ≤ _ ∧ ((if kIn E 8 y = true then kX E f 8 z 3 (kAdr E f 8 y 2 (kAdr E f 8 x 1 s)) else (fun u : KS => kRaise 2 ((kProbe 2 (u.fresh.to u.nx ⟨20, 3, 0, 0, 0⟩)).here u.nx)) (kX E f 8 z 3 (kX E f 8 y 2 (kAdr E f 8 x 1 s)))).put [⟨23, 1, 2, 3, kAhead tg⟩]).nx + 8 * m ≤ _ ∧ _
      split
      · simp only [KS.put, List.length_append, List.length_cons, List.length_nil]; omega
      · simp only [kRaise, kProbe, KS.put, KS.here, KS.to, KS.fresh, List.length_append, List.length_cons, List.length_nil]; omega
  rw [if_neg h1, if_neg h2, if_neg h3, if_neg h4, if_neg h5, if_neg h6, if_neg h7]
  by_cases h8 : k = 8
  · subst h8
    have hl : a.length = 2 := by simp [mayS] at hm; omega
    match a, hl, ha with
    | [x, y], _, ha =>
      obtain ⟨p1, e1, e2⟩ := fld_cons ha
      obtain ⟨p2, e3, e4⟩ := fld_cons e2
      have := Option.some.inj e4
      have c1 := Y x 1 s _ _ e1
      have c2 := X y 2 (kAdr E f 8 x 1 s) _ _ e3
      show (kVar E f 18 1 v ((kX E f 8 y 2 (kAdr E f 8 x 1 s)).put [⟨24, 1, 1, 2, 0⟩])).code.length + 8 * m ≤ _ ∧ (kVar E f 18 1 v ((kX E f 8 y 2 (kAdr E f 8 x 1 s)).put [⟨24, 1, 1, 2, 0⟩])).nx + 8 * m ≤ _ ∧ _
      simp only [kVar, kSlot, KS.to, KS.put, List.length_append, List.length_cons, List.length_nil]
      omega
  · have hl : a.length = 1 := by
      by_cases h9 : k = 9
      · subst h9; simp [mayS] at hm; omega
      · unfold mayS at hm; simp [h1, h2, h3, h4, h5, h6, h7, h8, h9] at hm
    rw [if_neg h8]
    match a, hl, ha with
    | [x], _, ha =>
      obtain ⟨p1, e1, e2⟩ := fld_cons ha
      have := Option.some.inj e2
      have c1 := Y x 1 s _ _ e1
      show (kVar E f 18 1 v ((kAdr E f 8 x 1 s).put [⟨25, 1, 1, 0, 0⟩])).code.length + 8 * m ≤ _ ∧ (kVar E f 18 1 v ((kAdr E f 8 x 1 s).put [⟨25, 1, 1, 0, 0⟩])).nx + 8 * m ≤ _ ∧ _
      simp only [kVar, kSlot, KS.to, KS.put, List.length_append, List.length_cons, List.length_nil]
      omega
end Go.Proofs.Ytimmiidkjpbffaa
/- Layer compile: how long a whole program is (pure). -/
namespace Go.Proofs.Ytimmiidkjpbffaa
open Go.RowKit
set_option maxRecDepth 100000
set_option linter.unusedVariables false
set_option linter.unusedSimpArgs false

variable {E : KE} {f lv : Int} {vs : Int}
theorem kAllC {α : Type} {F : α → KS → KS} {G : α → Nat → Option Nat} (h : ∀ a s n m, G a n = some m → (F a s).code.length + 8 * m ≤ s.code.length + 8 * n ∧ (F a s).nx + 8 * m ≤ s.nx + 8 * n ∧ m ≤ n) : ∀ (l : List α) (s : KS) (n m : Nat), fld G l n = some m → (kAll F l s).code.length + 8 * m ≤ s.code.length + 8 * n ∧ (kAll F l s).nx + 8 * m ≤ s.nx + 8 * n ∧ m ≤ n
  | [], s, n, m, hm => by
    have := Option.some.inj hm
    subst this
    exact ⟨Nat.le_refl _, by show s.nx + _ ≤ _; omega, Nat.le_refl _⟩
  | a :: r, s, n, m, hm => by
    obtain ⟨n1, e1, e2⟩ := fld_cons hm
    have c1 := h a s n n1 e1
    have c2 := kAllC h r (F a s) n1 m e2
    show (kAll F r (F a s)).code.length + 8 * m ≤ _ ∧ (kAll F r (F a s)).nx + 8 * m ≤ _ ∧ _
    omega
theorem kS_cost {ps : List Int} : ∀ (d : Nat) (t : StT d) (s : KS) (n m : Nat), stN ps vs d t n = some m → (kS E f lv d t s).code.length + 8 * m ≤ s.code.length + 8 * n ∧ (kS E f lv d t s).nx + 8 * m ≤ s.nx + 8 * n ∧ m ≤ n
  | 0, _, _, _, _, h => by cases h
  | d + 1, t, s, n, m, h => by
    unfold stN at h
    split at h
    · cases h
    next hc =>
    have hmy : mayS ps vs t.nd = true := by
      cases hq : mayS ps vs t.nd with
      | true => rfl
      | false => exact absurd (.inr hq) hc
    cases h1 : fld (exN vs 8) t.nd.a (n - 1) with
    | none => rw [show fld (exN vs 8) (StN.a (α := StT d) t) (n - 1) = none from h1] at h; cases h
    | some n1 =>
      rw [show fld (exN vs 8) (StN.a (α := StT d) t) (n - 1) = some n1 from h1] at h
      replace h : (fld (stN ps vs d) t.nd.th n1).bind (fld (stN ps vs d) t.nd.el) = some m := h
      cases h2 : fld (stN ps vs d) t.nd.th n1 with
      | none => rw [h2] at h; cases h
      | some n2 =>
        rw [h2] at h
        have c := kOne_cost (E := E) (f := f) (lv := lv) (B := kAll (kS E f lv d)) hmy (by omega) h1 h2 h (fun l s a b hl => kAllC (fun a s n m h => kS_cost d a s n m h) l s a b hl) s
        exact ⟨c.1, c.2.1, by omega⟩
theorem kBody_cost {ps : List Int} {l : List (StT 8)} {s : KS} {n m : Nat} (h : fld (stN ps vs 8) l n = some m) : (kBody E f l s).code.length + 8 * m ≤ s.code.length + 8 * n + 1 ∧ (kBody E f l s).nx + 8 * m ≤ s.nx + 8 * n + 1 ∧ m ≤ n := by
  have c := kAllC (F := kS E f s.nx 8) (fun a u n m h => kS_cost (E := E) (f := f) (lv := s.nx) 8 a u n m h) l s.fresh n m h
  simp only [kBody, KS.put, KS.here, KS.fresh, List.length_append, List.length_cons, List.length_nil] at c ⊢
  omega
theorem kZero_cost {g : Int} : ∀ (n : Nat) (v : Int) (s : KS), (kZero E g n v s).code.length = s.code.length + n ∧ (kZero E g n v s).nx = s.nx
  | 0, v, s => ⟨rfl, rfl⟩
  | n + 1, v, s => by
    have c := kZero_cost (g := g) n (v + 1) (kSlot 18 0 (kHome E g v) s)
    simp only [kSlot, KS.to, List.length_append, List.length_cons, List.length_nil] at c
    rw [kZero]
    simp only [kSlot, KS.to]
    omega
theorem kCalled_cost {ps : List Int} {g : FuT} {s : KS} {n m : Nat} (hv : g.v ≤ 64 ∧ 0 ≤ g.p) (h : fld (stN ps vs 8) g.b n = some m) : (kCalled E f g s).code.length + 8 * m ≤ s.code.length + 8 * n + 72 ∧ (kCalled E f g s).nx + 8 * m ≤ s.nx + 8 * n + 72 ∧ m ≤ n := by
  have c1 := kZero_cost (E := E) (g := f) (g.v - g.p).toNat g.p (kSlot 18 15 (E.fr.getD f.toNat 0) (s.here f))
  have c2 := kBody_cost (E := E) (f := f) (s := kZero E f (g.v - g.p).toNat g.p (kSlot 18 15 (E.fr.getD f.toNat 0) (s.here f))) h
  have hz : (g.v - g.p).toNat ≤ 64 := by omega
  simp only [kSlot, KS.to, KS.here, List.length_append, List.length_cons, List.length_nil] at c1 c2
  simp only [kCalled, kSlot, KS.to, KS.put, KS.here, List.length_append, List.length_cons, List.length_nil]
  omega
theorem kFns_cost : ∀ (l : List FuT) (j : Int) (s : KS) (ps : List Int) (n m : Nat), fnN l ps n = some m → (kFns E l j s).code.length + 8 * m ≤ s.code.length + 8 * n + 72 * l.length ∧ (kFns E l j s).nx + 8 * m ≤ s.nx + 8 * n + 72 * l.length ∧ m ≤ n
  | [], j, s, ps, n, m, h => by
    have := Option.some.inj h
    subst this
    show s.code.length + _ ≤ _ ∧ s.nx + _ ≤ _ ∧ _
    simp
  | [g], j, s, ps, n, m, h => by
    unfold fnN at h
    split at h
    · cases hb : fld (stN ps g.v 8) g.b n with
      | none => rw [hb] at h; cases h
      | some n1 =>
        rw [hb] at h
        have hm : n1 = m := Option.some.inj h
        have c := kBody_cost (E := E) (f := j) (s := s) hb
        show s.code.length + 8 * m ≤ _ ∧ s.nx + 8 * m ≤ _ ∧ _
        simp only [List.length_cons, List.length_nil]
        omega
    · cases h
  | g :: g' :: r, j, s, ps, n, m, h => by
    unfold fnN at h
    split at h
    next hc =>
      cases hb : fld (stN ps g.v 8) g.b n with
      | none => rw [hb] at h; cases h
      | some n1 =>
        rw [hb] at h
        replace h : fnN (g' :: r) (ps ++ [g.p]) n1 = some m := h
        have c1 := kCalled_cost (E := E) (f := j) (s := s) ⟨hc.2.1, hc.2.2.1⟩ hb
        have c2 := kFns_cost (g' :: r) (j + 1) (kCalled E j g s) _ _ _ h
        rw [kFns]
        simp only [List.length_cons] at c2 ⊢
        omega
    · cases h
theorem fnN_at : ∀ (l : List FuT) (ps : List Int) (n m : Nat), fnN l ps n = some m → ∀ (i : Nat) (g : FuT), l[i]? = some g → ∃ ps' a b, a ≤ n ∧ fld (stN ps' g.v 8) g.b a = some b
  | [], ps, n, m, h, i, g, hi => by simp at hi
  | x :: r, ps, n, m, h, i, g, hi => by
    unfold fnN at h
    split at h
    · cases hb : fld (stN ps x.v 8) x.b n with
      | none => rw [hb] at h; cases h
      | some n1 =>
        rw [hb] at h
        cases i with
        | zero => simp at hi; subst hi; exact ⟨_, _, _, Nat.le_refl _, hb⟩
        | succ i =>
          obtain ⟨ps', a, b, h1, h2⟩ := fnN_at r _ n1 m h i g (by simpa using hi)
          have c := kBody_cost (E := ⟨[], 0, []⟩) (f := 0) (s := k0) hb
          exact ⟨ps', a, b, by omega, h2⟩
    · cases h
theorem kProg_cost {p : PgT} {m : Nat} (h : fnN p.fs [] 4096 = some m) (h32 : p.fs.length ≤ 32) : (kProg p).code.length ≤ 100000 ∧ (kProg p).nx ≤ 100000 := by
  unfold kProg
  cases hl : p.fs.getLast? with
  | none =>
    have c := kFns_cost (E := kEnv p) p.fs 0 k0 [] 4096 m h
    simp only [show k0.code.length = 0 from rfl, show k0.nx = 34 from rfl] at c
    simp only
    omega
  | some g =>
    rw [List.getLast?_eq_getElem?] at hl
    obtain ⟨ps', a, b, h1, h2⟩ := fnN_at p.fs [] 4096 m h _ g hl
    have c1 := kBody_cost (E := kEnv p) (f := (p.fs.length : Int) - 1) (s := k0.to 33 ⟨2, 14, 0, 0, 0⟩) h2
    have c := kFns_cost (E := kEnv p) p.fs 0 (kBegin (kEnv p) ((p.fs.length : Int) - 1) g.b k0) [] 4096 m h
    simp only [kBegin, KS.put, List.length_append, List.length_cons, List.length_nil] at c
    simp only [KS.to, show k0.code.length = 0 from rfl, show k0.nx = 34 from rfl, show k0.code = [] from rfl, List.nil_append, List.length_cons, List.length_nil] at c1 c
    simp only [kBegin, KS.put, KS.to, show k0.code = [] from rfl, List.nil_append, List.length_nil]
    simp only [show k0.nx = 34 from rfl, show k0.gaps = [] from rfl, show k0.code.length = 0 from rfl, show k0.code = [] from rfl, List.nil_append, List.length_nil] at c c1 ⊢
    omega
end Go.Proofs.Ytimmiidkjpbffaa
/- Layer compile: the image of a program (pure). -/
namespace Go.Proofs.Ytimmiidkjpbffaa
open Go.RowKit
set_option maxRecDepth 100000
set_option linter.unusedVariables false
set_option linter.unusedSimpArgs false

theorem szF_pow (n : Int) : ∀ (k i : Nat), ∃ j, i ≤ j ∧ j ≤ i + k ∧ szF n k (2 ^ i) = 2 ^ j
  | 0, i => ⟨i, by omega, by omega, rfl⟩
  | k + 1, i => by
    unfold szF
    split
    · obtain ⟨j, h1, h2, h3⟩ := szF_pow n k (i + 1)
      rw [Nat.pow_succ] at h3
      exact ⟨j, by omega, by omega, h3⟩
    · exact ⟨i, by omega, by omega, rfl⟩
theorem szF_ge (n : Int) : ∀ (k i : Nat), n ≤ ((2 ^ (i + k) : Nat) : Int) → n ≤ (szF n k (2 ^ i) : Int)
  | 0, i, h => h
  | k + 1, i, h => by
    unfold szF
    split
    · have := szF_ge n k (i + 1) (by rw [show i + 1 + k = i + (k + 1) by omega]; exact h)
      rw [Nat.pow_succ] at this
      exact this
    · omega
/-- What a program is compiled to: its code with all places, behind its code slots, noughts and the data. -/
def kTotal (p : PgT) : Int := (kProg p).code.length + kSlots p.fs + p.da
def kSize (p : PgT) : Nat := szF (kTotal p) 30 1
def kPl (p : PgT) : Int → Option Int := fun k => if k = 33 then some ((kSize p : Int) - p.da) else if k = 32 then some ((kProg p).code.length : Int) else (kProg p).pl k
def kCode (p : PgT) : List KI := mendC (kPl p) (kProg p).gaps (kProg p).code
/-- The error of Compile. -/
def kErr (p : PgT) : Int := if pgN p = none then 2 else if 4096 < (kSize p : Int) then 4 else 0
end Go.Proofs.Ytimmiidkjpbffaa
/- Layer compile: what the layers below give. -/
namespace Go.Proofs.Ytimmiidkjpbffaa
open Go.RowKit
set_option maxRecDepth 100000
set_option linter.unusedVariables false
set_option linter.unusedSimpArgs false

set_option maxHeartbeats 2000000 in
theorem mayS_1 {α : Type} {N : Nat} {sp : Option Addr} {n cap : Nat} {fs : List FuT} {vs : Int} (w : World) (hS : RS N w 3 (FuM N w) sp n cap fs) (hN : N ≤ w.heap.size) (v f t : Int) (a : List (ExT 8)) (th el : List α) (sa : Option Addr) (na ca : Nat) (sb : Option Addr) (nb cb : Nat) (sc : Option Addr) (nc cc : Nat) (ha : na = a.length) (hth : nb = th.length) (hel : nc = el.length) :
    Calls Try.prog 95 #[.agg #[.slice sp n cap, .int .i64 vs], .agg (stC 1 v f t (.slice sa na ca) (.slice sb nb cb) (.slice sc nc cc)).toArray] w (BoP (mayS (fs.map FuT.p) vs ⟨1, v, f, t, a, th, el⟩) w) := by
  obtain ⟨r, hr⟩ : ∃ r, r = mayS (fs.map FuT.p) vs ⟨1, v, f, t, a, th, el⟩ := ⟨_, rfl⟩
  rw [← hr]
  have A0 := (Arr.new w 114 #[.slice sp n cap, .int .i64 vs]).alloc (.cells (stC 1 v f t (.slice sa na ca) (.slice sb nb cb) (.slice sc nc cc)).toArray 94)
  have A := Arr.new (w.alloc (.cells #[.slice sp n cap, .int .i64 vs] 114)) 94 (stC 1 v f t (.slice sa na ca) (.slice sb nb cb) (.slice sc nc cc)).toArray
  simp only [World.size_alloc] at A
  have hh := fun u => has_any sp n cap v vs u
  unfold BoP at hh
  simp [mayS] at hr
  all_goals replace hr := hid hr
  all_goals replace ha := hid ha
  all_goals replace hth := hid hth
  all_goals replace hel := hid hel
  all_goals clear hS
  all_goals unfold stC at *
  all_goals obtain ⟨x1, ex1⟩ : ∃ b, ((nb : Int) == 0) = b := ⟨_, rfl⟩
  all_goals obtain ⟨x2, ex2⟩ : ∃ b, ((nc : Int) == 0) = b := ⟨_, rfl⟩
  all_goals obtain ⟨x5, ex5⟩ : ∃ b, (f == 0) = b := ⟨_, rfl⟩
  all_goals obtain ⟨x6, ex6⟩ : ∃ b, (t == 0) = b := ⟨_, rfl⟩
  all_goals obtain ⟨x3, ex3⟩ : ∃ b, ((na : Int) == 1) = b := ⟨_, rfl⟩
  all_goals by_cases hv : 0 ≤ v ∧ v < vs
  all_goals first | rw [decide_eq_true hv] at hh | rw [decide_eq_false hv] at hh
  all_goals replace hv := hid hv
  all_goals go_enter Try.func95, Try.ntmps95
  all_goals go_wp2_with (go_at_call 99; go_must (refine (hh _).mono ?_; rintro e w1 ⟨rfl, hb1⟩; have B1 := ((ab w _).alloc (by simp) _).trans (hb1.mono (by simp; omega)); have d0 := (A0.bl hb1).cell 0; have d1 := (A0.bl hb1).cell 1; have c2 : w1.cell? ⟨w.heap.size + 1, 2, none⟩ = some (.int .i64 f) := (A.bl hb1).cell 2; have c3 : w1.cell? ⟨w.heap.size + 1, 3, none⟩ = some (.int .i64 t) := (A.bl hb1).cell 3))
  all_goals
    go_ret
    refine ⟨congrArg (fun b => Ending.returned (.bool b)) (?_ : _ = r), ?_⟩
    · have h1 := hr.out
      have h2 := ha.out
      have h3 := hth.out
      have h4 := hel.out
      have h5 := hv.out
      clear A A0 hh 
      try subst ex1
      try subst ex2
      try subst ex5
      try subst ex6
      try subst ex3
      rw [Bool.eq_iff_iff]
      simp_all
      try (first | omega | (intros; omega))
    · exact B1
end Go.Proofs.Ytimmiidkjpbffaa
