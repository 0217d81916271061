/- Layer compile: Compile, of whatever program. -/
import Derived.Test.YtimmiidkjpbffaaX25
import Derived.Test.YtimmiidkjpbffaaX34
import Derived.Test.YtimmiidkjpbffaaX22
import Derived.Test.YtimmiidkjpbffaaX18
import Derived.Test.YtimmiidkjpbffaaX17
import Derived.Test.YtimmiidkjpbffaaX35
namespace Go.Proofs.Ytimmiidkjpbffaa
open Go.RowKit
set_option maxRecDepth 100000
set_option linter.unusedVariables false
set_option linter.unusedSimpArgs false


/-- An image's words, Base and Data, or none. -/
def cL (p : PgT) : List Int := if kErr p = 0 then kWords p else []
def cB (p : PgT) : Int := if kErr p = 0 then (kSize p : Int) - p.da else 0
def cD (p : PgT) : Int := if kErr p = 0 then p.da else 0
/-- What Compile comes to, be it what it may. -/
def CmA (p : PgT) (w : World) (e : Ending) (w' : World) : Prop :=
  ∃ sp n cap, e = .returned (.tuple #[.agg #[.slice sp n cap, .int .i64 (cB p), .int .i64 (cD p)], .int .i64 (kErr p)]) ∧ MS w'.heap.size w' sp n cap (cL p) ∧ Below w.heap.size w w'
theorem kErr_cases (p : PgT) : (pgN p = none ∧ kErr p = 2) ∨ ((pgN p).isSome = true ∧ 4096 < (kSize p : Int) ∧ kErr p = 4) ∨ ((pgN p).isSome = true ∧ ¬ 4096 < (kSize p : Int) ∧ kErr p = 0) := by
  unfold kErr
  cases h : pgN p with
  | none => exact .inl ⟨rfl, by rw [if_pos rfl]⟩
  | some m =>
    rw [if_neg (by simp)]
    by_cases h2 : 4096 < (kSize p : Int)
    · exact .inr (.inl ⟨rfl, h2, by rw [if_pos h2]⟩)
    · exact .inr (.inr ⟨rfl, h2, by rw [if_neg h2]⟩)
theorem cNo {p : PgT} (h : kErr p ≠ 0) : cL p = [] ∧ cB p = 0 ∧ cD p = 0 := ⟨if_neg h, if_neg h, if_neg h⟩
theorem compile_any {N : Nat} {sp : Option Addr} {k cap : Nat} {p : PgT} (w : World) (hN : N ≤ w.heap.size) (hM : PgM N w [.slice sp k cap, .int .i64 p.da] p) :
    Calls Try.prog 15 #[.agg #[.slice sp k cap, .int .i64 p.da]] w (CmA p w) := by
  rcases kErr_cases p with ⟨hp, he⟩ | ⟨hp, hb, he⟩ | ⟨hp, hb, he⟩
  · refine (compile_bad w hN hM hp).mono ?_
    rintro e w' ⟨rfl, h⟩
    obtain ⟨h1, h2, h3⟩ := cNo (p := p) (by rw [he]; decide)
    exact ⟨none, 0, 0, by rw [h2, h3, he], by rw [h1]; exact MS.nil0 _ _, h⟩
  · obtain ⟨m, hm⟩ := Option.isSome_iff_exists.1 hp
    refine (compile_go w hN hM hm).mono ?_
    intro e w' h
    obtain ⟨rfl, hb'⟩ := h.1 hb
    obtain ⟨h1, h2, h3⟩ := cNo (p := p) (by rw [he]; decide)
    exact ⟨none, 0, 0, by rw [h2, h3, he], by rw [h1]; exact MS.nil0 _ _, hb'⟩
  · obtain ⟨m, hm⟩ := Option.isSome_iff_exists.1 hp
    refine (compile_go w hN hM hm).mono ?_
    intro e w' h
    obtain ⟨sp, n, cap, rfl, hM, hb'⟩ := h.2 hb
    have h1 : cL p = kWords p := if_pos he
    have h2 : cB p = (kSize p : Int) - p.da := if_pos he
    have h3 : cD p = p.da := if_pos he
    exact ⟨sp, n, cap, by rw [h2, h3, he], by rw [h1]; exact hM, hb'⟩
theorem mendC_lenI (pl : Int → Option Int) : ∀ (g : List (Int × Int)) (c : List KI), (mendC pl g c).length = c.length
  | [], _ => rfl
  | x :: r, c => (mendC_lenI pl r (mend1 pl x c)).trans (mend1_len pl x c)
theorem kWords_len {p : PgT} {N m : Nat} {w : World} {cs : List Value} (hM : PgM N w cs p) (hp : pgN p = some m) : (kWords p).length = kSize p ∧ p.da ≤ kSize p ∧ 0 ≤ p.da ∧ p.da ≤ 1024 := by
  obtain ⟨hpo, hfn⟩ := pgOk_of hM hp
  obtain ⟨hc1, hc2⟩ := kProg_cost hfn hpo.n.2
  have hsl := kSlots_le p.fs hpo.v
  have hd := hpo.d
  have hn := hpo.n
  have hge : kTotal p ≤ (kSize p : Int) := by
    unfold kSize
    have := szF_ge (kTotal p) 30 0 (by
      have : ((2 ^ (0 + 30) : Nat) : Int) = 1073741824 := by decide
      rw [this]; unfold kTotal; omega)
    exact this
  have hlen : (kCode p).length = (kProg p).code.length := mendC_lenI _ _ _
  unfold kTotal at hge
  refine ⟨?_, by omega, hd⟩
  unfold kWords
  refine ldW_len ?_
  rw [List.length_map, hlen]
  simp only [List.length_nil]
  omega
theorem szB_pow {i : Nat} (h : 2 ^ i ≤ 4096) : szB (2 ^ i) = true := by
  unfold szB
  rw [List.any_eq_true]
  have : i < 13 := by
    apply Decidable.byContradiction
    intro hn
    have : 2 ^ 13 ≤ 2 ^ i := Nat.pow_le_pow_right (by omega) (by omega)
    have e : 2 ^ 13 = 8192 := by decide
    omega
  exact ⟨i, by simp [this], by simp⟩
theorem image_ok {p : PgT} {N m : Nat} {w : World} {cs : List Value} (hM : PgM N w cs p) (hp : pgN p = some m) (hb : ¬ 4096 < (kSize p : Int)) : imOk (kWords p).length ((kSize p : Int) - p.da) p.da = true := by
  obtain ⟨h1, h2, h3, h4⟩ := kWords_len hM hp
  obtain ⟨j, -, -, hj⟩ := szF_pow (kTotal p) 30 0
  have hj : kSize p = 2 ^ j := hj
  unfold imOk
  rw [h1, Bool.and_eq_true_iff]
  exact ⟨by rw [hj]; exact szB_pow (by rw [← hj]; omega), decide_eq_true ⟨h3, by omega, by omega⟩⟩
end Go.Proofs.Ytimmiidkjpbffaa
