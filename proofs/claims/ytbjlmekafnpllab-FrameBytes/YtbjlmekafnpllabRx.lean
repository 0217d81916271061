/- Layer frame: arguments that came in: arrays. -/
import Derived.Test.YtbjlmekafnpllabRw
namespace Go.Proofs.Ytbjlmekafnpllab
open Go.ChangeShapes Go.WideShapes Go.ChangeAt Go.RowKit
set_option linter.unusedVariables false
set_option linter.unusedSimpArgs false

/-- AN ARRAY OF INTEGERS BY VALUE. -/
theorem open_arr {H : Type} {enc : TypeId × Value → H} {P : Program} {w : World} {base : Nat} {spare : Nat → Bool} {held : Bool} {r : Reach} {b0 : Nat} {t e n : Nat} {k : IntKind} {v : Value} {d : DataW H} {p : List MemPlace} (hu : P.underlying t = some (.array n e)) (he : P.underlying e = some (.int k)) (hc : P.cellsOf t = n) (hce : P.cellsOf e = 1)
    (hv : Value.okWide P w r b0 t v) (h : DataW.Trod enc P w base spare held t v d p) :
    ∃ X : List Int, X.length = n ∧ v = .agg (X.map (Value.int k)).toArray ∧ ∀ x ∈ X, (Lit.int k x).wf = true := by
  unfold Value.okWide at hv
  rw [hu] at hv
  obtain ⟨cs, rfl, hsz, -⟩ := hv
  obtain ⟨fuel, hf⟩ := h
  obtain ⟨xs, m, -, hx, hl, hxs, hi⟩ := DataW.trod_array hu hf
  have key : ∀ i, i < n → ∃ z, cs[i]? = some (.int k z) ∧ (Lit.int k z).wf = true := fun i hin => by
    have := hi i hin
    rw [List.getElem?_eq_getElem (by omega), hce] at this
    obtain ⟨z, hz, -, hwf⟩ := DataW.trod_int he this
    refine ⟨z, ?_, hwf⟩
    simp only [Value.cells, Nat.mul_one] at hz
    have h2 : (List.take 1 (List.drop i cs.toList))[0]? = some (.int k z) := by rw [hz]; rfl
    simpa using h2
  refine ⟨cs.toList.map fun v => match v with | .int _ z => z | _ => 0, by simp; omega, ?_, ?_⟩
  · congr 1
    apply Array.ext_getElem?
    intro i
    by_cases hin : i < n
    · obtain ⟨z, hz, -⟩ := key i hin
      simp [hz]
    · rw [Array.getElem?_eq_none (by omega), Array.getElem?_eq_none (by simp; omega)]
  · intro x hx
    obtain ⟨v, hv, rfl⟩ := List.mem_map.1 hx
    obtain ⟨i, hin, rfl⟩ := List.mem_iff_getElem.1 hv
    obtain ⟨z, hz, hwf⟩ := key i (by simp at hin; omega)
    have : cs.toList[i]? = some (.int k z) := by simpa using hz
    rw [List.getElem?_eq_getElem hin] at this
    rw [Option.some.inj this]; exact hwf

set_option maxRecDepth 100000 in
theorem arr3 {W : World} {H : Type} {enc : TypeId × Value → H} {base b0 : Nat} {v : Value} {d : DataW H} {p : List MemPlace} (hv : Value.okWide Try.prog W .any b0 50 v) (h : DataW.Trod enc Try.prog W base (fun _ => true) true 50 v d p) :
    ∃ x y z : Int, v = .agg #[.int .u8 x, .int .u8 y, .int .u8 z] ∧ (0 ≤ x ∧ x ≤ 255) ∧ (0 ≤ y ∧ y ≤ 255) ∧ (0 ≤ z ∧ z ≤ 255) := by
  obtain ⟨X, hX, hv', hw⟩ := open_arr Try.underlying50 Try.underlying5 (by kernel_rfl) (by kernel_rfl) hv h
  match X, hX with
  | [x, y, z], _ =>
    have hb := bts_wf hw
    exact ⟨x, y, z, hv', hb x (by simp), hb y (by simp), hb z (by simp)⟩
end Go.Proofs.Ytbjlmekafnpllab
