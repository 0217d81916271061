/- Layer msg: what came in. -/
import Derived.Test.YtoanfiikeeacdaaP
import Derived.Test.YtoanfiikeeacdaaC
namespace Go.Proofs.Ytoanfiikeeacdaa
set_option linter.unusedSectionVars false
set_option maxHeartbeats 1000000
open Go.RowKit Go.ChangeShapes Go.WideShapes Go.ChangeAt
set_option maxRecDepth 100000
set_option linter.unusedVariables false
set_option linter.unusedSimpArgs false

variable [DecidableEq Mg]
theorem cells22 : Try.prog.cellsOf 22 = 1 := by kernel_rfl
theorem cells23 : Try.prog.cellsOf 23 = 1 := by kernel_rfl
theorem cells27 : Try.prog.cellsOf 27 = 69 := by kernel_rfl
theorem u8_wf {z : Int} (h : (Lit.int .u8 z).wf = true) : 0 ≤ z ∧ z < 256 := by
  have hmin : IntKind.u8.min = 0 := rfl
  have hmax : IntKind.u8.max = 255 := rfl
  simp only [Lit.wf, Bool.and_eq_true, decide_eq_true_eq] at h
  omega
section
variable {H : Type} {enc : TypeId × Value → H} {W : World} {base : Nat}
theorem mg_of_trod (fuel : Nat) (cs : List Value) (x : DataW H × List MemPlace) (h : DataW.trod enc Try.prog W base (fun _ => true) true fuel 27 cs = some x) : ∃ m : Mg, cs = m.cells ∧ MgOK m := by
  obtain ⟨xs, n, rfl, rfl, hl, hxl, hf⟩ := DataW.trod_struct Try.underlying27 h
  rw [cells27] at hl
  simp at hxl
  match xs, hxl with
  | [x0, x1, x2, x3, x4, x5, x6], _ =>
  have f0 := hf 0 _ rfl
  have f1 := hf 1 _ rfl
  have f2 := hf 2 _ rfl
  have f3 := hf 3 _ rfl
  have f4 := hf 4 _ rfl
  have f5 := hf 5 _ rfl
  have f6 := hf 6 _ rfl
  simp [cells22, cells23, cells29] at f0 f1 f2 f3 f4 f5 f6
  obtain ⟨a, e0, -, w0⟩ := DataW.trod_int Try.underlying22 f0
  obtain ⟨b, e1, -, w1⟩ := DataW.trod_int Try.underlying23 f1
  obtain ⟨c, e2, -, w2⟩ := DataW.trod_int Try.underlying23 f2
  obtain ⟨d, e3, -, w3⟩ := DataW.trod_int Try.underlying23 f3
  obtain ⟨e, e4, -, w4⟩ := DataW.trod_int Try.underlying23 f4
  obtain ⟨X, hX, bX, e5⟩ := h_of_trod f5
  obtain ⟨Y, hY, bY, e6⟩ := h_of_trod f6
  refine ⟨⟨a, b, c, d, e, X, Y⟩, ?_, (u8_wf w0).1, (u8_wf w0).2, (u64_wf w1).1, (u64_wf w1).2, (u64_wf w2).1, (u64_wf w2).2, (u64_wf w3).1, (u64_wf w3).2, (u64_wf w4).1, (u64_wf w4).2, hX, bX, hY, bY⟩
  match cs, hl with
  | c0 :: c1 :: c2 :: c3 :: c4 :: r, hl =>
    simp at e0 e1 e2 e3 e4 e5 e6 hl
    subst e0; subst e1; subst e2; subst e3; subst e4
    have hr : r = List.take 32 r ++ List.drop 32 r := (List.take_append_drop 32 r).symm
    rw [List.take_of_length_le (l := List.drop 32 r) (by rw [List.length_drop]; omega)] at e6
    rw [hr, e5, e6]; rfl
/-- A MESSAGE THAT CAME IN. -/
theorem open_msg {b0 : Nat} {v : Value} {d : DataW H} {p : List MemPlace}
    (hv : Value.okWide Try.prog W .any b0 27 v) (h : DataW.Trod enc Try.prog W base (fun _ => true) true 27 v d p) :
    ∃ m : Mg, v = .agg m.arr ∧ MgOK m := by
  unfold Value.okWide at hv
  rw [Try.underlying27] at hv
  obtain ⟨cs, rfl, hc, -⟩ := hv
  obtain ⟨fuel, hf⟩ := h
  obtain ⟨m, e, h⟩ := mg_of_trod _ _ _ hf
  refine ⟨m, ?_, h⟩
  congr 1
  apply Array.toList_inj.1
  exact e
end
end Go.Proofs.Ytoanfiikeeacdaa
