import Derived.Test.YtgjnbpimldjkpaaTt
import Derived.Test.YtgjnbpimldjkpaaTs
import Derived.Test.YtgjnbpimldjkpaaTm
import Derived.Deep.RegionHeld3
namespace Go.Proofs.Ytgjnbpimldjkpaa
open Go.RowKit
set_option linter.unusedSimpArgs false

/-- Sum of whatever slice. -/
theorem sum_sl (sp : Option Addr) (n cap : Nat) (L : List Int) (w : World) (hn : n = L.length) (hnil : sp = none → n = 0 ∧ cap = 0) (hS : SlL w sp L) (hcap : n ≤ cap) (hb : n ≤ 140737488355328) :
    Calls Try.prog 27 #[.slice sp n cap] w fun e w' => e = .returned (.agg (sha L)) ∧ Below w.heap.size w w' := by
  by_cases h0 : 0 < L.length
  · obtain ⟨b, off, rfl, hB⟩ := hS h0
    subst hn
    exact sum_list b off cap L w hB hcap hb
  · obtain rfl : L = [] := List.eq_nil_of_length_eq_zero (by omega)
    simp only [List.length_nil] at hn
    subst hn
    have key : ∀ (e : Ending) (w' : World), (∃ C : Array Value, e = .returned (.agg C) ∧ C.size = 32 ∧ (∀ t, t < 32 → C[t]? = some (.int .u8 (outB (shaSt (bat []) 0 0) t))) ∧ Below w.heap.size w w') → e = .returned (.agg (sha [])) ∧ Below w.heap.size w w' := by
      rintro e w' ⟨C, rfl, hs, hC, hb⟩
      exact ⟨by rw [arr_eq hs hC]; rfl, hb⟩
    cases sp with
    | none =>
      obtain ⟨-, rfl⟩ := hnil rfl
      exact (sum_none (bat []) w).mono fun e w' h => key e w' h
    | some ad =>
      by_cases hc : 0 < cap
      · exact (sum_ad ad cap hc (bat []) w).mono fun e w' h => key e w' h
      · obtain rfl : cap = 0 := by omega
        exact (sum_ad0 ad (bat []) w).mono fun e w' h => key e w' h

theorem yields_arr {ops : Array Oper} {S : World → Prop} {op : Oper} {a : Act} (hw : Region.wanted op (yielded ops a.tmps) = true) (ty : TypeId) (x : Operand) (ho : op.op = .load ty x)
    (g : Nat) (hx : a.eval x = .pointer (some ⟨g, 0, none⟩)) (C : Array Value) {n e : Nat} (hS : ∀ w, S w → Arr w g ty C)
    (hu : Try.prog.underlying ty = some (.array n e)) (hi : (Try.prog.info? ty).map (·.size) = some C.size) : YieldsIf Try.prog ops S op (.agg C) a :=
  .inl ⟨hw, fun w hw' => by
    unfold execOp
    simp only [ho, hx, Instr.loadAt, Instr.sureAddr, Sem.run_bind, Sem.run_pure, Result.andThen_ok, run_loadVar_row w g ty ty C (0, 0) _ (hS w hw') hu rfl hi]⟩

theorem Bytes.take {w : World} {b off : Nat} {L M : List Int} (h : Bytes w b off (L ++ M).length (bat (L ++ M))) : Bytes w b off L.length (bat L) := fun t ht => by
  rw [h t (by simp; omega)]; simp [bat, List.getElem?_append_left ht]
theorem Bytes.back {w : World} {b : Nat} {L M : List Int} (h : Bytes w b 0 (L ++ M).length (bat (L ++ M))) {t : Nat} (ht : t < M.length) : w.cell? ⟨b, L.length + t, none⟩ = some (.int .u8 (bat M t)) := by
  have := h (L.length + t) (by simp; omega)
  rw [Nat.zero_add] at this
  rw [this]
  simp only [bat, List.getD_eq_getElem?_getD]
  rw [List.getElem?_append_right (by omega), Nat.add_sub_cancel_left]
def sevens : List Int := [7, 7, 7, 7, 7, 7, 7, 7, 7, 7, 7, 7]
theorem bat_sevens {t : Nat} (h : t < 12) : bat sevens t = 7 := by
  match t, h with
  | 0, _ => rfl
  | 1, _ => rfl
  | 2, _ => rfl
  | 3, _ => rfl
  | 4, _ => rfl
  | 5, _ => rfl
  | 6, _ => rfl
  | 7, _ => rfl
  | 8, _ => rfl
  | 9, _ => rfl
  | 10, _ => rfl
  | 11, _ => rfl

theorem keepK {L : List Int} {g5 g6 g : Nat} {sp : Option Addr} {w w1 w2 : World} (hb : Below w1.heap.size w1 w2) (h : Arr w1 g5 29 (sha L) ∧ Arr w1 g6 29 (sha (0 :: L)) ∧ SlL w1 sp L ∧ Bytes w1 g 0 L.length (bat L) ∧ Below w.heap.size w w1) :
    Arr w2 g5 29 (sha L) ∧ Arr w2 g6 29 (sha (0 :: L)) ∧ SlL w2 sp L ∧ Bytes w2 g 0 L.length (bat L) ∧ Below w.heap.size w w2 :=
  ⟨h.1.bel hb, h.2.1.bel hb, Sl.below h.2.2.1 hb, h.2.2.2.1.below hb, h.2.2.2.2.trans (hb.mono h.2.2.2.2.size)⟩

end Go.Proofs.Ytgjnbpimldjkpaa
