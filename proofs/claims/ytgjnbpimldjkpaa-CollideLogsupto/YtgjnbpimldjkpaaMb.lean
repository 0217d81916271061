/- Layer merkle: sums in memory. -/
import Derived.Test.YtgjnbpimldjkpaaMa
import Derived.Test.YtgjnbpimldjkpaaTm
import Derived.Deep.MidRow
namespace Go.Proofs.Ytgjnbpimldjkpaa
open Go.RowKit
set_option linter.unusedVariables false
set_option linter.unusedSimpArgs false

theorem alloc_bel' (w : World) (o : Obj) : Below w.heap.size w (w.alloc o) := (Below.refl _ _).alloc (Nat.le_refl _) o
theorem h8_get {X : List Int} {t : Nat} (h : t < X.length) : (h8 X)[t]? = some (.int .u8 (bat X t)) := by
  simpa [h8] using by8_get h
theorem h8_one (X : List Int) : (h8 X).all (·.oneCell') = true := all_oneCell_toArray (by8_one X)
theorem h8_list (X : List Int) : (h8 X).toList = by8 X := rfl
theorem h8_Z : h8 Z32 = #[.int .u8 0, .int .u8 0, .int .u8 0, .int .u8 0, .int .u8 0, .int .u8 0, .int .u8 0, .int .u8 0, .int .u8 0, .int .u8 0, .int .u8 0, .int .u8 0, .int .u8 0, .int .u8 0, .int .u8 0, .int .u8 0, .int .u8 0, .int .u8 0, .int .u8 0, .int .u8 0, .int .u8 0, .int .u8 0, .int .u8 0, .int .u8 0, .int .u8 0, .int .u8 0, .int .u8 0, .int .u8 0, .int .u8 0, .int .u8 0, .int .u8 0, .int .u8 0] := rfl
theorem eqItems_two (w : World) (d : Nat) (C D : Array Value) (f g : Nat → Int) :
    ∀ is : List Nat, (∀ i ∈ is, C[i]? = some (.int .u8 (f i))) → (∀ i ∈ is, D[i]? = some (.int .u8 (g i))) → (Op.eqItems (d + 1) 5 1 C D is).run Try.prog w = .ok (is.all fun i => f i == g i) w
  | [], _, _ => by simp [Op.eqItems]
  | i :: is, h, h' => by
    have hi := h i (by simp)
    have hi' := h' i (by simp)
    have ih := eqItems_two w d C D f g is (fun j hj => h j (by simp [hj])) (fun j hj => h' j (by simp [hj]))
    have ha := @Try.isAgg5
    by_cases he : f i = g i
    · simp [Op.eqItems, part, ha, hi, hi', run_equalIn_int w d 5 .u8 .u8 _ _ Try.underlying5, ih, he]
    · simp [Op.eqItems, part, ha, hi, hi', run_equalIn_int w d 5 .u8 .u8 _ _ Try.underlying5, ih, he]
theorem bat_ext {X Y : List Int} (hX : X.length = 32) (hY : Y.length = 32) : ((List.range 32).all fun i => bat X i == bat Y i) = decide (X = Y) := by
  rw [Bool.eq_iff_iff]
  simp only [List.all_eq_true, List.mem_range, beq_iff_eq, decide_eq_true_eq]
  constructor
  · intro h
    apply List.ext_getElem (by omega)
    intro i h1 h2
    have := h i (by omega)
    simpa [bat, List.getD_eq_getElem?_getD, List.getElem?_eq_getElem, h1, h2] using this
  · rintro rfl i _; rfl
theorem run_eqIn24 {X Y : List Int} (hX : X.length = 32) (hY : Y.length = 32) (w : World) : (Op.equalIn 10000 29 (.agg (h8 X)) (.agg (h8 Y))).run Try.prog w = .ok (decide (X = Y)) w := by
  obtain ⟨i0, hi, -⟩ := info_parts info5
  have hc : Try.prog.cellsOf 5 = 1 := by kernel_rfl
  rw [run_equalIn_array w 9999 _ _ Try.underlying29 hi, hc, eqItems_two w 9998 _ _ (bat X) (bat Y) (List.range 32) (fun i h => h8_get (by rw [hX]; simpa using h)) (fun i h => h8_get (by rw [hY]; simpa using h)), bat_ext hX hY]
theorem run_eq24 {X Y : List Int} (hX : X.length = 32) (hY : Y.length = 32) (w : World) : (binOp .eql 29 (.agg (h8 X)) (.agg (h8 Y))).run Try.prog w = .ok (.bool (decide (X = Y))) w := by
  rw [run_eql_struct, run_eqIn24 hX hY]; rfl
theorem range_below {w w' : World} {B b o : Nat} {cs : List Value} (h : w.rangeAt b o cs) (hb : Below B w w') (hlt : b < B) : w'.rangeAt b o cs := fun j v hv => (hb.cell (p := ⟨b, o + j, none⟩) hlt).trans (h j v hv)
theorem there_below {w w' : World} {B b o n : Nat} (h : w.there b o n) (hb : Below B w w') (hlt : b < B) : w'.there b o n := fun j hj =>
  ⟨by rw [hb.cell (p := ⟨b, o + j, none⟩) hlt]; exact (h j hj).1, by have h2 := (h j hj).2; simp only [World.frozen?] at h2 ⊢; rw [hb.block b hlt]; exact h2⟩
theorem Arr.range {w : World} {g ty : Nat} {X : List Int} (h : Arr w g ty (h8 X)) : w.rangeAt g 0 (by8 X) := fun j v hv => by
  rw [Nat.zero_add, h.cell]; simpa [h8] using hv

/-- A slice of sums. -/
structure HS (N : Nat) (w : World) (sp : Option Addr) (n cap : Nat) (ls : List (List Int)) : Prop where
  len : Hid (n = ls.length)
  nil : sp = none → n = 0 ∧ cap = 0
  le : n ≤ cap
  big : cap ≤ 9223372036854775807
  small : n ≤ 140737488355328
  at0 : 0 < n → ∃ g off, sp = some ⟨g, off, none⟩ ∧ g < N ∧ ∀ i X, ls[i]? = some X → w.rangeAt g (off + i * 32) (by8 X)
  l32 : ∀ X ∈ ls, X.length = 32
theorem HS.mono {N N' : Nat} {w : World} {sp : Option Addr} {n cap : Nat} {ls : List (List Int)} (h : HS N w sp n cap ls) (hN : N ≤ N') : HS N' w sp n cap ls :=
  ⟨h.len, h.nil, h.le, h.big, h.small, fun h0 => let ⟨b, off, e, hb, hB⟩ := h.at0 h0; ⟨b, off, e, by omega, hB⟩, h.l32⟩
theorem HS.below {N : Nat} {w w' : World} {sp : Option Addr} {n cap : Nat} {ls : List (List Int)} (h : HS N w sp n cap ls) (hb : Below N w w') : HS N w' sp n cap ls :=
  ⟨h.len, h.nil, h.le, h.big, h.small, fun h0 => let ⟨b, off, e, hbN, hB⟩ := h.at0 h0; ⟨b, off, e, hbN, fun i X hX => range_below (hB i X hX) hb hbN⟩, h.l32⟩
theorem HS.here {N : Nat} {w : World} {sp : Option Addr} {n cap : Nat} {ls : List (List Int)} (h : HS N w sp n cap ls) : HS w.heap.size w sp n cap ls :=
  ⟨h.len, h.nil, h.le, h.big, h.small, fun h0 => by
    obtain ⟨b, off, e, hbN, hB⟩ := h.at0 h0
    refine ⟨b, off, e, ?_, hB⟩
    have hl : 0 < ls.length := by rw [← h.len.out]; exact h0
    have hX := hB 0 ls[0] (List.getElem?_eq_getElem hl)
    have h32 := h.l32 ls[0] (List.getElem_mem hl)
    exact block_lt_of_cell (hX 0 _ (by8_get (by omega))), h.l32⟩
theorem HS.nil0 (N : Nat) (w : World) : HS N w none 0 0 [] := ⟨rfl, fun _ => ⟨rfl, rfl⟩, Nat.le_refl _, by omega, by omega, fun h => absurd h (by omega), fun X h => by cases h⟩
/-- A part of it. -/
theorem HS.part {N : Nat} {w : World} {g off n cap : Nat} {ls : List (List Int)} (h : HS N w (some ⟨g, off, none⟩) n cap ls) (l k m : Nat) (hk : l + k ≤ n) (hkm : k ≤ m) (hm : m ≤ cap) (hpos : 0 < n) : HS N w (some ⟨g, off + l * 32, none⟩) k m ((ls.drop l).take k) := by
  have hl := h.len.out
  refine ⟨?_, (fun e => by cases e), hkm, by have := h.big; omega, by have := h.small; omega, fun h0 => ?_, fun X hX => h.l32 X (List.mem_of_mem_drop (List.mem_of_mem_take hX))⟩
  · show k = _
    rw [List.length_take, List.length_drop]; omega
  · obtain ⟨g', off', e, hb, hB⟩ := h.at0 hpos
    cases e
    refine ⟨_, _, rfl, hb, fun i X hX => ?_⟩
    have hi : i < k := by
      have := (List.getElem?_eq_some_iff.1 hX).1
      rw [List.length_take] at this; omega
    rw [List.getElem?_take_of_lt hi, List.getElem?_drop] at hX
    have := hB (l + i) X hX
    rw [Nat.add_mul, ← Nat.add_assoc] at this
    exact this
end Go.Proofs.Ytgjnbpimldjkpaa
