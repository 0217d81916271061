/- Layer collide: two leaves with their proofs in memory. -/
import Derived.Test.YtgjnbpimldjkpaaCr
import Derived.Test.YtgjnbpimldjkpaaCm
namespace Go.Proofs.Ytgjnbpimldjkpaa
open Go.RowKit
set_option linter.unusedVariables false
set_option linter.unusedSimpArgs false

/-- Two leaves with their proofs, as an array. -/
def twoA (A B : List Int) (sp : Option Addr) (n cap : Nat) (sp' : Option Addr) (n' cap' : Nat) : Array Value := (twoC A B sp n cap sp' n' cap').toArray
/-- .. in block g. -/
structure TW (w : World) (g : Nat) (A B : List Int) (sp : Option Addr) (n cap : Nat) (sp' : Option Addr) (n' cap' : Nat) : Prop where
  ra : w.rangeAt g 0 (by8 A)
  rb : w.rangeAt g 32 (by8 B)
  ca : w.cell? ⟨g, 64, none⟩ = some (.slice sp n cap)
  cb : w.cell? ⟨g, 65, none⟩ = some (.slice sp' n' cap')
  lt : g < w.heap.size
theorem TW.of_arr {w : World} {g ty : Nat} {A B : List Int} {sp : Option Addr} {n cap : Nat} {sp' : Option Addr} {n' cap' : Nat} (h : Arr w g ty (twoA A B sp n cap sp' n' cap')) (hA : A.length = 32) (hB : B.length = 32) : TW w g A B sp n cap sp' n' cap' := by
  have hc : ∀ j, w.cell? ⟨g, j, none⟩ = (by8 A ++ (by8 B ++ [.slice sp n cap, .slice sp' n' cap']))[j]? := fun j => by rw [h.cell]; simp [twoA, twoC]
  have lA : (by8 A).length = 32 := by rw [by8_len, hA]
  have lB : (by8 B).length = 32 := by rw [by8_len, hB]
  refine ⟨fun j v hv => ?_, fun j v hv => ?_, ?_, ?_, h.lt⟩
  · have hj := (List.getElem?_eq_some_iff.1 hv).1
    rw [Nat.zero_add, hc, List.getElem?_append_left hj]; exact hv
  · have hj := (List.getElem?_eq_some_iff.1 hv).1
    rw [hc, List.getElem?_append_right (by omega), lA, Nat.add_sub_cancel_left, List.getElem?_append_left hj]; exact hv
  · rw [hc, List.getElem?_append_right (by omega), List.getElem?_append_right (by omega), lA, lB]; rfl
  · rw [hc, List.getElem?_append_right (by omega), List.getElem?_append_right (by omega), lA, lB]; rfl
theorem TW.bel {w w' : World} {g : Nat} {A B : List Int} {sp : Option Addr} {n cap : Nat} {sp' : Option Addr} {n' cap' : Nat} (h : TW w g A B sp n cap sp' n' cap') (hb : Below w.heap.size w w') : TW w' g A B sp n cap sp' n' cap' :=
  ⟨range_below h.ra hb h.lt, range_below h.rb hb h.lt, (hb.cell (p := ⟨g, 64, none⟩) h.lt).trans h.ca, (hb.cell (p := ⟨g, 65, none⟩) h.lt).trans h.cb, Nat.lt_of_lt_of_le h.lt hb.size⟩
end Go.Proofs.Ytgjnbpimldjkpaa
