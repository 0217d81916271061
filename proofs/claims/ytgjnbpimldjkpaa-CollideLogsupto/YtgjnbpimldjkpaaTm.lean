import Derived.Test.YtgjnbpimldjkpaaTl
namespace Go.Proofs.Ytgjnbpimldjkpaa
open Go.RowKit

theorem Bytes.below {w w' : World} {b off n : Nat} {B : Nat → Int} (h : Bytes w b off n B) (hb : Below w.heap.size w w') : Bytes w' b off n B := fun t ht => by
  rw [hb.cell (p := ⟨b, off + t, none⟩) (block_lt_of_cell (h t ht))]; exact h t ht
theorem Bytes.grownLit {w w' : World} {b off n c l : Nat} {B : Nat → Int} {o : Obj} (h : Bytes w b off n B) (hg : (w.alloc o).grownBy w' (Value.slice (some ⟨w.heap.size, 0, none⟩) l c).ownBlock) : Bytes w' b off n B := fun t ht => by
  have hb := block_lt_of_cell (h t ht)
  simp only at hb
  rw [World.cell?_of_block (w := w.alloc o) (a := ⟨b, off + t, none⟩) (hg.block b (by simp; omega) (by simp [Value.ownBlock]; omega)), World.cell?_alloc_lt _ _ _ hb]
  exact h t ht
theorem Arr.bel {w w' : World} {g ty : Nat} {C : Array Value} (h : Arr w g ty C) (hb : Below w.heap.size w w') : Arr w' g ty C := h.below hb h.lt
theorem s24h8 {X : List Int} (h : X.length = 32) : (Try.prog.info? 29).map (·.size) = some (h8 X).size := by rw [h8_size, h]; exact size24

end Go.Proofs.Ytgjnbpimldjkpaa
