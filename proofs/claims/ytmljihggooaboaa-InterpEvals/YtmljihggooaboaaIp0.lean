/- Layer interp: the law's own program. -/
import Derived.Test.YtmljihggooaboaaIn
import Derived.Test.YtmljihggooaboaaIo
import Derived.Handy
import Derived.BigQuiet
import Derived.BigRegion
namespace Go.Proofs.Ytmljihggooaboaa
open Go.RowKit
set_option maxRecDepth 100000
set_option linter.unusedVariables false
set_option linter.unusedSimpArgs false

def eC (n : Int) : ExT 8 := (⟨1, n, 0, 0, []⟩ : ExN (ExT 7))
def eV : ExT 8 := (⟨2, 0, 0, 0, []⟩ : ExN (ExT 7))
def sA1 : StT 8 := (⟨1, 0, 0, 0, [eC 8], [], []⟩ : StN (StT 7))
def sA2 : StT 8 := (⟨2, 0, 0, 0, [eC 0, eV], [], []⟩ : StN (StT 7))
def fA : FuT := ⟨0, 1, [sA1, sA2]⟩
def pA : PgT := ⟨[fA], 4⟩
def SA (j : Nat) : SS := if j = 0 then ⟨[0, 0, 0, 0], [0], 99⟩ else if j = 1 then ⟨[0, 0, 0, 0], [8], 98⟩ else ⟨[8, 0, 0, 0], [8], 97⟩
theorem mayA : (pgN pA).isSome = true := by rfl
theorem okA1 : okS [] 1 8 sA1 := ⟨4096, 4094, by rfl⟩
theorem okA2 : okS [] 1 8 sA2 := ⟨4096, 4093, by rfl⟩
theorem evA1 : evs [0, 0, 0, 0] [0] 8 [eC 8] = some [8] := by rfl
theorem evA2 : evs [0, 0, 0, 0] [8] 8 [eC 0, eV] = some [0, 8] := by rfl
theorem stA {N gr gw : Nat} {p0 p1 kv mv : Value} (gv j : Nat) (t : StT 8) (u : World) (cs : List Value) (ht : fA.b[j]? = some t) (hN : N ≤ u.heap.size) (hI : StI N gr gw 4 p0 p1 kv mv gv 1 (SA j).W (SA j).V (SA j).lf u) (hM : StM N u 8 cs t) :
    Calls Try.prog 35 (stArgs gr gv 1 cs) u (StP N gr gw 4 p0 p1 kv mv gv 1 ⟨0, 0, SA (j + 1)⟩ u) := by
  match j, ht with
  | 0, ht =>
    obtain rfl : sA1 = t := Option.some.inj ht
    exact stmt_set (k := 98) (ps := []) (x := 8) u hN hI (by omega) hM okA1 (fun p hp => by cases hp) rfl evA1 (by simp [U64])
  | 1, ht =>
    obtain rfl : sA2 = t := Option.some.inj ht
    exact stmt_store (k := 97) (ps := []) (x := 8) (q := 0) u hN hI (by omega) hM okA2 (fun p hp => by cases hp) rfl evA2 (by simp [U64]) (by omega)
  | j + 2, ht => cases ht
/-- The anchor's program as it lies. -/
def wA (w : World) : World := (((w.alloc (.cells #[.int .u8 1, .int .u64 8, .int .i64 0, .int .u8 0, .slice none 0 0] 76)).alloc (.cells #[.int .u8 1, .int .u64 0, .int .i64 0, .int .u8 0, .slice none 0 0, .int .u8 2, .int .u64 0, .int .i64 0, .int .u8 0, .slice none 0 0] 76)).alloc (.cells #[.int .u8 1, .int .i64 0, .int .i64 0, .int .i64 0, .slice (some ⟨w.heap.size, 0, none⟩) 1 1, .slice none 0 0, .slice none 0 0, .int .u8 2, .int .i64 0, .int .i64 0, .int .i64 0, .slice (some ⟨w.heap.size + 1, 0, none⟩) 2 2, .slice none 0 0, .slice none 0 0] 78)).alloc (.cells #[.int .i64 0, .int .i64 1, .slice (some ⟨w.heap.size + 1 + 1, 0, none⟩) 2 2] 52)
theorem rngA {w : World} {g ty : Nat} {C : Array Value} (h : Arr w g ty C) (off : Nat) (cs : List Value) (hc : ∀ j v, cs[j]? = some v → C[off + j]? = some v) : w.rangeAt g off cs := fun j v hv => (h.cell _).trans (hc j v hv)
theorem exA {N : Nat} {w : World} (k n : Int) (hk : U8 k) (hn : U64 n) : ExM N w 8 (exC k n 0 0 (.slice none 0 0)) (⟨k, n, 0, 0, []⟩ : ExN (ExT 7)) :=
  ⟨none, 0, 0, rfl, ⟨hk, hn, (show I64 0 by simp [I64]), (show U8 0 by simp [U8])⟩, RS.nil0 _ _ _ _⟩
theorem pgA (w : World) : PgM (w.heap.size + 4) (wA w) [.slice (some ⟨w.heap.size + 1 + 1 + 1, 0, none⟩) 1 1, .int .i64 4] pA := by
  have A0 := (((Arr.new w 76 #[.int .u8 1, .int .u64 8, .int .i64 0, .int .u8 0, .slice none 0 0]).alloc (.cells #[.int .u8 1, .int .u64 0, .int .i64 0, .int .u8 0, .slice none 0 0, .int .u8 2, .int .u64 0, .int .i64 0, .int .u8 0, .slice none 0 0] 76)).alloc (.cells #[.int .u8 1, .int .i64 0, .int .i64 0, .int .i64 0, .slice (some ⟨w.heap.size, 0, none⟩) 1 1, .slice none 0 0, .slice none 0 0, .int .u8 2, .int .i64 0, .int .i64 0, .int .i64 0, .slice (some ⟨w.heap.size + 1, 0, none⟩) 2 2, .slice none 0 0, .slice none 0 0] 78)).alloc (.cells #[.int .i64 0, .int .i64 1, .slice (some ⟨w.heap.size + 1 + 1, 0, none⟩) 2 2] 52)
  have A1 := ((Arr.new (w.alloc (.cells #[.int .u8 1, .int .u64 8, .int .i64 0, .int .u8 0, .slice none 0 0] 76)) 76 #[.int .u8 1, .int .u64 0, .int .i64 0, .int .u8 0, .slice none 0 0, .int .u8 2, .int .u64 0, .int .i64 0, .int .u8 0, .slice none 0 0]).alloc (.cells #[.int .u8 1, .int .i64 0, .int .i64 0, .int .i64 0, .slice (some ⟨w.heap.size, 0, none⟩) 1 1, .slice none 0 0, .slice none 0 0, .int .u8 2, .int .i64 0, .int .i64 0, .int .i64 0, .slice (some ⟨w.heap.size + 1, 0, none⟩) 2 2, .slice none 0 0, .slice none 0 0] 78)).alloc (.cells #[.int .i64 0, .int .i64 1, .slice (some ⟨w.heap.size + 1 + 1, 0, none⟩) 2 2] 52)
  have A2 := (Arr.new ((w.alloc (.cells #[.int .u8 1, .int .u64 8, .int .i64 0, .int .u8 0, .slice none 0 0] 76)).alloc (.cells #[.int .u8 1, .int .u64 0, .int .i64 0, .int .u8 0, .slice none 0 0, .int .u8 2, .int .u64 0, .int .i64 0, .int .u8 0, .slice none 0 0] 76)) 78 #[.int .u8 1, .int .i64 0, .int .i64 0, .int .i64 0, .slice (some ⟨w.heap.size, 0, none⟩) 1 1, .slice none 0 0, .slice none 0 0, .int .u8 2, .int .i64 0, .int .i64 0, .int .i64 0, .slice (some ⟨w.heap.size + 1, 0, none⟩) 2 2, .slice none 0 0, .slice none 0 0]).alloc (.cells #[.int .i64 0, .int .i64 1, .slice (some ⟨w.heap.size + 1 + 1, 0, none⟩) 2 2] 52)
  have A3 := Arr.new (((w.alloc (.cells #[.int .u8 1, .int .u64 8, .int .i64 0, .int .u8 0, .slice none 0 0] 76)).alloc (.cells #[.int .u8 1, .int .u64 0, .int .i64 0, .int .u8 0, .slice none 0 0, .int .u8 2, .int .u64 0, .int .i64 0, .int .u8 0, .slice none 0 0] 76)).alloc (.cells #[.int .u8 1, .int .i64 0, .int .i64 0, .int .i64 0, .slice (some ⟨w.heap.size, 0, none⟩) 1 1, .slice none 0 0, .slice none 0 0, .int .u8 2, .int .i64 0, .int .i64 0, .int .i64 0, .slice (some ⟨w.heap.size + 1, 0, none⟩) 2 2, .slice none 0 0, .slice none 0 0] 78)) 52 #[.int .i64 0, .int .i64 1, .slice (some ⟨w.heap.size + 1 + 1, 0, none⟩) 2 2]
  simp only [World.size_alloc] at A1 A2 A3
  have hU8 : ∀ x : Int, x = 1 ∨ x = 2 → U8 x := fun x h => by unfold U8; omega
  have x0 : RS (w.heap.size + 4) (wA w) 5 (ExM (w.heap.size + 4) (wA w) 8) (some ⟨w.heap.size, 0, none⟩) 1 1 [eC 8] :=
    ⟨rfl, (fun h => by cases h), by omega, by omega, by omega, fun _ => ⟨_, _, rfl, by omega, fun i a ha => by
      match i, ha with
      | 0, ha =>
        obtain rfl : eC 8 = a := Option.some.inj ha
        exact ⟨exC 1 8 0 0 (.slice none 0 0), rngA A0 _ _ (fun j v hv => by simpa [exC] using hv), exA 1 8 (hU8 1 (.inl rfl)) (by simp [U64])⟩
      | i + 1, ha => cases ha⟩⟩
  have x1 : RS (w.heap.size + 4) (wA w) 5 (ExM (w.heap.size + 4) (wA w) 8) (some ⟨w.heap.size + 1, 0, none⟩) 2 2 [eC 0, eV] :=
    ⟨rfl, (fun h => by cases h), by omega, by omega, by omega, fun _ => ⟨_, _, rfl, by omega, fun i a ha => by
      match i, ha with
      | 0, ha =>
        obtain rfl : eC 0 = a := Option.some.inj ha
        exact ⟨exC 1 0 0 0 (.slice none 0 0), rngA A1 _ _ (fun j v hv => by
          match j, hv with
          | 0, hv => exact hv
          | 1, hv => exact hv
          | 2, hv => exact hv
          | 3, hv => exact hv
          | 4, hv => exact hv
          | j + 5, hv => cases hv), exA 1 0 (hU8 1 (.inl rfl)) (by simp [U64])⟩
      | 1, ha =>
        obtain rfl : eV = a := Option.some.inj ha
        exact ⟨exC 2 0 0 0 (.slice none 0 0), rngA A1 _ _ (fun j v hv => by
          match j, hv with
          | 0, hv => exact hv
          | 1, hv => exact hv
          | 2, hv => exact hv
          | 3, hv => exact hv
          | 4, hv => exact hv
          | j + 5, hv => cases hv), exA 2 0 (hU8 2 (.inr rfl)) (by simp [U64])⟩
      | i + 2, ha => cases ha⟩⟩
  have x2 : RS (w.heap.size + 4) (wA w) 7 (StM (w.heap.size + 4) (wA w) 8) (some ⟨w.heap.size + 1 + 1, 0, none⟩) 2 2 [sA1, sA2] :=
    ⟨rfl, (fun h => by cases h), by omega, by omega, by omega, fun _ => ⟨_, _, rfl, by omega, fun i a ha => by
      match i, ha with
      | 0, ha =>
        obtain rfl : sA1 = a := Option.some.inj ha
        exact ⟨stC 1 0 0 0 (.slice (some ⟨w.heap.size, 0, none⟩) 1 1) (.slice none 0 0) (.slice none 0 0), rngA A2 _ _ (fun j v hv => by
          match j, hv with
          | 0, hv => exact hv
          | 1, hv => exact hv
          | 2, hv => exact hv
          | 3, hv => exact hv
          | 4, hv => exact hv
          | 5, hv => exact hv
          | 6, hv => exact hv
          | j + 7, hv => cases hv), ⟨_, _, _, _, _, _, _, _, _, rfl, ⟨hU8 1 (.inl rfl), (show I64 0 by simp [I64]), (show I64 0 by simp [I64]), (show I64 0 by simp [I64])⟩, x0, RS.nil0 _ _ _ _, RS.nil0 _ _ _ _⟩⟩
      | 1, ha =>
        obtain rfl : sA2 = a := Option.some.inj ha
        exact ⟨stC 2 0 0 0 (.slice (some ⟨w.heap.size + 1, 0, none⟩) 2 2) (.slice none 0 0) (.slice none 0 0), rngA A2 _ _ (fun j v hv => by
          match j, hv with
          | 0, hv => exact hv
          | 1, hv => exact hv
          | 2, hv => exact hv
          | 3, hv => exact hv
          | 4, hv => exact hv
          | 5, hv => exact hv
          | 6, hv => exact hv
          | j + 7, hv => cases hv), ⟨_, _, _, _, _, _, _, _, _, rfl, ⟨hU8 2 (.inr rfl), (show I64 0 by simp [I64]), (show I64 0 by simp [I64]), (show I64 0 by simp [I64])⟩, x1, RS.nil0 _ _ _ _, RS.nil0 _ _ _ _⟩⟩
      | i + 2, ha => cases ha⟩⟩
  exact ⟨_, _, _, rfl, by simp [I64, pA], ⟨rfl, (fun h => by cases h), by omega, by omega, by omega, fun _ => ⟨_, _, rfl, by omega, fun i a ha => by
      match i, ha with
      | 0, ha =>
        obtain rfl : fA = a := Option.some.inj ha
        exact ⟨fuC 0 1 (.slice (some ⟨w.heap.size + 1 + 1, 0, none⟩) 2 2), rngA A3 _ _ (fun j v hv => by
          match j, hv with
          | 0, hv => exact hv
          | 1, hv => exact hv
          | 2, hv => exact hv
          | j + 3, hv => cases hv), ⟨_, _, _, rfl, by simp [I64, fA], x2⟩⟩
      | i + 1, ha => cases ha⟩⟩⟩
theorem runA (w : World) (u : World) (hb : Below (wA w).heap.size (wA w) u) : Calls Try.prog 7 #[.agg #[.slice (some ⟨w.heap.size + 1 + 1 + 1, 0, none⟩) 1 1, .int .i64 4], .slice none 0 0, .slice none 0 0, .int .i64 99] u fun e w' => ∃ gw, e = .returned (.tuple #[.agg #[.int .u8 1, .int .u64 0, .slice (some ⟨gw, 0, none⟩) 4 4, .int .i64 2], .int .i64 0]) ∧ Arr w' gw 30 (uA [8, 0, 0, 0]) ∧ u.heap.size ≤ gw ∧ Below u.heap.size u w' := by
  have hs : w.heap.size + 4 ≤ u.heap.size := by have := hb.size; unfold wA at this; simp at this; omega
  have hM := PgM.below (hb.mono (by unfold wA; simp)) _ pA (pgA w)
  exact run_on (m := 2) (lf := 99) (nv := 1) (l := []) SA u hs hM mayA rfl rfl (by omega) (by omega) rfl (by decide) rfl (fun gr gw p0 p1 kv mv gv j t u cs ht hN hI hM => stA gv j t u cs ht hN hI hM)
end Go.Proofs.Ytmljihggooaboaa
