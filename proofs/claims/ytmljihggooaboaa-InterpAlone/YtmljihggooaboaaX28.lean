/- Tu, QVd, QVe, Je. -/
import Derived.Test.YtmljihggooaboaaX16
import Derived.Test.YtmljihggooaboaaX17
import Derived.Test.YtmljihggooaboaaX19
import Derived.Test.YtmljihggooaboaaX20
import Derived.Test.YtmljihggooaboaaX21
import Derived.Test.YtmljihggooaboaaX27
import Derived.BigQuiet
import Derived.BigRegion
import Derived.ChangeKeysEq
import Derived.Deep.DeepCutAuto
import Derived.Deep.DrawnRows
import Derived.Deep.MidRow
import Derived.Deep.QuietTactic
import Derived.Deep.RegionHeld3
import Derived.Deep.RegionLaw
import Derived.Deep.RegionWith
import Derived.Deep.WholeRow
import Derived.Laws.AppendOwnNone
import Derived.Laws.BitsLemmas
import Derived.Laws.BytesArg
import Derived.Laws.CopyOwn
import Derived.Lib.SlBytesConst
import Derived.WalkKit
import Derived.WalkLawsBesides
import Derived.WalkSpells
import Derived.DeepKeys3
import Derived.Great.BuildSlice
import Derived.Laws.ResultCell
import Derived.Laws.Tables
import Derived.LoopIn
import Derived.LoopNIn
import Derived.Maps.AppendAt
import Derived.OwnWalkIn
import Derived.RangeFuncBound
import Derived.RangeFuncCalls
import Derived.RangeFuncLeaves
import Derived.RangeFuncNested
import Derived.RangeFuncRecord
import Derived.Shelf.Abstract
import Derived.Shelf.RegionOpen
import Derived.TacticsInMore
import Derived.Test.YtmljihggooaboaaX01
import Derived.Test.YtmljihggooaboaaX22
import Derived.Test.YtmljihggooaboaaX15
import Derived.Test.YtmljihggooaboaaX23
import Derived.Handy
import Derived.Laws.MakeOwn
/- Layer interp: what the layers below give. -/
namespace Go.Proofs.Ytmljihggooaboaa
open Go.RowKit
set_option maxRecDepth 100000
set_option linter.unusedVariables false
set_option linter.unusedSimpArgs false

/-- Sum of whatever slice. -/
theorem sum_sl (sp : Option Addr) (n cap : Nat) (L : List Int) (w : World) (hn : n = L.length) (hnil : sp = none → n = 0 ∧ cap = 0) (hS : SlL w sp L) (hcap : n ≤ cap) (hb : n ≤ 140737488355328) :
    Calls Try.prog 62 #[.slice sp n cap] w fun e w' => e = .returned (.agg (sha L)) ∧ Below w.heap.size w w' := by
  by_cases h0 : 0 < L.length
  · obtain ⟨b, off, rfl, hB⟩ := hS h0
    subst hn
    exact sum_list b off cap L w hB hcap hb
  · obtain rfl : L = [] := List.eq_nil_of_length_eq_zero (by omega)
    simp only [List.length_nil] at hn
    subst hn
    have key : ∀ (e : Ending) (w' : World), (∃ C : Array Value, e = .returned (.agg C) ∧ C.size = 32 ∧ (∀ t, t < 32 → C[t]? = some (.int .u8 (outB (shaSt (bat []) 0 0) t))) ∧ Below w.heap.size w w') → e = .returned (.agg (sha [])) ∧ Below w.heap.size w w' := by
      rintro e w' ⟨C, rfl, hs, hC, hb⟩
      exact ⟨by rw [arr_eq hs hC]; rfl, hb⟩
    cases sp with
    | none =>
      obtain ⟨-, rfl⟩ := hnil rfl
      exact (sum_none (bat []) w).mono fun e w' h => key e w' h
    | some ad =>
      by_cases hc : 0 < cap
      · exact (sum_ad ad cap hc (bat []) w).mono fun e w' h => key e w' h
      · obtain rfl : cap = 0 := by omega
        exact (sum_ad0 ad (bat []) w).mono fun e w' h => key e w' h
theorem Bytes.take {w : World} {b off : Nat} {L M : List Int} (h : Bytes w b off (L ++ M).length (bat (L ++ M))) : Bytes w b off L.length (bat L) := fun t ht => by
  rw [h t (by simp; omega)]; simp [bat, List.getElem?_append_left ht]
end Go.Proofs.Ytmljihggooaboaa
/- Layer interp: what the layers below give. -/
namespace Go.Proofs.Ytmljihggooaboaa
open Go.RowKit
set_option maxRecDepth 100000
set_option linter.unusedVariables false
set_option linter.unusedSimpArgs false

/-- What stands in a word. -/
def dOp (w : Int) : Int := w / 72057594037927936
def dA (w : Int) : Int := w / 4503599627370496 % 16
def dB (w : Int) : Int := w / 281474976710656 % 16
def dC (w : Int) : Int := w / 17592186044416 % 16
def dI (w : Int) : Int := w % 4294967296
/-- Is it an instruction? -/
def dOk (w : Int) : Bool := decide (1 ≤ dOp w ∧ dOp w ≤ 25 ∧ w / 4294967296 % 4096 = 0)
/-- An instruction as it lies in memory. -/
def cdA (o a b c i : Int) : Array Value := #[.int .u8 o, .int .u8 a, .int .u8 b, .int .u8 c, .int .u32 i]
end Go.Proofs.Ytmljihggooaboaa
/- Layer interp: what the layers below give. -/
namespace Go.Proofs.Ytmljihggooaboaa
open Go.RowKit
set_option maxRecDepth 100000
set_option linter.unusedVariables false
set_option linter.unusedSimpArgs false

/-- A bool and the words beside it. -/
def dV (x : Int) : Array Value := if dOk x = true then cdA (dOp x) (dA x) (dB x) (dC x) (dI x) else cdA 0 0 0 0 0
/-- What Decode answers. -/
def DPost (x : Int) (w : World) (e : Ending) (w' : World) : Prop := e = .returned (.tuple #[.agg (dV x), .bool (dOk x)]) ∧ Below w.heap.size w w'
theorem DPost.mk' {x : Int} {w w' : World} {e : Ending} (b : Bool) (C : Array Value) (hb : dOk x = b) (hC : C = dV x) (he : e = .returned (.tuple #[.agg C, .bool b])) (hl : Below w.heap.size w w') : DPost x w e w' := by
  subst hb hC; exact ⟨he, hl⟩
theorem wrap8_of {x : Int} (h : 0 ≤ x) (h2 : x < 256) : IntKind.u8.wrap x = x := by
  simp only [IntKind.wrap, IntKind.bits, IntKind.signed]; simp; omega
theorem w32 (x : Int) : IntKind.u32.wrap x = x % 4294967296 := by simp only [IntKind.wrap, IntKind.bits, IntKind.signed]; simp
end Go.Proofs.Ytmljihggooaboaa
/- Layer interp: words of the data, and the bytes that SHash sums. -/
namespace Go.Proofs.Ytmljihggooaboaa
open Go.RowKit
set_option maxRecDepth 100000
set_option linter.unusedVariables false
set_option linter.unusedSimpArgs false

variable {gr gw n : Nat} {p0 p1 kv mv : Value} {W : List Int} {lf : Int}
theorem span_0 {x y : Int} {pv : Value} (w : World) (hy : y = 0) :
    Calls Try.prog 60 #[pv, .int .u64 x, .int .u64 y] w fun e w' => e = .returned (.slice none 0 0) ∧ w' = w := by
  subst hy
  go_enter Try.func60, Try.ntmps60
  go_wp2
  go_ret
  exact ⟨rfl, rfl⟩
theorem span_ok {k c : Nat} {x y : Int} (w : World) (hI : RunI gr gw n p0 p1 kv mv W lf w) (hx : x = (k : Int)) (hy : y = (c : Int)) (h0 : 0 < c) (hlt : k + c ≤ n) :
    Calls Try.prog 60 #[.pointer (some ⟨gr, 0, none⟩), .int .u64 x, .int .u64 y] w fun e w' => e = .returned (.slice (some ⟨gw, k, none⟩) c (n - k)) ∧ w' = w := by
  subst hx hy
  have c2 := hI.ar.cell 2
  have hn := hI.n10
  have a0 : IntKind.u64.wrap (n : Int) = n := wrap64_of (by omega) (by omega)
  have a1 : ((c : Int) == 0) = false := by simp; omega
  have a2 : ¬ (n : Int) < c := by omega
  have a3 : IntKind.u64.wrap ((n : Int) - c) = (n : Int) - c := wrap64_of (by omega) (by omega)
  have a4 : ¬ (n : Int) - c < k := by omega
  have a5 : IntKind.u64.wrap ((k : Int) + c) = ((k + c : Nat) : Int) := by rw [wrap64_of (by omega) (by omega)]; omega
  have a6 : ¬ n = k := by omega
  have a7 : ((k + c : Nat) : Int) ≤ n := by omega
  have a8 : (k : Int) ≤ ((k + c : Nat) : Int) := by omega
  have a9 : k + c - k = c := by omega
  clear hI
  go_enter Try.func60, Try.ntmps60
  go_wp2
  go_ret
  exact ⟨rfl, rfl⟩
theorem span_no {x y : Int} (w : World) (hI : RunI gr gw n p0 p1 kv mv W lf w) (hx : U64 x) (hy : U64 y) (h0 : y ≠ 0) (hlt : ¬ x + y ≤ n) :
    Calls Try.prog 60 #[.pointer (some ⟨gr, 0, none⟩), .int .u64 x, .int .u64 y] w fun e w' => e = .panicked trI ∧ w' = w := by
  have c2 := hI.ar.cell 2
  have hn := hI.n10
  have a0 : IntKind.u64.wrap (n : Int) = n := wrap64_of (by omega) (by omega)
  have h1 := hx.1
  have h2 := hx.2
  have h3 := hy.1
  have h4 := hy.2
  have a1 : (y == 0) = false := by simpa using h0
  clear hI
  by_cases h : (n : Int) < y
  · go_enter Try.func60, Try.ntmps60
    go_wp2
    exact ⟨rfl, rfl, rfl⟩
  · have a3 : IntKind.u64.wrap ((n : Int) - y) = (n : Int) - y := wrap64_of (by omega) (by omega)
    have a4 : (n : Int) - y < x := by omega
    go_enter Try.func60, Try.ntmps60
    go_wp2
    exact ⟨rfl, rfl, rfl⟩
/-- The byte ahead. -/
def tgL (i : Int) : List Int := if 256 ≤ i then [] else [i]
theorem tgL_bts {i : Int} (h : 0 ≤ i) : Bts (tgL i) := by
  unfold tgL
  split
  · exact fun x hx => by cases hx
  · intro x hx
    simp at hx
    omega
theorem tgL_len (i : Int) : (tgL i).length ≤ 1 := by unfold tgL; split <;> simp
set_option maxHeartbeats 400000 in
theorem mark_any {i : Int} (w : World) (hi : 0 ≤ i) :
    Calls Try.prog 63 #[.int .i64 i] w fun e w' => ∃ v, e = .returned v ∧ w'.ownsRow w.heap.size 5 1 v (tgL i).length (by8 (tgL i)) ∧ Below w.heap.size w w' := by
  by_cases h1 : 256 ≤ i
  · have e : tgL i = [] := by unfold tgL; rw [if_pos h1]
    rw [e]
    go_enter Try.func63, Try.ntmps63
    go_wp2
    go_ret
    exact ⟨_, rfl, World.ownsRow_nil _ _ _ _, Below.refl _ _⟩
  · have e : tgL i = [i] := by unfold tgL; rw [if_neg h1]
    rw [e]
    have a4 : IntKind.u8.wrap i = i := wrap8_of (by omega) (by omega)
    have hlit : (w.alloc (.cells #[.int .u8 i] 5)).ownsRow w.heap.size 5 1 (.slice (some ⟨w.heap.size, 0, none⟩) 1 1) 1 (by8 [i]) := World.ownsRow_lit _ _ _ (Nat.le_refl _) (by unfold maxLen; omega) rfl
    clear e
    go_enter Try.func63, Try.ntmps63
    go_wp2
    go_ret
    exact ⟨_, rfl, hlit, alloc_bel' _ _⟩
theorem fbL_len (W : Nat → Int) (s : Nat) : (fbL W s).length = s := by simp [fbL]
theorem fbL_bts (W : Nat → Int) (s : Nat) : Bts (fbL W s) := by
  intro x hx
  simp only [fbL, List.mem_map] at hx
  obtain ⟨t, -, rfl⟩ := hx
  unfold fromB
  omega
set_option maxHeartbeats 1000000 in
theorem firstBytes_any {sp : Option Addr} {c cap s : Nat} {y : Int} {W : Nat → Int} (w : World) (hy : y = (s : Int)) (hs : s ≤ 128) (hW : ∀ t, U64 (W t)) (hc : s ≤ 8 * c) (hcc : c ≤ cap) (hb : c ≤ 4096)
    (hw : 0 < c → ∃ gm k, sp = some ⟨gm, k, none⟩ ∧ gm < w.heap.size ∧ ∀ t, t < c → w.cell? ⟨gm, k + t, none⟩ = some (.int .u64 (W t))) :
    Calls Try.prog 64 #[.slice sp c cap, .int .u64 y] w fun e w' => ∃ v, e = .returned v ∧ w'.ownsRow w.heap.size 5 1 v s (by8 (fbL W s)) ∧ Below w.heap.size w w' := by
  subst hy
  obtain ⟨i0, hi, hz0, hz1, hz2⟩ := info_parts info5
  go_enter Try.func64, Try.ntmps64
  go_wp2_with (at_make; go_must (refine wpList_make_own _ (by rfl) (.const (.int .i64 0)) (.tmp 7) 53 (by rfl) w.heap.size 5 i0 (.int .u8 0) 1 Try.underlying53 hi hz0 hz1 .i64 .u64 _ s (by rfl) (by rfl) (by omega) (by rw [hz2]; omega) (Nat.le_trans (by omega) maxLen_ge) (Nat.le_refl _) ?_; intro w1 hown1 hg1))
  have hB1 : Below w.heap.size w w1 := (Below.refl _ _).grown hg1 (Nat.le_refl _) (fun k e => by cases e)
  go_loopw [5, 10] (fun v q wr => ∃ (k : Nat), q = .int .u64 (k : Int) ∧ k ≤ s ∧ wr.ownsRow w.heap.size 5 1 v k (by8 (fbL W k)) ∧ Below w.heap.size w wr)
    (fun _ q _ => s - (intOf q).toNat)
  case atStart => exact ⟨0, rfl, by omega, hown1, hB1⟩
  case round =>
    clear hown1 hB1 hg1
    obtain ⟨k, rfl, hk, hown, hbl⟩ := hrel
    by_cases hlt : k < s
    · have hI : (k : Int) < s := by omega
      obtain ⟨gm, o, rfl, hgl, hcell⟩ := hw (by omega)
      have hcl : wr.cell? ⟨gm, o + k / 8, none⟩ = some (.int .u64 (W (k / 8))) := (hbl.cell (p := ⟨gm, o + k / 8, none⟩) hgl).trans (hcell (k / 8) (by omega))
      have hki : ((k : Int) / 8) < c := by omega
      have hkn : ((k : Int) / 8).toNat = k / 8 := by omega
      have hU := hW (k / 8)
      have hU1 := hU.1
      have hU2 := hU.2
      have m8 : (k : Int) % 8 < 8 := by omega
      have m0 : 0 ≤ (k : Int) % 8 := by omega
      have e2 : (56 - 8 * ((k : Int) % 8)).toNat = 56 - 8 * (k % 8) := by omega
      go_upto_region 6 with (at_builtin; go_must (refine append_bytes (by rfl) (.tmp 13) (.tmp 25) (by rfl) w.heap.size _ k (fbL W k) (by rfl) (hown.alloc _) (some ⟨wr.heap.size, 0, none⟩) 1 1 [fromB W k] (by rfl) (by rfl) (fun h => by cases h) (Arr.sl (Arr.new wr 5 _)) (by omega) (by have := hbl.size; simp; omega) ?_; intro v3 w3 hown3 hg3))
      have hB3 : Below w.heap.size w w3 := (hbl.alloc hbl.size _).grown hg3 (by have := hbl.size; simp; omega) (fun k e => own_ge hown k e)
      go_wp2_with fail
      go_roundw
      case rel => exact ⟨k + 1, by go_num, by omega, by rw [← fbL_succ]; exact hown3, hB3⟩
      case measure => simp [intOf]; omega
    · obtain rfl : k = s := by omega
      go_wp2_with fail
      go_ret
      exact ⟨_, rfl, hown, hbl⟩
end Go.Proofs.Ytmljihggooaboaa
