/- QVd, QVe, Je, Jf. -/
import Derived.Test.YtmljihggooaboaaW11
import Derived.BigQuiet
import Derived.BigRegion
import Derived.ChangeKeysEq
import Derived.Deep.DeepCutAuto
import Derived.Deep.DrawnRows
import Derived.Deep.MidRow
import Derived.Deep.QuietTactic
import Derived.Deep.RegionHeld3
import Derived.Deep.RegionLaw
import Derived.Deep.RegionWith
import Derived.Deep.WholeRow
import Derived.DeepKeys3
import Derived.Great.BuildSlice
import Derived.Laws.AppendOwnNone
import Derived.Laws.BitsLemmas
import Derived.Laws.BytesArg
import Derived.Laws.CopyOwn
import Derived.Laws.ResultCell
import Derived.Laws.Tables
import Derived.Lib.SlBytesConst
import Derived.LoopIn
import Derived.LoopNIn
import Derived.Maps.AppendAt
import Derived.OwnWalkIn
import Derived.RangeFuncBound
import Derived.RangeFuncCalls
import Derived.RangeFuncLeaves
import Derived.RangeFuncNested
import Derived.RangeFuncRecord
import Derived.Shelf.Abstract
import Derived.Shelf.RegionOpen
import Derived.TacticsInMore
import Derived.WalkKit
import Derived.WalkLawsBesides
import Derived.WalkSpells
import Derived.Test.YtmljihggooaboaaW12
import Derived.Test.YtmljihggooaboaaW01
import Derived.Test.YtmljihggooaboaaW14
import Derived.Test.YtmljihggooaboaaW15
import Derived.Test.YtmljihggooaboaaW17
import Derived.Test.YtmljihggooaboaaW13
import Derived.Handy
import Derived.Laws.MakeOwn
/- Layer interp: what the layers below give. -/
namespace Go.Proofs.Ytmljihggooaboaa
open Go.RowKit
set_option maxRecDepth 100000
set_option linter.unusedVariables false
set_option linter.unusedSimpArgs false

/-- What stands in a word. -/
def dOp (w : Int) : Int := w / 72057594037927936
def dA (w : Int) : Int := w / 4503599627370496 % 16
def dB (w : Int) : Int := w / 281474976710656 % 16
def dC (w : Int) : Int := w / 17592186044416 % 16
def dI (w : Int) : Int := w % 4294967296
/-- Is it an instruction? -/
def dOk (w : Int) : Bool := decide (1 ≤ dOp w ∧ dOp w ≤ 25 ∧ w / 4294967296 % 4096 = 0)
/-- An instruction as it lies in memory. -/
def cdA (o a b c i : Int) : Array Value := #[.int .u8 o, .int .u8 a, .int .u8 b, .int .u8 c, .int .u32 i]
end Go.Proofs.Ytmljihggooaboaa
/- Layer interp: what the layers below give. -/
namespace Go.Proofs.Ytmljihggooaboaa
open Go.RowKit
set_option maxRecDepth 100000
set_option linter.unusedVariables false
set_option linter.unusedSimpArgs false

/-- A bool and the words beside it. -/
def dV (x : Int) : Array Value := if dOk x = true then cdA (dOp x) (dA x) (dB x) (dC x) (dI x) else cdA 0 0 0 0 0
/-- What Decode answers. -/
def DPost (x : Int) (w : World) (e : Ending) (w' : World) : Prop := e = .returned (.tuple #[.agg (dV x), .bool (dOk x)]) ∧ Below w.heap.size w w'
theorem DPost.mk' {x : Int} {w w' : World} {e : Ending} (b : Bool) (C : Array Value) (hb : dOk x = b) (hC : C = dV x) (he : e = .returned (.tuple #[.agg C, .bool b])) (hl : Below w.heap.size w w') : DPost x w e w' := by
  subst hb hC; exact ⟨he, hl⟩
theorem wrap8_of {x : Int} (h : 0 ≤ x) (h2 : x < 256) : IntKind.u8.wrap x = x := by
  simp only [IntKind.wrap, IntKind.bits, IntKind.signed]; simp; omega
theorem w32 (x : Int) : IntKind.u32.wrap x = x % 4294967296 := by simp only [IntKind.wrap, IntKind.bits, IntKind.signed]; simp
end Go.Proofs.Ytmljihggooaboaa
/- Layer interp: words of the data, and the bytes that SHash sums. -/
namespace Go.Proofs.Ytmljihggooaboaa
open Go.RowKit
set_option maxRecDepth 100000
set_option linter.unusedVariables false
set_option linter.unusedSimpArgs false

variable {gr gw n : Nat} {p0 p1 kv mv : Value} {W : List Int} {lf : Int}
theorem span_0 {x y : Int} {pv : Value} (w : World) (hy : y = 0) :
    Calls Try.prog 60 #[pv, .int .u64 x, .int .u64 y] w fun e w' => e = .returned (.slice none 0 0) ∧ w' = w := by
  subst hy
  go_enter Try.func60, Try.ntmps60
  go_wp2
  go_ret
  exact ⟨rfl, rfl⟩
theorem span_ok {k c : Nat} {x y : Int} (w : World) (hI : RunI gr gw n p0 p1 kv mv W lf w) (hx : x = (k : Int)) (hy : y = (c : Int)) (h0 : 0 < c) (hlt : k + c ≤ n) :
    Calls Try.prog 60 #[.pointer (some ⟨gr, 0, none⟩), .int .u64 x, .int .u64 y] w fun e w' => e = .returned (.slice (some ⟨gw, k, none⟩) c (n - k)) ∧ w' = w := by
  subst hx hy
  have c2 := hI.ar.cell 2
  have hn := hI.n10
  have a0 : IntKind.u64.wrap (n : Int) = n := wrap64_of (by omega) (by omega)
  have a1 : ((c : Int) == 0) = false := by simp; omega
  have a2 : ¬ (n : Int) < c := by omega
  have a3 : IntKind.u64.wrap ((n : Int) - c) = (n : Int) - c := wrap64_of (by omega) (by omega)
  have a4 : ¬ (n : Int) - c < k := by omega
  have a5 : IntKind.u64.wrap ((k : Int) + c) = ((k + c : Nat) : Int) := by rw [wrap64_of (by omega) (by omega)]; omega
  have a6 : ¬ n = k := by omega
  have a7 : ((k + c : Nat) : Int) ≤ n := by omega
  have a8 : (k : Int) ≤ ((k + c : Nat) : Int) := by omega
  have a9 : k + c - k = c := by omega
  clear hI
  go_enter Try.func60, Try.ntmps60
  go_wp2
  go_ret
  exact ⟨rfl, rfl⟩
theorem span_no {x y : Int} (w : World) (hI : RunI gr gw n p0 p1 kv mv W lf w) (hx : U64 x) (hy : U64 y) (h0 : y ≠ 0) (hlt : ¬ x + y ≤ n) :
    Calls Try.prog 60 #[.pointer (some ⟨gr, 0, none⟩), .int .u64 x, .int .u64 y] w fun e w' => e = .panicked trI ∧ w' = w := by
  have c2 := hI.ar.cell 2
  have hn := hI.n10
  have a0 : IntKind.u64.wrap (n : Int) = n := wrap64_of (by omega) (by omega)
  have h1 := hx.1
  have h2 := hx.2
  have h3 := hy.1
  have h4 := hy.2
  have a1 : (y == 0) = false := by simpa using h0
  clear hI
  by_cases h : (n : Int) < y
  · go_enter Try.func60, Try.ntmps60
    go_wp2
    exact ⟨rfl, rfl, rfl⟩
  · have a3 : IntKind.u64.wrap ((n : Int) - y) = (n : Int) - y := wrap64_of (by omega) (by omega)
    have a4 : (n : Int) - y < x := by omega
    go_enter Try.func60, Try.ntmps60
    go_wp2
    exact ⟨rfl, rfl, rfl⟩
/-- The byte ahead. -/
def tgL (i : Int) : List Int := if 256 ≤ i then [] else [i]
theorem tgL_bts {i : Int} (h : 0 ≤ i) : Bts (tgL i) := by
  unfold tgL
  split
  · exact fun x hx => by cases hx
  · intro x hx
    simp at hx
    omega
theorem tgL_len (i : Int) : (tgL i).length ≤ 1 := by unfold tgL; split <;> simp
set_option maxHeartbeats 400000 in
theorem mark_any {i : Int} (w : World) (hi : 0 ≤ i) :
    Calls Try.prog 63 #[.int .i64 i] w fun e w' => ∃ v, e = .returned v ∧ w'.ownsRow w.heap.size 5 1 v (tgL i).length (by8 (tgL i)) ∧ Below w.heap.size w w' := by
  by_cases h1 : 256 ≤ i
  · have e : tgL i = [] := by unfold tgL; rw [if_pos h1]
    rw [e]
    go_enter Try.func63, Try.ntmps63
    go_wp2
    go_ret
    exact ⟨_, rfl, World.ownsRow_nil _ _ _ _, Below.refl _ _⟩
  · have e : tgL i = [i] := by unfold tgL; rw [if_neg h1]
    rw [e]
    have a4 : IntKind.u8.wrap i = i := wrap8_of (by omega) (by omega)
    have hlit : (w.alloc (.cells #[.int .u8 i] 5)).ownsRow w.heap.size 5 1 (.slice (some ⟨w.heap.size, 0, none⟩) 1 1) 1 (by8 [i]) := World.ownsRow_lit _ _ _ (Nat.le_refl _) (by unfold maxLen; omega) rfl
    clear e
    go_enter Try.func63, Try.ntmps63
    go_wp2
    go_ret
    exact ⟨_, rfl, hlit, alloc_bel' _ _⟩
theorem fbL_len (W : Nat → Int) (s : Nat) : (fbL W s).length = s := by simp [fbL]
theorem fbL_bts (W : Nat → Int) (s : Nat) : Bts (fbL W s) := by
  intro x hx
  simp only [fbL, List.mem_map] at hx
  obtain ⟨t, -, rfl⟩ := hx
  unfold fromB
  omega
set_option maxHeartbeats 1000000 in
theorem firstBytes_any {sp : Option Addr} {c cap s : Nat} {y : Int} {W : Nat → Int} (w : World) (hy : y = (s : Int)) (hs : s ≤ 128) (hW : ∀ t, U64 (W t)) (hc : s ≤ 8 * c) (hcc : c ≤ cap) (hb : c ≤ 4096)
    (hw : 0 < c → ∃ gm k, sp = some ⟨gm, k, none⟩ ∧ gm < w.heap.size ∧ ∀ t, t < c → w.cell? ⟨gm, k + t, none⟩ = some (.int .u64 (W t))) :
    Calls Try.prog 64 #[.slice sp c cap, .int .u64 y] w fun e w' => ∃ v, e = .returned v ∧ w'.ownsRow w.heap.size 5 1 v s (by8 (fbL W s)) ∧ Below w.heap.size w w' := by
  subst hy
  obtain ⟨i0, hi, hz0, hz1, hz2⟩ := info_parts info5
  go_enter Try.func64, Try.ntmps64
  go_wp2_with (at_make; go_must (refine wpList_make_own _ (by rfl) (.const (.int .i64 0)) (.tmp 7) 53 (by rfl) w.heap.size 5 i0 (.int .u8 0) 1 Try.underlying53 hi hz0 hz1 .i64 .u64 _ s (by rfl) (by rfl) (by omega) (by rw [hz2]; omega) (Nat.le_trans (by omega) maxLen_ge) (Nat.le_refl _) ?_; intro w1 hown1 hg1))
  have hB1 : Below w.heap.size w w1 := (Below.refl _ _).grown hg1 (Nat.le_refl _) (fun k e => by cases e)
  go_loopw [5, 10] (fun v q wr => ∃ (k : Nat), q = .int .u64 (k : Int) ∧ k ≤ s ∧ wr.ownsRow w.heap.size 5 1 v k (by8 (fbL W k)) ∧ Below w.heap.size w wr)
    (fun _ q _ => s - (intOf q).toNat)
  case atStart => exact ⟨0, rfl, by omega, hown1, hB1⟩
  case round =>
    clear hown1 hB1 hg1
    obtain ⟨k, rfl, hk, hown, hbl⟩ := hrel
    by_cases hlt : k < s
    · have hI : (k : Int) < s := by omega
      obtain ⟨gm, o, rfl, hgl, hcell⟩ := hw (by omega)
      have hcl : wr.cell? ⟨gm, o + k / 8, none⟩ = some (.int .u64 (W (k / 8))) := (hbl.cell (p := ⟨gm, o + k / 8, none⟩) hgl).trans (hcell (k / 8) (by omega))
      have hki : ((k : Int) / 8) < c := by omega
      have hkn : ((k : Int) / 8).toNat = k / 8 := by omega
      have hU := hW (k / 8)
      have hU1 := hU.1
      have hU2 := hU.2
      have m8 : (k : Int) % 8 < 8 := by omega
      have m0 : 0 ≤ (k : Int) % 8 := by omega
      have e2 : (56 - 8 * ((k : Int) % 8)).toNat = 56 - 8 * (k % 8) := by omega
      go_upto_region 6 with (at_builtin; go_must (refine append_bytes (by rfl) (.tmp 13) (.tmp 25) (by rfl) w.heap.size _ k (fbL W k) (by rfl) (hown.alloc _) (some ⟨wr.heap.size, 0, none⟩) 1 1 [fromB W k] (by rfl) (by rfl) (fun h => by cases h) (Arr.sl (Arr.new wr 5 _)) (by omega) (by have := hbl.size; simp; omega) ?_; intro v3 w3 hown3 hg3))
      have hB3 : Below w.heap.size w w3 := (hbl.alloc hbl.size _).grown hg3 (by have := hbl.size; simp; omega) (fun k e => own_ge hown k e)
      go_wp2_with fail
      go_roundw
      case rel => exact ⟨k + 1, by go_num, by omega, by rw [← fbL_succ]; exact hown3, hB3⟩
      case measure => simp [intOf]; omega
    · obtain rfl : k = s := by omega
      go_wp2_with fail
      go_ret
      exact ⟨_, rfl, hown, hbl⟩
end Go.Proofs.Ytmljihggooaboaa
/- Layer interp: what SHash does. -/
namespace Go.Proofs.Ytmljihggooaboaa
open Go.RowKit
set_option maxRecDepth 100000
set_option linter.unusedVariables false
set_option linter.unusedSimpArgs false

def four (W : Nat → Int) : List Value := [.int .u64 (W 0), .int .u64 (W 1), .int .u64 (W 2), .int .u64 (W 3)]
theorem four_get (W : Nat → Int) : ∀ t, t < 4 → (four W).toArray[t]? = some (.int .u64 (W t)) := fun t ht => by
  match t, ht with
  | 0, _ => rfl
  | 1, _ => rfl
  | 2, _ => rfl
  | 3, _ => rfl
theorem four_one (W : Nat → Int) : ∀ v ∈ four W, v.oneCell' = true := by simp [four, Value.oneCell']
theorem wordsOf_four (L : List Int) : wordsOf (shaB (bat L) L.length) = (four (wsu L)).toArray := by
  apply Array.ext_getElem?
  intro t
  by_cases h : t < 4
  · rw [four_get _ t h]; exact u64s_get h
  · rw [Array.getElem?_eq_none (by rw [wordsOf, u64s_size]; omega), Array.getElem?_eq_none (by show 4 ≤ _; omega)]
theorem outB_range (s : St) (t : Nat) : 0 ≤ outB s t ∧ outB s t ≤ 255 := by unfold outB; omega
theorem shaB_range (B : Nat → Int) (n t : Nat) : 0 ≤ shaB B n t ∧ shaB B n t ≤ 255 := outB_range _ _
theorem wsu_u (L : List Int) {j : Nat} (hj : j < 4) : U64 (wsu L j) := by
  have := wacc_range (H := shaB (bat L) L.length) (fun t _ => shaB_range _ _ t) hj 8 (Nat.le_refl _)
  have e : (256 : Int) ^ 8 = 18446744073709551616 := by decide
  rw [e] at this
  exact this
theorem put4_len (L : List Int) (a : Nat) (W : Nat → Int) : (put4 L a W).length = L.length := by simp [put4]
theorem uA_put4 {L : List Int} {a : Nat} {W : Nat → Int} (h : a + 4 ≤ L.length) : (splice (uA L).toList a (four W)).toArray = uA (put4 L a W) := by
  rw [put4, ← uA_set, ← uA_set, ← uA_set, ← uA_set]
  apply Array.ext_getElem?
  intro t
  rw [List.getElem?_toArray, splice]
  have hs := uA_size L
  have ht0 : ((uA L).toList.take a).length = a := by rw [List.length_take, Array.length_toList]; omega
  simp only [Array.getElem?_setIfInBounds, Array.size_setIfInBounds, hs]
  by_cases h1 : t < a
  · rw [List.getElem?_append_left (by rw [ht0]; exact h1), List.getElem?_take_of_lt h1, Array.getElem?_toList, if_neg (by omega), if_neg (by omega), if_neg (by omega), if_neg (by omega)]
  · rw [List.getElem?_append_right (by rw [ht0]; omega), ht0]
    by_cases h2 : t < a + 4
    · rw [List.getElem?_append_left (by show _ < 4; omega)]
      obtain ⟨q, rfl⟩ : ∃ q, t = a + q := ⟨t - a, by omega⟩
      rw [show a + q - a = q by omega]
      have hq : q < 4 := by omega
      match q, hq with
      | 0, _ => simp [four]; omega
      | 1, _ => simp [four]; omega
      | 2, _ => simp [four]; omega
      | 3, _ => simp [four]; omega
    · rw [List.getElem?_append_right (by show 4 ≤ _; omega), List.getElem?_drop, Array.getElem?_toList, if_neg (by omega), if_neg (by omega), if_neg (by omega), if_neg (by omega)]
      congr 1
      show a + 4 + (t - a - 4) = t
      omega
theorem mem_put4 {L : List Int} {a : Nat} {W : Nat → Int} (hL : ∀ x ∈ L, U64 x) (hW : ∀ j, j < 4 → U64 (W j)) : ∀ x ∈ put4 L a W, U64 x := by
  have st : ∀ (M : List Int) (j : Nat) (y : Int), (∀ x ∈ M, U64 x) → U64 y → ∀ x ∈ M.set j y, U64 x := fun M j y h1 h2 x hx => by
    rcases List.mem_or_eq_of_mem_set hx with h | h
    · exact h1 x h
    · rw [h]; exact h2
  exact st _ _ _ (st _ _ _ (st _ _ _ (st _ _ _ hL (hW 0 (by omega))) (hW 1 (by omega))) (hW 2 (by omega))) (hW 3 (by omega))
theorem own_bel {w w' : World} {b e s n : Nat} {v : Value} {xs : List Value} (h : w.ownsRow b e s v n xs) (hb : Below w.heap.size w w') : w'.ownsRow b e s v n xs := by
  obtain ⟨hl, h' | ⟨g, cap, cur, e1, hg, hh, r⟩⟩ := h
  · exact ⟨hl, .inl h'⟩
  · exact ⟨hl, .inr ⟨g, cap, cur, e1, hg, (hb.block g (Array.getElem?_eq_some_iff.1 hh).1).trans hh, r⟩⟩
theorem btsApp {L M : List Int} (h : Bts L) (h' : Bts M) : Bts (L ++ M) := by
  intro x hx; rcases List.mem_append.1 hx with h1 | h1
  · exact h x h1
  · exact h' x h1
theorem Ch.setRow {S : Nat → Prop} {a b : World} (h : Ch S a b) {g : Nat} (D : Array Value) (hg : g < a.heap.size → S g) : Ch S a (b.setRow g D) :=
  ⟨h.os, h.tape, h.output, by simpa using h.size, fun i hi hs => (setRow_other b g i D (fun e => hs (by subst e; exact hg hi))).trans (h.block i hi hs)⟩
theorem s126 : (Try.prog.info? 126).map (·.size) = some 4 := by kernel_rfl
/-- What SHash makes of the data. -/
def hsW (W : List Int) (tag ta frm sz : Int) : Option (List Int) :=
  if 128 < sz then none else if ¬ ta + 4 ≤ W.length then none else if ¬ (sz = 0 ∨ frm + (sz + 7) / 8 ≤ W.length) then none
  else some (put4 W ta.toNat (wsu (tgL tag ++ fbL (fun t => W.getD (frm.toNat + t) 0) sz.toNat)))
theorem U64_getD {W : List Int} (h : ∀ x ∈ W, U64 x) (t : Nat) : U64 (W.getD t 0) := by
  rw [List.getD_eq_getElem?_getD]
  by_cases ht : t < W.length
  · rw [List.getElem?_eq_getElem ht]; exact h _ (List.getElem_mem ht)
  · rw [List.getElem?_eq_none (by omega)]; simp [U64]
variable {gr gw n : Nat} {p0 p1 kv mv : Value} {W : List Int} {lf : Int}
theorem RunI.cw {w : World} (h : RunI gr gw n p0 p1 kv mv W lf w) {t : Nat} (ht : t < n) : w.cell? ⟨gw, t, none⟩ = some (.int .u64 (W.getD t 0)) := (h.aw.cell t).trans (uA_get (by rw [h.len.out]; exact ht))
set_option maxHeartbeats 2000000 in
theorem hash_ok {i ta frm y : Int} {ka s : Nat} (w : World) (hI : RunI gr gw n p0 p1 kv mv W lf w) (hi : 0 ≤ i) (hto : ta = (ka : Int)) (hk : ka + 4 ≤ n) (hf : U64 frm) (hy : y = (s : Int)) (hs : s ≤ 128) (hfr : s = 0 ∨ frm + ((s : Int) + 7) / 8 ≤ n) :
    Calls Try.prog 46 #[.pointer (some ⟨gr, 0, none⟩), .int .i64 i, .int .u64 ta, .int .u64 frm, .int .u64 y] w fun e w' => e = .returned (.tuple #[]) ∧ RunI gr gw n p0 p1 kv mv (put4 W ka (wsu (tgL i ++ fbL (fun t => W.getD (frm.toNat + t) 0) s))) lf w' ∧ Ch (fun k => k = gw) w w' := by
  subst hy hto
  obtain ⟨c, hc⟩ : ∃ c : Nat, c = (s + 7) / 8 := ⟨_, rfl⟩
  have hf0 := hf.1
  have hn := hI.n10
  obtain ⟨spw, capw, hcall, hcc, hc4⟩ : ∃ spw capw, (∀ y, y = (c : Int) → Calls Try.prog 60 #[.pointer (some ⟨gr, 0, none⟩), .int .u64 frm, .int .u64 y] w fun e w' => e = .returned (.slice spw c capw) ∧ w' = w) ∧ c ≤ capw ∧ (0 < c → spw = some ⟨gw, frm.toNat, none⟩ ∧ frm.toNat + c ≤ n) := by
    by_cases h0 : c = 0
    · refine ⟨none, 0, fun y hy => ?_, by omega, fun h => by omega⟩
      rw [h0]
      exact span_0 w (by omega)
    · exact ⟨some ⟨gw, frm.toNat, none⟩, n - frm.toNat, fun y hy => span_ok w hI (by omega) hy (by omega) (by omega), by omega, fun _ => ⟨rfl, by omega⟩⟩
  have a1 : IntKind.u64.wrap ((s : Int) + 8) = (s : Int) + 8 := wrap64_of (by omega) (by omega)
  have a2 : IntKind.u64.wrap ((s : Int) + 8 - 1) = (s : Int) + 7 := by rw [wrap64_of (by omega) (by omega)]; omega
  have a3 : ¬ (128 : Int) < s := by omega
  have hsp := span_ok (x := (ka : Int)) (k := ka) w hI rfl (c := 4) rfl (by omega) hk
  have hWU : ∀ t, U64 (W.getD (frm.toNat + t) 0) := fun t => U64_getD hI.wU _
  have hPl : (tgL i ++ fbL (fun t => W.getD (frm.toNat + t) 0) s).length = (tgL i).length + s := by simp [fbL_len]
  have hPb : Bts (tgL i ++ fbL (fun t => W.getD (frm.toNat + t) 0) s) := btsApp (tgL_bts hi) (fbL_bts _ _)
  have hfb := fbL_bts (fun t => W.getD (frm.toNat + t) 0) s
  have hfl := fbL_len (fun t => W.getD (frm.toNat + t) 0) s
  have htl := tgL_len i
  generalize hLL : tgL i ++ fbL (fun t => W.getD (frm.toNat + t) 0) s = LL at hPl hPb ⊢
  generalize hFB : fbL (fun t => W.getD (frm.toNat + t) 0) s = FB at hfb hfl hLL
  replace hfl := Hid.mk' hfl
  replace hLL := Hid.mk' hLL
  replace hPl := Hid.mk' hPl
  replace hFB := Hid.mk' hFB
  replace hc := Hid.mk' hc
  replace hcall := Hid.mk' hcall
  replace hc4 := Hid.mk' hc4
  replace hWU := Hid.mk' hWU
  replace hsp := Hid.mk' hsp
  replace hI := Hid.mk' hI
  clear hfr hf0 hf
  go_enter Try.func46, Try.ntmps46
  go_upto_region 3 with (go_at_call 60; go_must (refine hsp.out.mono ?_; rintro e w1 ⟨rfl, h⟩; replace h := h.symm; subst h))
  clear hsp
  go_upto_region 4 with (go_at_call 60; go_must (refine (hcall.out _ (by have := hc.out; omega)).mono ?_; rintro e w1 ⟨rfl, h⟩; replace h := h.symm; subst h))
  go_upto_region 5 with (first
    | (go_at_call 63; go_must (refine (mark_any _ hi).mono ?_; rintro e w1 ⟨v1, rfl, ho1, hb1⟩; have hI1 := hI.out.bl hb1))
    | (go_at_call 64; go_must (refine (firstBytes_any (W := fun t => W.getD (frm.toNat + t) 0) w1 rfl hs hWU.out (by have := hc.out; omega) hcc (by have := hc.out; omega) (fun h0 => ⟨gw, frm.toNat, (hc4.out h0).1, hI1.aw.lt, fun t ht => hI1.cw (by have := (hc4.out h0).2; omega)⟩)).mono ?_; rintro e w2 ⟨v2, rfl, ho2, hb2⟩; rw [hFB.out] at ho2; have ho1' := own_bel ho1 hb2; obtain ⟨sp2, cp2, rfl, hB2, -⟩ := own_bs ho2 hfb (by omega)))
    | (at_builtin; go_must (refine append_bytes (by rfl) (.tmp 28) (.tmp 31) (by rfl) w.heap.size v1 (tgL i).length (tgL i) (by rfl) ho1' sp2 s cp2 FB (by rfl) hfl.out.symm hB2.nil hB2.sl (by omega) (by have := hb1.size; have := hb2.size; omega) ?_; intro v3 w3 ho3 hg3; have hbW3 : Below w.heap.size w w3 := (hb1.trans (hb2.mono hb1.size)).grown hg3 (by have := hb1.size; have := hb2.size; omega) (fun k e => own_ge ho1' k e); rw [hLL.out] at ho3; obtain ⟨sp3, cp3, rfl, hB3, -⟩ := own_bs ho3 hPb (by omega)))
    | (go_at_call 62; go_must (refine (sum_sl sp3 _ cp3 LL w3 hPl.out.symm hB3.nil hB3.sl hB3.le (by omega)).mono ?_; rintro e w4 ⟨rfl, hb4⟩))
    | (go_at_call 61; go_must (refine (words_any (sha LL) (shaB (bat LL) LL.length) w4 (sha_size LL) (sha_get LL) (fun t _ => shaB_range _ _ t)).mono ?_; rintro e w5 ⟨rfl, hb5⟩; rw [wordsOf_four]))
    | (refine wpList_store_new w5 _ 126 (by rfl) 126 (.tmp 12) (.tmp 34) (by rfl) (four (wsu LL)).toArray (by rfl) (by rfl) s126 (by rfl) (all_oneCell_toArray (four_one _)) ?_))
  have hbW6 : Below w.heap.size w (w5.alloc (.cells (four (wsu LL)).toArray 126)) := ((hbW3.trans (hb4.mono hbW3.size)).trans (hb5.mono (by have := hbW3.size; have := hb4.size; omega))).alloc (by have := hbW3.size; have := hb4.size; have := hb5.size; omega) _
  have hI6 := hI.out.bl hbW6
  have A6 := Arr.new w5 126 (four (wsu LL)).toArray
  have hCs : (uA W).size = n := by rw [uA_size]; exact hI.out.len.out
  have hlen := hI.out.len
  have hfin : Hid (RunI gr gw n p0 p1 kv mv (put4 W ka (wsu LL)) lf ((w5.alloc (.cells (four (wsu LL)).toArray 126)).setRow gw (splice (uA W).toList ka (four (wsu LL))).toArray)) := Hid.mk'
    ⟨hI6.ar.setRowOther _ hI6.ne, by rw [← uA_put4 (by rw [hlen.out]; exact hk)]; exact hI6.aw.setRow _, hI6.ne, hid (by rw [put4_len]; exact hlen.out), hn, mem_put4 hI6.wU (fun j hj => wsu_u _ hj)⟩
  have hCh := ((Ch.ob (S := fun k => k = gw) hbW6)).setRow (g := gw) (splice (uA W).toList ka (four (wsu LL))).toArray (fun _ => rfl)
  have hA6 := hI6.aw
  clear hI6 hI hWU hcall hc4
  go_wp2_with (refine wpList_copy_own (by rfl) (.tmp 35) (.tmp 36) 25 25 (by rfl) 30 Try.underlying25 (by exact s30) gw ka 4 (n - ka) ⟨w5.heap.size, 0, none⟩ 4 4 (by rfl) (by rfl) (uA W) 30 hA6 (four (wsu LL)) (by rfl) (fun j v hv => by rw [Addr.add_mid, Nat.zero_add, A6.cell]; simpa using hv) (by show ka + 4 ≤ _; omega) (four_one _) ?_)
  exact ⟨rfl, _, results_none Try.results46 _ _ _, rfl, hfin.out, hCh⟩
set_option maxHeartbeats 1000000 in
theorem hash_no {i ta frm y : Int} (w : World) (hI : RunI gr gw n p0 p1 kv mv W lf w) (hi : 0 ≤ i) (hto : U64 ta) (hf : U64 frm) (hy : U64 y) (hno : hsW W i ta frm y = none) :
    Calls Try.prog 46 #[.pointer (some ⟨gr, 0, none⟩), .int .i64 i, .int .u64 ta, .int .u64 frm, .int .u64 y] w fun e w' => e = .panicked trI ∧ w' = w := by
  unfold hsW at hno
  rw [hI.len.out] at hno
  have hy0 := hy.1
  have hy1 := hy.2
  have hn := hI.n10
  by_cases h1 : 128 < y
  · clear hno hI
    go_enter Try.func46, Try.ntmps46
    go_wp2_with fail
    exact ⟨rfl, rfl, rfl⟩
  rw [if_neg h1] at hno
  by_cases h2 : ta + 4 ≤ n
  · rw [if_neg (by omega)] at hno
    by_cases h3 : y = 0 ∨ frm + (y + 7) / 8 ≤ n
    · rw [if_neg (not_not_intro h3)] at hno
      cases hno
    · have hto0 := hto.1
      obtain ⟨ka, hka⟩ : ∃ ka : Nat, ta = ka := ⟨ta.toNat, by omega⟩
      have hsp := span_ok w hI hka (c := 4) rfl (by omega) (by omega)
      have a1 : IntKind.u64.wrap (y + 8) = y + 8 := wrap64_of (by omega) (by omega)
      have a2 : IntKind.u64.wrap (y + 8 - 1) = y + 7 := by rw [wrap64_of (by omega) (by omega)]; omega
      have hcall := fun z (hz : z = (y + 7) / 8) => span_no (y := z) w hI hf (by unfold U64; omega) (by omega) (by rw [hz]; omega)
      clear hno hI h3 h2 hka
      go_enter Try.func46, Try.ntmps46
      go_upto_region 3 with (go_at_call 60; go_must (refine hsp.mono ?_; rintro e w1 ⟨rfl, h⟩; replace h := h.symm; subst h))
      clear hsp
      go_wp2_with (go_at_call 60; go_must (refine (hcall _ (by omega)).mono ?_; rintro e w1 ⟨rfl, h⟩; replace h := h.symm; subst h))
      exact ⟨rfl, rfl, rfl⟩
  · have hsp := span_no (y := 4) w hI hto (by unfold U64; omega) (by omega) h2
    clear hno hI h2
    go_enter Try.func46, Try.ntmps46
    go_wp2_with (go_at_call 60; go_must (refine hsp.mono ?_; rintro e w1 ⟨rfl, h⟩; replace h := h.symm; subst h))
    exact ⟨rfl, rfl, rfl⟩
end Go.Proofs.Ytmljihggooaboaa
