/- QYa, Pj. -/
import Derived.Test.YtmljihggooaboaaW01
import Derived.Test.YtmljihggooaboaaW12
import Derived.Test.YtmljihggooaboaaW13
import Derived.Test.YtmljihggooaboaaW14
import Derived.Test.YtmljihggooaboaaW05
import Derived.Test.YtmljihggooaboaaW15
import Derived.Test.YtmljihggooaboaaW18
import Derived.Test.YtmljihggooaboaaW19
import Derived.BigQuiet
import Derived.BigRegion
import Derived.ChangeKeysEq
import Derived.Deep.DeepCutAuto
import Derived.Deep.DrawnRows
import Derived.Deep.MidRow
import Derived.Deep.QuietTactic
import Derived.Deep.RegionHeld3
import Derived.Deep.RegionLaw
import Derived.Deep.RegionWith
import Derived.Deep.WholeRow
import Derived.DeepKeys3
import Derived.Great.BuildSlice
import Derived.Laws.AppendOwnNone
import Derived.Laws.BitsLemmas
import Derived.Laws.BytesArg
import Derived.Laws.CopyOwn
import Derived.Laws.ResultCell
import Derived.Laws.Tables
import Derived.Lib.SlBytesConst
import Derived.LoopIn
import Derived.LoopNIn
import Derived.Maps.AppendAt
import Derived.OwnWalkIn
import Derived.RangeFuncBound
import Derived.RangeFuncCalls
import Derived.RangeFuncLeaves
import Derived.RangeFuncNested
import Derived.RangeFuncRecord
import Derived.Shelf.Abstract
import Derived.Shelf.RegionOpen
import Derived.TacticsInMore
import Derived.WalkKit
import Derived.WalkLawsBesides
import Derived.WalkSpells
import Derived.Test.YtmljihggooaboaaW40
import Derived.Test.YtmljihggooaboaaW39
import Derived.Test.YtmljihggooaboaaW17
import Derived.Handy
import Derived.Laws.MakeOwn
/- Layer interp: what the layers below give. -/
namespace Go.Proofs.Ytmljihggooaboaa
open Go.RowKit
set_option maxRecDepth 100000
set_option linter.unusedVariables false
set_option linter.unusedSimpArgs false

set_option maxHeartbeats 1000000 in
theorem summed_no {i y : Int} {v : Value} (w : World) (hi : 0 ≤ i ∧ i < 4294967296) (hy : ¬ 128 < y) (hL : mkL i = none) (hv : ∃ sp c cap, v = .slice sp c cap) :
    Calls Try.prog 67 #[.int .u32 i, .int .u64 y, v] w fun e w' => e = .returned (.tuple #[.slice none 0 0, .bool false]) ∧ w' = w := by
  obtain ⟨sp, c, cap, rfl⟩ := hv
  unfold mkL at hL
  by_cases h0 : i = 0
  · rw [if_pos h0] at hL
    cases hL
  · rw [if_neg h0] at hL
    by_cases h1 : 256 ≤ i ∧ i ≤ 511
    · rw [if_pos h1] at hL
      cases hL
    · have hp : 0 < i := by omega
      by_cases h2 : 511 < i
      · go_enter Try.func67, Try.ntmps67
        go_wp2
        go_ret2
        exact ⟨rfl, rfl⟩
      · have h3 : i < 256 := by omega
        go_enter Try.func67, Try.ntmps67
        go_wp2
        go_ret2
        exact ⟨rfl, rfl⟩
set_option maxHeartbeats 2000000 in
theorem summed_ok {i : Int} {P : List Int} {sp : Option Addr} {c cap s : Nat} {y : Int} {W : Nat → Int} (w : World) (hi : 0 ≤ i ∧ i < 4294967296) (hL : mkL i = some P) (hy : y = (s : Int)) (hs : s ≤ 128) (hW : ∀ t, U64 (W t)) (hc : s ≤ 8 * c) (hcc : c ≤ cap) (hb : c ≤ 4096)
    (hw : 0 < c → ∃ gm k, sp = some ⟨gm, k, none⟩ ∧ gm < w.heap.size ∧ ∀ t, t < c → w.cell? ⟨gm, k + t, none⟩ = some (.int .u64 (W t))) :
    Calls Try.prog 67 #[.int .u32 i, .int .u64 y, .slice sp c cap] w fun e w' => ∃ v, e = .returned (.tuple #[v, .bool true]) ∧ w'.ownsRow w.heap.size 5 1 v (P.length + s) (by8 (P ++ fbL W s)) ∧ Below w.heap.size w w' := by
  subst hy
  have hy1 : ¬ (128 : Int) < s := by omega
  have hPl : P.length ≤ 1 := by
    unfold mkL at hL
    split at hL
    · cases hL; simp
    · split at hL
      · cases hL; simp
      · cases hL
  unfold mkL at hL
  by_cases h0 : i = 0
  · rw [if_pos h0] at hL
    have hP : P = [] := (Option.some.inj hL).symm
    subst h0
    have hown1 : w.ownsRow w.heap.size 5 1 (.slice none 0 0) P.length (by8 P) := by rw [hP]; exact World.ownsRow_nil _ _ _ _
    have hB1 : Below w.heap.size w w := Below.refl _ _
    clear hi hL hP
    go_enter Try.func67, Try.ntmps67
    go_wp2_with fail
    go_loopw [8, 9] (fun v q wr => ∃ (k : Nat), q = .int .u64 (k : Int) ∧ k ≤ s ∧ wr.ownsRow w.heap.size 5 1 v (P.length + k) (by8 (P ++ fbL W k)) ∧ Below w.heap.size w wr)
      (fun _ q _ => s - (intOf q).toNat)
    case atStart => exact ⟨0, rfl, by omega, by simpa [fbL] using hown1, hB1⟩
    case round =>
      clear hown1 hB1
      obtain ⟨k, rfl, hk, hown, hbl⟩ := hrel
      by_cases hlt : k < s
      · have hI : (k : Int) < s := by omega
        obtain ⟨gm, o, rfl, hgl, hcell⟩ := hw (by omega)
        have hcl : wr.cell? ⟨gm, o + k / 8, none⟩ = some (.int .u64 (W (k / 8))) := (hbl.cell (p := ⟨gm, o + k / 8, none⟩) hgl).trans (hcell (k / 8) (by omega))
        have hki : ((k : Int) / 8) < c := by omega
        have hkn : ((k : Int) / 8).toNat = k / 8 := by omega
        have hU := hW (k / 8)
        have hU1 := hU.1
        have hU2 := hU.2
        have m8 : (k : Int) % 8 < 8 := by omega
        have m0 : 0 ≤ (k : Int) % 8 := by omega
        have e2 : (56 - 8 * ((k : Int) % 8)).toNat = 56 - 8 * (k % 8) := by omega
        go_wp2_with (at_builtin; go_must (refine append_bytes (by rfl) (.tmp 37) (.tmp 49) (by rfl) w.heap.size _ (P.length + k) (P ++ fbL W k) (by rfl) (hown.alloc _) (some ⟨wr.heap.size, 0, none⟩) 1 1 [fromB W k] (by rfl) (by rfl) (fun h => by cases h) (Arr.sl (Arr.new wr 5 _)) (by omega) (by have := hbl.size; simp; omega) ?_; intro v3 w3 hown3 hg3))
        have hB3 : Below w.heap.size w w3 := (hbl.alloc hbl.size _).grown hg3 (by have := hbl.size; simp; omega) (fun k e => own_ge hown k e)
        go_roundw
        case rel => exact ⟨k + 1, by go_num, by omega, by rw [← fbL_succ, ← List.append_assoc, ← Nat.add_assoc]; exact hown3, hB3⟩
        case measure => simp [intOf]; omega
      · obtain rfl : k = s := by omega
        go_wp2_with fail
        go_ret2
        exact ⟨_, rfl, hown, hbl⟩
  · rw [if_neg h0] at hL
    by_cases h1 : 256 ≤ i ∧ i ≤ 511
    · rw [if_pos h1] at hL
      have hP : P = [i - 256] := (Option.some.inj hL).symm
      have a2 : ¬ i < 256 := by omega
      have a3 : ¬ 511 < i := by omega
      have a4 : IntKind.u8.wrap (i - 256) = i - 256 := wrap8_of (by omega) (by omega)
      have a5 : IntKind.u32.wrap (i - 256) = i - 256 := by rw [w32]; omega
      have a6 : 0 < i := by omega
      have a7 : 256 ≤ i := by omega
      have hnil : w.ownsRow w.heap.size 5 1 (.slice none 0 0) 0 (by8 []) := World.ownsRow_nil _ _ _ _
      replace hP := Hid.mk' hP
      clear hi hL h1 h0
      go_enter Try.func67, Try.ntmps67
      go_wp2_with (at_builtin; go_must (refine append_bytes (by rfl) (.tmp 26) (.tmp 30) (by rfl) w.heap.size _ 0 [] (by rfl) (hnil.alloc _) (some ⟨w.heap.size, 0, none⟩) 1 1 [i - 256] (by rfl) (by rfl) (fun h => by cases h) (Arr.sl (Arr.new w 5 _)) (by omega) (by simp) ?_; intro v1 w1 hown0 hg1))
      have hB1 : Below w.heap.size w w1 := ((Below.refl _ _).alloc (Nat.le_refl _) _).grown hg1 (by simp) (fun k e => by cases e)
      have hown1 : w1.ownsRow w.heap.size 5 1 v1 P.length (by8 P) := by rw [hP.out]; simpa using hown0
      clear hown0 hg1 hnil
      go_loopw [8, 9] (fun v q wr => ∃ (k : Nat), q = .int .u64 (k : Int) ∧ k ≤ s ∧ wr.ownsRow w.heap.size 5 1 v (P.length + k) (by8 (P ++ fbL W k)) ∧ Below w.heap.size w wr)
        (fun _ q _ => s - (intOf q).toNat)
      case atStart => exact ⟨0, rfl, by omega, by simpa [fbL] using hown1, hB1⟩
      case round =>
        clear hown1 hB1
        obtain ⟨k, rfl, hk, hown, hbl⟩ := hrel
        by_cases hlt : k < s
        · have hI : (k : Int) < s := by omega
          obtain ⟨gm, o, rfl, hgl, hcell⟩ := hw (by omega)
          have hcl : wr.cell? ⟨gm, o + k / 8, none⟩ = some (.int .u64 (W (k / 8))) := (hbl.cell (p := ⟨gm, o + k / 8, none⟩) hgl).trans (hcell (k / 8) (by omega))
          have hki : ((k : Int) / 8) < c := by omega
          have hkn : ((k : Int) / 8).toNat = k / 8 := by omega
          have hU := hW (k / 8)
          have hU1 := hU.1
          have hU2 := hU.2
          have m8 : (k : Int) % 8 < 8 := by omega
          have m0 : 0 ≤ (k : Int) % 8 := by omega
          have e2 : (56 - 8 * ((k : Int) % 8)).toNat = 56 - 8 * (k % 8) := by omega
          go_wp2_with (at_builtin; go_must (refine append_bytes (by rfl) (.tmp 37) (.tmp 49) (by rfl) w.heap.size _ (P.length + k) (P ++ fbL W k) (by rfl) (hown.alloc _) (some ⟨wr.heap.size, 0, none⟩) 1 1 [fromB W k] (by rfl) (by rfl) (fun h => by cases h) (Arr.sl (Arr.new wr 5 _)) (by omega) (by have := hbl.size; simp; omega) ?_; intro v3 w3 hown3 hg3))
          have hB3 : Below w.heap.size w w3 := (hbl.alloc hbl.size _).grown hg3 (by have := hbl.size; simp; omega) (fun k e => own_ge hown k e)
          go_roundw
          case rel => exact ⟨k + 1, by go_num, by omega, by rw [← fbL_succ, ← List.append_assoc, ← Nat.add_assoc]; exact hown3, hB3⟩
          case measure => simp [intOf]; omega
        · obtain rfl : k = s := by omega
          go_wp2_with fail
          go_ret2
          exact ⟨_, rfl, hown, hbl⟩
    · rw [if_neg h1] at hL
      cases hL
set_option maxHeartbeats 1000000 in
theorem refPiece_any {N n cap : Nat} {sp : Option Addr} {bs : List Int} {x : Int} (w : World) (hB : BS N w sp n cap bs) (hx : U64 x) :
    Calls Try.prog 54 #[.slice sp n cap, .int .u64 x] w fun e w' => e = .returned (.int .u64 (pcN bs x.toNat 8)) ∧ w' = w := by
  have hl := hB.len
  have hsm := hB.small
  have hbts := hB.bts
  have hx1 := hx.1
  have hx2 := hx.2
  have wn : IntKind.u64.wrap (n : Int) = n := wrap64_of (by omega) (by omega)
  obtain ⟨p, rfl⟩ : ∃ p : Nat, x = p := ⟨x.toNat, by omega⟩
  rw [Int.toNat_natCast]
  go_enter Try.func54, Try.ntmps54
  go_wp2_with fail
  go_loopw [5, 6] (fun v q wr => wr = w ∧ ∃ (k : Nat), q = .int .u64 (k : Int) ∧ k ≤ 8 ∧ v = .int .u64 (pcN bs p k))
    (fun _ q _ => 8 - (intOf q).toNat)
  case atStart => exact ⟨rfl, 0, rfl, by omega, rfl⟩
  case round =>
    obtain ⟨rfl, k, rfl, hk, rfl⟩ := hrel
    by_cases hlt : k < 8
    · have hI : (k : Int) < 8 := by omega
      have hst := pcN_step hbts p hlt
      have hrg := pcN_rg hbts p k
      have h256 := pow256 hlt
      have hbr := bat_rg hbts (p + k)
      have wpc : IntKind.u64.wrap (pcN bs p k * 256) = pcN bs p k * 256 := wrap64_of (by omega) (by omega)
      have wb : IntKind.u64.wrap (bat bs (p + k)) = bat bs (p + k) := wrap64_of (by omega) (by omega)
      rw [wpc, wb] at hst
      have hz : ¬ p + k < n → pcN bs p (k + 1) = pcN bs p k * 256 := fun h => by
        have : bat bs (p + k) = 0 := by
          simp only [bat, List.getD_eq_getElem?_getD]
          rw [List.getElem?_eq_none (by rw [← hl.out]; omega)]
          rfl
        simp only [pcN, this]
        omega
      obtain ⟨q, hq⟩ : ∃ q, q = p + k := ⟨_, rfl⟩
      have hpos : 0 ≤ pcN bs p k := hrg.1
      have hpos2 : pcN bs p k < 72057594037927936 := by omega
      rw [← hq] at hst hbr wb hz
      generalize hP0 : pcN bs p k = p0 at *
      generalize hP1 : pcN bs p (k + 1) = p1 at *
      replace hP0 := Hid.mk' hP0
      replace hP1 := Hid.mk' hP1
      replace hz := Hid.mk' hz
      clear hrg h256
      by_cases hin : q < n
      · have ws : IntKind.u64.wrap ((p : Int) + k) = (q : Int) := by rw [wrap64_of (by omega) (by omega)]; omega
        have i1 : (p : Int) ≤ (q : Int) := by omega
        have i2 : (q : Int) < n := by omega
        obtain ⟨b, o, rfl, -, hby⟩ := hB.at0 (by omega)
        have hcl := hby q hin
        generalize bat bs q = bb at *
        replace hq := Hid.mk' hq
        go_wp2_with fail
        go_roundw
        case rel => exact ⟨by trivial, k + 1, by go_num, by omega, by rw [hP1.out, ← hst]⟩
        case measure => simp [intOf]; omega
      · have hzz := hz.out hin
        by_cases hwr : (p : Int) + k < 18446744073709551616
        · have ws : IntKind.u64.wrap ((p : Int) + k) = (q : Int) := by rw [wrap64_of (by omega) (by omega)]; omega
          have i1 : (p : Int) ≤ (q : Int) := by omega
          have i2 : ¬ (q : Int) < n := by omega
          replace hq := Hid.mk' hq
          replace hzz := Hid.mk' hzz
          clear hst wb hwr
          go_wp2_with fail
          go_roundw
          case rel => exact ⟨by trivial, k + 1, by go_num, by omega, by rw [hP1.out, hzz.out]⟩
          case measure => simp [intOf]; omega
        · obtain ⟨r, hr⟩ : ∃ r : Nat, (r : Int) = (p : Int) + k - 18446744073709551616 := ⟨((p : Int) + k - 18446744073709551616).toNat, by omega⟩
          have ws : IntKind.u64.wrap ((p : Int) + k) = (r : Int) := by rw [wrap_mod]; omega
          have i1 : ¬ (p : Int) ≤ (r : Int) := by omega
          replace hr := Hid.mk' hr
          replace hq := Hid.mk' hq
          replace hzz := Hid.mk' hzz
          clear hst wb hwr
          go_wp2_with fail
          go_roundw
          case rel => exact ⟨by trivial, k + 1, by go_num, by omega, by rw [hP1.out, hzz.out]⟩
          case measure => simp [intOf]; omega
    · obtain rfl : k = 8 := by omega
      go_wp2_with fail
      go_ret
      exact ⟨rfl, rfl⟩
end Go.Proofs.Ytmljihggooaboaa
/- Layer interp: what SHash does, by the document. -/
namespace Go.Proofs.Ytmljihggooaboaa
open Go.RowKit
set_option maxRecDepth 100000
set_option linter.unusedVariables false
set_option linter.unusedSimpArgs false

/-- So many of the four words are put. -/
def pt (W : List Int) (a : Nat) (f : Nat → Int) : Nat → List Int
  | 0 => W
  | j + 1 => (pt W a f j).set (a + j) (f j)
theorem pt_len (W : List Int) (a : Nat) (f : Nat → Int) : ∀ j, (pt W a f j).length = W.length
  | 0 => rfl
  | j + 1 => by show ((pt W a f j).set (a + j) (f j)).length = _; rw [List.length_set, pt_len W a f j]
theorem pt_u {W : List Int} {a : Nat} {f : Nat → Int} (hW : ∀ x ∈ W, U64 x) (hf : ∀ j, j < 4 → U64 (f j)) : ∀ j, j ≤ 4 → ∀ x ∈ pt W a f j, U64 x
  | 0, _ => hW
  | j + 1, h => U_set (pt_u hW hf j (by omega)) (hf j (by omega))
variable {gr gw n : Nat} {p0 p1 kv : Value} {W : List Int} {fu st va : Int}
def DhP (r : Option (List Int)) (gr gw n : Nat) (p0 p1 kv : Value) (W : List Int) (fu st va : Int) (w : World) (e : Ending) (w' : World) : Prop :=
  e = .returned (.tuple #[]) ∧ DunI gr gw n p0 p1 kv (r.getD W) fu st (if r.isSome = true then 0 else 2) va w' ∧ Ch (fun k => k = gr ∨ k = gw) w w'
set_option maxHeartbeats 2000000 in
theorem dhash_no {i ta frm y : Int} (w : World) (hI : DunI gr gw n p0 p1 kv W fu st 0 va w) (hta : U64 ta) (hf : U64 frm) (hy : U64 y) (hno : hsW W i ta frm y = none) :
    Calls Try.prog 52 #[.pointer (some ⟨gr, 0, none⟩), .int .i64 i, .int .u64 ta, .int .u64 frm, .int .u64 y] w (DhP none gr gw n p0 p1 kv W fu st va w) := by
  have hy0 := hy.1
  have hy1 := hy.2
  have hn := hI.n10
  have htr := trap_any w hI
  have hfin : Hid (∀ u, DunI gr gw n p0 p1 kv W fu st 2 va u → Ch (fun k => k = gr) w u → DhP none gr gw n p0 p1 kv W fu st va w (.returned (.tuple #[])) u) := hid fun u h1 h2 => ⟨rfl, h1, h2.imp fun k hk => .inl hk⟩
  unfold hsW at hno
  rw [hI.len.out] at hno
  by_cases h1 : 128 < y
  · have a1 : IntKind.u64.wrap ((128 : Int) + 7) = 135 := by rw [wrap64_of (by omega) (by omega)]; rfl
    have a2 : IntKind.i64.wrap (135 : Int) = 135 := by rw [IntKind.wrap_i64]; rfl
    clear hno hI
    go_enter Try.func52, Try.ntmps52
    go_wp2_with (go_at_call 51; go_must (refine htr.mono ?_; rintro e w3 ⟨rfl, hD3, hc3⟩))
    go_end0
    exact hfin.out w3 hD3 hc3
  rw [if_neg h1] at hno
  obtain ⟨s, hs⟩ : ∃ s : Nat, y = s := ⟨y.toNat, by omega⟩
  subst hs
  have hs128 : s ≤ 128 := by omega
  obtain ⟨c, hc⟩ : ∃ c : Nat, c = (s + 7) / 8 := ⟨_, rfl⟩
  have a1 : IntKind.u64.wrap ((s : Int) + 7) = (s : Int) + 7 := wrap64_of (by omega) (by omega)
  have a2 : IntKind.i64.wrap ((s : Int) + 7) = (s : Int) + 7 := by rw [IntKind.wrap_i64]; omega
  have hc8 : ((s : Int) + 7) / 8 = (c : Int) := by omega
  have hc9 : Int.tdiv ((s : Int) + 7) 8 = (c : Int) := by rw [Int.tdiv_eq_ediv_of_nonneg (by omega)]; exact hc8
  have hh1 := dhas_any (x := frm) (y := (c : Int)) (c := c) w hI hf rfl (by omega)
  by_cases h3 : c = 0 ∨ frm + c ≤ n
  · rw [decide_eq_true h3] at hh1
    have h2 : ¬ ta + 4 ≤ n := fun h2 => by
      rw [if_neg (by omega), if_neg (by omega)] at hno
      cases hno
    have hh2 := dhas_any (x := ta) (y := 4) (c := 4) w hI hta rfl (by omega)
    rw [decide_eq_false (show ¬ (4 = 0 ∨ ta + (4 : Nat) ≤ n) by omega)] at hh2
    replace hc := hid hc
    replace hh1 := hid hh1
    replace hh2 := hid hh2
    clear hno hI h3 h2
    go_enter Try.func52, Try.ntmps52
    go_wp2_with (first
      | (go_at_call 50; have hq := hh1; clear hh1; go_must (refine hq.out.mono ?_; rintro e w2 ⟨rfl, h⟩; replace h := h.symm; subst h))
      | (go_at_call 50; go_must (refine hh2.out.mono ?_; rintro e w2 ⟨rfl, h⟩; replace h := h.symm; subst h))
      | (go_at_call 51; go_must (refine htr.mono ?_; rintro e w3 ⟨rfl, hD3, hc3⟩)))
    go_end0
    exact hfin.out w3 hD3 hc3
  · rw [decide_eq_false h3] at hh1
    replace hc := hid hc
    replace hh1 := hid hh1
    clear hno hI h3
    go_enter Try.func52, Try.ntmps52
    go_wp2_with (first
      | (go_at_call 50; go_must (refine hh1.out.mono ?_; rintro e w2 ⟨rfl, h⟩; replace h := h.symm; subst h))
      | (go_at_call 51; go_must (refine htr.mono ?_; rintro e w3 ⟨rfl, hD3, hc3⟩)))
    go_end0
    exact hfin.out w3 hD3 hc3
end Go.Proofs.Ytmljihggooaboaa
