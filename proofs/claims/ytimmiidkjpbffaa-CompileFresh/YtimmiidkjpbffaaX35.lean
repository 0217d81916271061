/- RMc, RWd, S0, S1. -/
import Derived.Test.YtimmiidkjpbffaaRows
import Derived.BigQuiet
import Derived.BigRegion
import Derived.ChangeKeysEq
import Derived.Deep.DeepCutAuto
import Derived.Deep.DrawnRows
import Derived.Deep.MidRow
import Derived.Deep.QuietTactic
import Derived.Deep.RegionHeld3
import Derived.Deep.RegionLaw
import Derived.Deep.RegionWith
import Derived.Deep.WholeRow
import Derived.Laws.AppendOwnNone
import Derived.Laws.BitsLemmas
import Derived.Laws.BytesArg
import Derived.Laws.CopyOwn
import Derived.Lib.SlBytesConst
import Derived.WalkKit
import Derived.WalkLawsBesides
import Derived.WalkSpells
import Derived.Test.YtimmiidkjpbffaaX01
import Derived.Test.YtimmiidkjpbffaaX02
import Derived.Test.YtimmiidkjpbffaaX03
import Derived.Test.YtimmiidkjpbffaaX28
import Derived.Test.YtimmiidkjpbffaaX08
import Derived.Test.YtimmiidkjpbffaaX21
import Derived.Test.YtimmiidkjpbffaaX27
import Derived.Test.YtimmiidkjpbffaaX29
import Derived.Test.YtimmiidkjpbffaaX31
import Derived.Deep.OwnRows
import Derived.DeepKeys3
import Derived.Great.BuildSlice
import Derived.Laws.OwnMore
import Derived.Laws.ResultCell
import Derived.Laws.Tables
import Derived.LoopIn
import Derived.LoopNIn
import Derived.Maps.AppendAt
import Derived.OwnWalkIn
import Derived.RangeFuncBound
import Derived.RangeFuncCalls
import Derived.RangeFuncLeaves
import Derived.RangeFuncNested
import Derived.RangeFuncRecord
import Derived.Recover
import Derived.Shelf.Abstract
import Derived.Shelf.RegionOpen
import Derived.TacticsInMore
import Derived.Test.YtimmiidkjpbffaaX32
import Derived.Handy
import Derived.Test.YtimmiidkjpbffaaX30
import Derived.Lib.SliceRun
/- Layer compile: what the layers below give. -/
namespace Go.Proofs.Ytimmiidkjpbffaa
open Go.RowKit
set_option maxRecDepth 100000
set_option linter.unusedVariables false
set_option linter.unusedSimpArgs false

theorem pow16 {d : Nat} (h : d ≤ 16) : 2 ^ d ≤ 65536 := Nat.pow_le_pow_right (n := 2) (by omega) h
theorem powc (d : Nat) : ((2 : Int) ^ d) = ((2 ^ d : Nat) : Int) := (Int.natCast_pow 2 d).symm
theorem wrap_pow {d : Nat} (h : d ≤ 16) : wrap64 ((2 : Int) ^ d) = ((2 ^ d : Nat) : Int) := by
  have := pow16 h
  rw [powc]
  generalize 2 ^ d = p at *
  unfold wrap64; omega
end Go.Proofs.Ytimmiidkjpbffaa
/- Layer compile: what the layers below give. -/
namespace Go.Proofs.Ytimmiidkjpbffaa
open Go.RowKit
set_option maxRecDepth 100000
set_option linter.unusedVariables false
set_option linter.unusedSimpArgs false

set_option maxHeartbeats 1000000 in
theorem refSize_any (x : Int) (w : World) (hx : -9223372036854775808 ≤ x ∧ x ≤ 9223372036854775807) : Calls Try.prog 35 #[.int .i64 x] w fun e w' => e = .returned (.bool (szI x)) ∧ w' = w := by
  go_enter Try.func35, Try.ntmps35
  go_wp2_with fail
  go_loopw [3] (fun q wr => wr = w ∧ ∃ (k : Nat), q = .int .i64 (k : Int) ∧ k ≤ 13 ∧ Hid (∀ j, j < k → x ≠ ((2 ^ j : Nat) : Int)))
    (fun q _ => 13 - (intOf q).toNat)
  case atStart => exact ⟨rfl, 0, rfl, by omega, Hid.mk' (fun j hj => by omega)⟩
  case round =>
    obtain ⟨rfl, k, rfl, hk, hno⟩ := hrel
    by_cases hlt : k ≤ 12
    · have hI : (k : Int) ≤ 12 := by omega
      have hk0 : (0 : Int) ≤ k := by omega
      obtain ⟨p, hp0⟩ : ∃ p : Int, p = ((2 ^ k : Nat) : Int) := ⟨_, rfl⟩
      have hw1 : wrap64 ((2 : Int) ^ k) = p := by rw [wrap_pow (by omega), hp0]
      replace hp0 := Hid.mk' hp0
      have hw3 : IntKind.u64.wrap (k : Int) = k := wrap64_of (by omega) (by omega)
      by_cases he : x = p
      · have he' : (x == p) = true := by simpa using he
        have hf : Hid (szI x = true) := Hid.mk' (by rw [he, hp0.out, szI_nat]; unfold szB; rw [List.any_eq_true]; exact ⟨k, by simp; omega, by simp⟩)
        replace he := Hid.mk' he
        go_wp2_with fail
        go_ret
        exact ⟨by rw [hf.out]; rfl, rfl⟩
      · have he' : (x == p) = false := by simpa using he
        have hn2 : Hid (∀ j, j < k + 1 → x ≠ ((2 ^ j : Nat) : Int)) := Hid.mk' (fun j hj => by
          by_cases e : j = k
          · subst e; rw [← hp0.out]; exact he
          · exact hno.out j (by omega))
        replace he := Hid.mk' he
        go_wp2_with fail
        go_roundw
        case rel => exact ⟨by trivial, k + 1, by go_num, by omega, hn2⟩
        case measure => simp [intOf]; omega
    · obtain rfl : k = 13 := by omega
      have hf : Hid (szI x = false) := Hid.mk' (by
        cases h : szI x with
        | false => rfl
        | true =>
          unfold szI szB at h
          rw [Bool.and_eq_true, List.any_eq_true] at h
          obtain ⟨h0, j, hj, e⟩ := h
          have h0 := of_decide_eq_true h0
          simp at hj e
          exact absurd (show x = ((2 ^ j : Nat) : Int) by omega) (hno.out j hj))
      go_wp2_with fail
      go_ret
      exact ⟨by rw [hf.out]; rfl, rfl⟩
set_option maxHeartbeats 400000 in
theorem refMay_anyV (m : Mc) (sp : Option Addr) (n cap : Nat) (w : World) (hok : m.ok) (hl : Hid (n = m.me.length)) (hn : n ≤ 17592186044416) :
    Calls Try.prog 22 #[.agg (mcA m sp n cap)] w fun e w' => e = .returned (.bool (mayM m)) ∧ Below w.heap.size w w' := by
  have A0 := Arr.new w 29 (mcA m sp n cap)
  have c17 := (A0.cell 17).trans (mcA_17 hok.r16 sp n cap)
  have c18 := (A0.cell 18).trans (mcA_18 hok.r16 sp n cap)
  have hz : szI (n : Int) = szB m.me.length := by rw [szI_nat, hl.out]
  have hz := Hid.mk' hz
  unfold mayM
  generalize szB m.me.length = b at *
  generalize mcA m sp n cap = C at *
  cases b
  · go_enter Try.func22, Try.ntmps22
    go_wp2_with (go_at_call 35; go_must (refine (refSize_any _ _ (by omega)).mono ?_; rintro e w1 ⟨rfl, h⟩; subst h; rw [hz.out]))
    go_ret
    exact ⟨rfl, alloc_bel' _ _⟩
  · go_enter Try.func22, Try.ntmps22
    go_wp2_with (go_at_call 35; go_must (refine (refSize_any _ _ (by omega)).mono ?_; rintro e w1 ⟨rfl, h⟩; subst h; rw [hz.out]))
    go_ret
    exact ⟨rfl, alloc_bel' _ _⟩
end Go.Proofs.Ytimmiidkjpbffaa
/- Layer compile: may an image be? by both sides. -/
namespace Go.Proofs.Ytimmiidkjpbffaa
open Go.RowKit
set_option maxRecDepth 100000
set_option linter.unusedVariables false
set_option linter.unusedSimpArgs false


/-- May an image be? of so many words, with this Base and these Data. -/
def imOk (n : Nat) (b d : Int) : Bool := szB n && decide (0 ≤ d ∧ 0 ≤ b ∧ b ≤ n - d)
theorem rep_ok (n : Nat) : Mc.ok { zM with me := List.replicate n 0 } := ⟨zM_ok.pc, zM_ok.r16, zM_ok.rg, zM_ok.st, fun k => by
  show U64 ((List.replicate n 0).getD k 0)
  have : (List.replicate n (0 : Int)).getD k 0 = 0 := by
    rw [List.getD_eq_getElem?_getD, List.getElem?_replicate]; split <;> rfl
  rw [this]; show (0 : Int) ≤ 0 ∧ (0 : Int) < 18446744073709551616; omega⟩
theorem rep_may (n : Nat) : mayM { zM with me := List.replicate n 0 } = szB n := by
  unfold mayM
  rw [List.length_replicate]
  show (szB n && true) = _
  simp
set_option maxHeartbeats 1000000 in
theorem may19_any (sp : Option Addr) (n cap : Nat) (b d : Int) (w : World) (hn : n ≤ 17592186044416) (hb : -9223372036854775808 ≤ b ∧ b ≤ 9223372036854775807) (hd : -9223372036854775808 ≤ d ∧ d ≤ 9223372036854775807) :
    Calls Try.prog 19 #[.agg #[.slice sp n cap, .int .i64 b, .int .i64 d]] w fun e w' => e = .returned (.bool (imOk n b d)) ∧ Below w.heap.size w w' := by
  have A0 := Arr.new w 24 #[.slice sp n cap, .int .i64 b, .int .i64 d]
  have b0 := ab w (.cells #[.slice sp n cap, .int .i64 b, .int .i64 d] 24)
  have hm : ∀ U, Calls Try.prog 21 #[.agg (mcA { zM with me := List.replicate n 0 } sp n cap)] U fun e w' => e = .returned (.bool (szB n)) ∧ Below U.heap.size U w' := fun U => by
    have := may_anyV { zM with me := List.replicate n 0 } sp n cap U (rep_ok n) (hid (by simp)) hn
    rw [rep_may] at this
    exact this
  have hbu := built45 sp n cap (List.replicate n 0)
  obtain ⟨R, hR⟩ : ∃ R, R = mcA { zM with me := List.replicate n 0 } sp n cap := ⟨_, rfl⟩
  rw [← hR] at hm hbu
  clear hR
  replace hbu := hid hbu
  have a0 := A0.cell 0
  have f0 := A0.frozen 0
  obtain ⟨r, hr⟩ : ∃ r, imOk n b d = r := ⟨_, rfl⟩
  rw [hr]
  unfold imOk at hr
  cases hz : szB n with
  | false =>
    rw [hz] at hr hm
    have hr : r = false := by rw [← hr]; rfl
    subst hr
    clear hz
    go_enter Try.func19, Try.ntmps19
    go_wp2_with (first
      | (refine wpList_plain (by rfl) fun K hK => wp_bdT 29 #[(3, .tmp 4)] (by rfl) (by rfl) hbu.out (hK _ _ ?_))
      | (go_at_call 21; refine (hm _).mono ?_; rintro e w1 ⟨rfl, hb1⟩; go_wp2_with fail))
    go_ret
    exact ⟨rfl, b0.trans (hb1.mono b0.size)⟩
  | true =>
    have hn4 := (szB_le hz).2
    rw [hz] at hr hm
    clear hz
    by_cases h1 : 0 ≤ d
    · by_cases h2 : 0 ≤ b
      · by_cases h3 : b ≤ n - d
        · have hr : r = true := by rw [← hr, Bool.true_and, decide_eq_true ⟨h1, h2, h3⟩]
          have h3' : decide (b ≤ ↑n - d) = true := decide_eq_true h3
          subst hr
          go_enter Try.func19, Try.ntmps19
          go_wp2_with (first
            | (refine wpList_plain (by rfl) fun K hK => wp_bdT 29 #[(3, .tmp 4)] (by rfl) (by rfl) hbu.out (hK _ _ ?_))
            | (go_at_call 21; refine (hm _).mono ?_; rintro e w1 ⟨rfl, hb1⟩; have A1 := A0.bl hb1; have c0 := A1.cell 0; have c1 := A1.cell 1; have c2 := A1.cell 2; clear a0 f0; go_wp2_with fail))
          go_ret
          exact ⟨rfl, b0.trans (hb1.mono b0.size)⟩
        · have hr : r = false := by rw [← hr, Bool.true_and, decide_eq_false (fun h => h3 h.2.2)]
          subst hr
          go_enter Try.func19, Try.ntmps19
          go_wp2_with (first
            | (refine wpList_plain (by rfl) fun K hK => wp_bdT 29 #[(3, .tmp 4)] (by rfl) (by rfl) hbu.out (hK _ _ ?_))
            | (go_at_call 21; refine (hm _).mono ?_; rintro e w1 ⟨rfl, hb1⟩; have A1 := A0.bl hb1; have c0 := A1.cell 0; have c1 := A1.cell 1; have c2 := A1.cell 2; clear a0 f0; go_wp2_with fail))
          go_ret
          refine ⟨?_, b0.trans (hb1.mono b0.size)⟩
          show Ending.returned (.bool (decide (b ≤ ↑n - d))) = _
          rw [decide_eq_false (by omega)]
      · have hr : r = false := by rw [← hr, Bool.true_and, decide_eq_false (fun h => h2 h.2.1)]
        subst hr
        go_enter Try.func19, Try.ntmps19
        go_wp2_with (first
          | (refine wpList_plain (by rfl) fun K hK => wp_bdT 29 #[(3, .tmp 4)] (by rfl) (by rfl) hbu.out (hK _ _ ?_))
          | (go_at_call 21; refine (hm _).mono ?_; rintro e w1 ⟨rfl, hb1⟩; have A1 := A0.bl hb1; have c0 := A1.cell 0; have c1 := A1.cell 1; have c2 := A1.cell 2; clear a0 f0; go_wp2_with fail))
        go_ret
        exact ⟨rfl, b0.trans (hb1.mono b0.size)⟩
    · have hr : r = false := by rw [← hr, Bool.true_and, decide_eq_false (fun h => h1 h.1)]
      subst hr
      go_enter Try.func19, Try.ntmps19
      go_wp2_with (first
        | (refine wpList_plain (by rfl) fun K hK => wp_bdT 29 #[(3, .tmp 4)] (by rfl) (by rfl) hbu.out (hK _ _ ?_))
        | (go_at_call 21; refine (hm _).mono ?_; rintro e w1 ⟨rfl, hb1⟩; have A1 := A0.bl hb1; have c0 := A1.cell 0; have c1 := A1.cell 1; have c2 := A1.cell 2; clear a0 f0; go_wp2_with fail))
      go_ret
      exact ⟨rfl, b0.trans (hb1.mono b0.size)⟩
set_option maxHeartbeats 1000000 in
theorem may18_any (sp : Option Addr) (n cap : Nat) (b d : Int) (w : World) (hn : n ≤ 17592186044416) (hb : -9223372036854775808 ≤ b ∧ b ≤ 9223372036854775807) (hd : -9223372036854775808 ≤ d ∧ d ≤ 9223372036854775807) :
    Calls Try.prog 18 #[.agg #[.slice sp n cap, .int .i64 b, .int .i64 d]] w fun e w' => e = .returned (.bool (imOk n b d)) ∧ Below w.heap.size w w' := by
  have A0 := Arr.new w 24 #[.slice sp n cap, .int .i64 b, .int .i64 d]
  have b0 := ab w (.cells #[.slice sp n cap, .int .i64 b, .int .i64 d] 24)
  have hm : ∀ U, Calls Try.prog 35 #[.int .i64 (n : Int)] U fun e w' => e = .returned (.bool (szB n)) ∧ w' = U := fun U => by
    have := refSize_any (n : Int) U (by omega)
    rw [szI_nat] at this
    exact this
  have a0 := A0.cell 0
  have a1 := A0.cell 1
  have a2 := A0.cell 2
  obtain ⟨r, hr⟩ : ∃ r, imOk n b d = r := ⟨_, rfl⟩
  rw [hr]
  unfold imOk at hr
  cases hz : szB n with
  | false =>
    rw [hz] at hr hm
    have hr : r = false := by rw [← hr]; rfl
    subst hr
    clear hz
    go_enter Try.func18, Try.ntmps18
    go_wp2_with (go_at_call 35; go_must (refine (hm _).mono ?_; rintro e w1 ⟨rfl, h⟩; subst h))
    go_ret
    exact ⟨rfl, b0⟩
  | true =>
    have hn4 := (szB_le hz).2
    rw [hz] at hr hm
    clear hz
    by_cases h2 : 0 ≤ b
    · by_cases h1 : 0 ≤ d
      · by_cases h4 : b ≤ n
        · by_cases h3 : d ≤ n - b
          · have hr : r = true := by rw [← hr, Bool.true_and, decide_eq_true ⟨h1, h2, by omega⟩]
            subst hr
            go_enter Try.func18, Try.ntmps18
            go_wp2_with (go_at_call 35; go_must (refine (hm _).mono ?_; rintro e w1 ⟨rfl, h⟩; subst h))
            go_ret
            exact ⟨rfl, b0⟩
          · have hr : r = false := by rw [← hr, Bool.true_and, decide_eq_false (fun h => h3 (by omega))]
            subst hr
            go_enter Try.func18, Try.ntmps18
            go_wp2_with (go_at_call 35; go_must (refine (hm _).mono ?_; rintro e w1 ⟨rfl, h⟩; subst h))
            go_ret
            refine ⟨?_, b0⟩
            show Ending.returned (.bool (decide (d ≤ ↑n - b))) = _
            rw [decide_eq_false (by omega)]
        · have hr : r = false := by rw [← hr, Bool.true_and, decide_eq_false (fun h => h4 (by omega))]
          subst hr
          go_enter Try.func18, Try.ntmps18
          go_wp2_with (go_at_call 35; go_must (refine (hm _).mono ?_; rintro e w1 ⟨rfl, h⟩; subst h))
          go_ret
          exact ⟨rfl, b0⟩
      · have hr : r = false := by rw [← hr, Bool.true_and, decide_eq_false (fun h => h1 h.1)]
        subst hr
        go_enter Try.func18, Try.ntmps18
        go_wp2_with (go_at_call 35; go_must (refine (hm _).mono ?_; rintro e w1 ⟨rfl, h⟩; subst h))
        go_ret
        exact ⟨rfl, b0⟩
    · have hr : r = false := by rw [← hr, Bool.true_and, decide_eq_false (fun h => h2 h.2.1)]
      subst hr
      go_enter Try.func18, Try.ntmps18
      go_wp2_with (go_at_call 35; go_must (refine (hm _).mono ?_; rintro e w1 ⟨rfl, h⟩; subst h))
      go_ret
      exact ⟨rfl, b0⟩
end Go.Proofs.Ytimmiidkjpbffaa
/- Layer compile: words written over words; copy and clear. -/
namespace Go.Proofs.Ytimmiidkjpbffaa
open Go.RowKit
set_option maxRecDepth 100000
set_option linter.unusedVariables false
set_option linter.unusedSimpArgs false


/-- Words, with others written over from a place on. -/
def spL (L : List Int) (b k : Nat) (f : Nat → Int) : List Int := (List.range L.length).map fun t => if b ≤ t ∧ t < b + k then f (t - b) else L.getD t 0
theorem spL_len (L : List Int) (b k : Nat) (f : Nat → Int) : (spL L b k f).length = L.length := by simp [spL]
theorem spL_get {L : List Int} {b k t : Nat} {f : Nat → Int} (h : t < L.length) : (spL L b k f).getD t 0 = if b ≤ t ∧ t < b + k then f (t - b) else L.getD t 0 := by
  rw [List.getD_eq_getElem?_getD, spL, List.getElem?_map, List.getElem?_range h]; rfl
theorem spL_ext {L M : List Int} (hl : L.length = M.length) (h : ∀ t, t < L.length → L.getD t 0 = M.getD t 0) : L = M := by
  refine List.ext_getElem? fun i => ?_
  by_cases hi : i < L.length
  · have := h i hi
    rw [List.getD_eq_getElem?_getD, List.getD_eq_getElem?_getD, List.getElem?_eq_getElem hi, List.getElem?_eq_getElem (by omega)] at this
    rw [List.getElem?_eq_getElem hi, List.getElem?_eq_getElem (by omega)]
    exact congrArg some this
  · rw [List.getElem?_eq_none (by omega), List.getElem?_eq_none (by omega)]
theorem spL_zero (L : List Int) (b : Nat) (f : Nat → Int) : spL L b 0 f = L := spL_ext (spL_len _ _ _ _) fun t ht => by
  rw [spL_len] at ht; rw [spL_get ht, if_neg (by omega)]
theorem spL_set {L : List Int} {b k : Nat} {f : Nat → Int} (h : b + k < L.length) : (spL L b k f).set (b + k) (f k) = spL L b (k + 1) f := spL_ext (by rw [List.length_set, spL_len, spL_len]) fun t ht => by
  rw [List.length_set, spL_len] at ht
  rw [getD_set _ _ _ _ (by rw [spL_len]; exact h), spL_get ht, spL_get ht]
  by_cases e : t = b + k
  · subst e
    rw [if_pos rfl, if_pos (by omega), Nat.add_sub_cancel_left]
  · rw [if_neg e]
    by_cases e2 : b ≤ t ∧ t < b + k
    · rw [if_pos e2, if_pos (by omega)]
    · rw [if_neg e2, if_neg (by omega)]
theorem spL_cons {L : List Int} {b k : Nat} {x : Int} (h : b < L.length) : spL (L.set b x) (b + 1) k (fun _ => x) = spL L b (k + 1) (fun _ => x) := spL_ext (by rw [spL_len, List.length_set, spL_len]) fun t ht => by
  rw [spL_len, List.length_set] at ht
  rw [spL_get (by rw [List.length_set]; exact ht), spL_get ht, getD_set _ _ _ _ h]
  by_cases e : t = b
  · subst e; rw [if_neg (by omega), if_pos rfl, if_pos (by omega)]
  · by_cases e2 : b + 1 ≤ t ∧ t < b + 1 + k
    · rw [if_pos e2, if_pos (by omega)]
    · rw [if_neg e2, if_neg e, if_neg (by omega)]
theorem spL_two {L : List Int} {b d : Nat} {ds : List Int} (hl : ds.length ≤ d) (h : b + d ≤ L.length) : spL (spL L b ds.length (fun j => ds.getD j 0)) (b + ds.length) (d - ds.length) (fun _ => 0) = spL L b d (fun j => ds.getD j 0) := spL_ext (by simp only [spL_len]) fun t ht => by
  simp only [spL_len] at ht
  rw [spL_get (by rw [spL_len]; exact ht), spL_get ht, spL_get ht]
  by_cases e : b ≤ t ∧ t < b + ds.length
  · rw [if_neg (by omega), if_pos e, if_pos (by omega)]
  · by_cases e2 : b + ds.length ≤ t ∧ t < b + ds.length + (d - ds.length)
    · rw [if_pos e2, if_pos (by omega), List.getD_eq_getElem?_getD, List.getElem?_eq_none (by omega)]; rfl
    · rw [if_neg e2, if_neg e, if_neg (by omega)]
theorem spL_U {L : List Int} {b k : Nat} {f : Nat → Int} (hL : ∀ j, U64 (L.getD j 0)) (hf : ∀ j, U64 (f j)) : ∀ j, U64 ((spL L b k f).getD j 0) := fun t => by
  by_cases h : t < L.length
  · rw [spL_get h]; split
    · exact hf _
    · exact hL _
  · rw [List.getD_eq_getElem?_getD, List.getElem?_eq_none (by rw [spL_len]; omega)]
    show (0 : Int) ≤ 0 ∧ (0 : Int) < 18446744073709551616; omega
theorem setCellsMW {g : Nat} : ∀ (k b : Nat) (L : List Int) (w : World), MW w g L → b + k ≤ L.length → MW (w.setCells g b (List.replicate k (.int .u64 0))) g (spL L b k (fun _ => 0)) ∧ Ch (fun j => j = g) w (w.setCells g b (List.replicate k (.int .u64 0)))
  | 0, b, L, w, h, _ => ⟨by rw [spL_zero]; exact h, Ch.refl _ _⟩
  | k + 1, b, L, w, h, hb => by
    obtain ⟨h1, h2⟩ := setCellsMW k (b + 1) (L.set b 0) (w.setCell ⟨g, b, none⟩ (.int .u64 0)) (h.set (by omega) 0) (by rw [List.length_set]; omega)
    rw [spL_cons (by omega)] at h1
    exact ⟨h1, ((Ch.refl (fun j => j = g) w).st (g := g) (j := b) (.int .u64 0) (fun _ => rfl)).trans h2⟩
theorem Ch.row {S : Nat → Prop} {a b : World} (h : Ch S a b) {g : Nat} (C : Array Value) (hg : g < a.heap.size → S g) : Ch S a (b.setRow g C) :=
  ⟨h.os, h.tape, h.output, by simpa using h.size, fun i hi hn => (setRow_other b g i C (fun e => hn (by rw [e] at hi ⊢; exact hg hi))).trans (h.block i hi hn)⟩
theorem splMW {C : Array Value} {L ds : List Int} {b : Nat} (hC : ∀ t, t < L.length → C[t]? = some (.int .u64 (L.getD t 0))) (h : b + ds.length ≤ L.length) :
    ∀ t, t < (spL L b ds.length (fun j => ds.getD j 0)).length → (C.toList.take b ++ (by64 ds ++ C.toList.drop (b + (by64 ds).length))).toArray[t]? = some (.int .u64 ((spL L b ds.length (fun j => ds.getD j 0)).getD t 0)) := by
  intro t ht
  rw [spL_len] at ht
  rw [spL_get ht]
  have hs : L.length ≤ C.size := by
    have := (Array.getElem?_eq_some_iff.1 (hC (L.length - 1) (by omega))).1
    omega
  have hct := hC t ht
  rw [List.getElem?_toArray]
  rw [← Array.getElem?_toList] at hct
  by_cases h1 : t < b
  · rw [if_neg (by omega), List.getElem?_append_left (by rw [List.length_take, Array.length_toList]; omega), List.getElem?_take, if_pos h1]
    exact hct
  · rw [List.getElem?_append_right (by rw [List.length_take, Array.length_toList]; omega), List.length_take, show min b C.toList.length = b by rw [Array.length_toList]; omega]
    by_cases h2 : t < b + ds.length
    · rw [if_pos (by omega), List.getElem?_append_left (by rw [by64_len]; omega)]
      rw [by64, List.getElem?_map, List.getD_eq_getElem?_getD, List.getElem?_eq_getElem (by omega)]
      rfl
    · rw [if_neg (by omega), List.getElem?_append_right (by rw [by64_len]; omega), by64_len, List.getElem?_drop, show b + ds.length + (t - b - ds.length) = t by omega]
      exact hct
/-- copy, of words over those of a memory. -/
theorem copy_mw {ops : Array Oper} {rest : List Oper} {o : Oper} {a : Act} {w : World} {Q : Exit → Act → World → Prop} (hgd : o.guard = none) (x y : Operand) (ho : o.op = .call { callee := .builtin .copy, args := #[x, y], argTypes := #[22, 22] })
    (gm b dLen dCap : Nat) (hx : a.eval x = .slice (some ⟨gm, b, none⟩) dLen dCap) (sq : Option Addr) (nd cd : Nat) (hy : a.eval y = .slice sq nd cd) {L ds : List Int} {N : Nat} (hM : MW w gm L) (hD : MS N w sq nd cd ds) (hle : nd ≤ dLen) (hfit : b + dLen ≤ L.length)
    (h : ∀ W, MW W gm (spL L b ds.length (fun j => ds.getD j 0)) → Ch (fun j => j = gm) w W → wpList Try.prog ops Q rest (a.put o.dst (.int .i64 (nd : Int))) W) : wpList Try.prog ops Q (o :: rest) a w := by
  have hl := hD.len.out
  by_cases h0 : nd = 0
  · have hds : ds = [] := List.eq_nil_of_length_eq_zero (by omega)
    refine wpList_copy_nothing hgd x y 22 22 ho 25 Try.underlying22 size26 _ sq dLen dCap nd cd hx hy (by rw [h0]; exact Nat.zero_min _) ?_
    have := h w (by rw [hds]; show MW w gm (spL L b 0 _); rw [spL_zero]; exact hM) (Ch.refl _ _)
    rw [h0] at this
    exact this
  · obtain ⟨gd, od, rfl, hgd2, hcd⟩ := hD.at0 (by omega)
    obtain ⟨C, hCA, hC⟩ := hM
    have hCs : L.length ≤ C.size := by
      have := (Array.getElem?_eq_some_iff.1 (hC (L.length - 1) (by omega))).1
      omega
    have hsrc : ∀ j v, (by64 ds)[j]? = some v → w.cell? ((⟨gd, od, none⟩ : Addr).add j) = some v := fun j v hv => by
      have hj : j < ds.length := by have := (List.getElem?_eq_some_iff.1 hv).1; rwa [by64_len] at this
      rw [by64_getV hj] at hv
      rw [Addr.add_mid, hcd j (by omega)]; exact hv
    refine wpList_copy_own hgd x y 22 22 ho 25 Try.underlying22 size26 gm b dLen dCap ⟨gd, od, none⟩ nd cd hx hy C 25 hCA (by64 ds) (by rw [by64_len, ← hl]; exact (Nat.min_eq_left (by omega)).symm) hsrc (by rw [by64_len]; omega) (by64_one _) ?_
    rw [show ((by64 ds).length) = nd by rw [by64_len]; omega]
    have hW := h (w.setRow gm (C.toList.take b ++ (by64 ds ++ C.toList.drop (b + (by64 ds).length))).toArray) ⟨_, hCA.setRow _, splMW hC (by omega)⟩ ((Ch.refl _ w).row _ (fun _ => rfl))
    rw [show ((by64 ds).length) = nd by rw [by64_len]; omega] at hW
    exact hW
theorem word_zeroP {P : Program} {t : TypeId} (h : (P.info? t).map (fun i => (i.zero, i.size, i.bytes)) = some (some (.int .u64 0), 1, 8)) : ∀ w, (zeroValue t).run P w = .ok (.int .u64 0) w := by
  obtain ⟨i0, hi, hz0, -, -⟩ := info_parts h
  intro w
  simp [zeroValue, typeInfo, hi, hz0]
theorem word_zero : ∀ (w : World), (zeroValue 25).run Try.prog w = .ok (.int .u64 0) w := word_zeroP info26
/-- clear, of words of a memory. -/
theorem clear_mw {ops : Array Oper} {rest : List Oper} {o : Oper} {a : Act} {w : World} {Q : Exit → Act → World → Prop} (hgd : o.guard = none) (x : Operand) (ho : o.op = .call { callee := .builtin .clear, args := #[x], argTypes := #[22] })
    (gm b k c : Nat) (hx : a.eval x = .slice (some ⟨gm, b, none⟩) k c) {L : List Int} (hM : MW w gm L) (hfit : b + k ≤ L.length)
    (h : ∀ W, MW W gm (spL L b k (fun _ => 0)) → Ch (fun j => j = gm) w W → wpList Try.prog ops Q rest (a.put o.dst (.tuple #[])) W) : wpList Try.prog ops Q (o :: rest) a w := by
  obtain ⟨i0, hi, hz0, hz1, hz2⟩ := info_parts info26
  have hrun : (Builtin.clear_ #[22] o.type #[.slice (some ⟨gm, b, none⟩) k c]).run Try.prog w = .ok (.tuple #[]) (w.setCells gm b (List.replicate k (.int .u64 0))) := by
    by_cases h0 : k = 0
    · subst h0
      simp [Builtin.clear_, run_underlying Try.underlying22]
      rfl
    · exact Lib.run_clear_slice w 22 25 o.type (.int .u64 0) Try.underlying22 word_zero rfl rfl gm b k c (by omega) (fun j hj => by rw [hM.cell (by omega)]; rfl) (fun j _ => hM.frozen _)
  obtain ⟨h1, h2⟩ := setCellsMW k b L w hM hfit
  have hK' := h _ h1 h2
  refine wpList_plain hgd fun K hK => ?_
  unfold Oper.wp
  simp [execOp, ho, resolve, invoke, builtin, hx, hrun, Result.andThen]
  exact hK _ _ hK'
end Go.Proofs.Ytimmiidkjpbffaa
