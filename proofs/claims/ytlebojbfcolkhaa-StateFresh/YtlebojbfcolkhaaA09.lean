/- Me, Tt, Ts, Tu. -/
import Derived.Test.YtlebojbfcolkhaaMd
import Derived.Test.YtlebojbfcolkhaaA04
import Derived.Test.YtlebojbfcolkhaaA03
import Derived.Test.YtlebojbfcolkhaaA05
import Derived.Deep.RegionHeld3
/- Layer merkle: Check, Swap. -/
namespace Go.Proofs.Ytlebojbfcolkhaa
open Go.RowKit
set_option maxRecDepth 100000
set_option linter.unusedVariables false
set_option linter.unusedSimpArgs false

/-- A sum out of memory, guarded or not. -/
theorem ld24g {ops : Array Oper} {rest : List Oper} {o : Oper} {a : Act} {w : World} {Q : Exit → Act → World → Prop} (hgd : Region.wanted o (yielded ops a.tmps) = true) (x : Operand) (ho : o.op = .load 24 x)
    (b off : Nat) (hx : a.eval x = .pointer (some ⟨b, off, none⟩)) (X : List Int) (hX : X.length = 32) (hc : w.rangeAt b off (by8 X))
    (h : wpList Try.prog ops Q rest (a.put o.dst (.agg (h8 X))) w) : wpList Try.prog ops Q (o :: rest) a w :=
  wpList_want hgd fun _ hK => wp_load_mid 24 x ho b off hx (by8 X) _ hc Try.underlying24 rfl (by rw [by8_len, hX]; exact size24) (hK _ _ h)
/-- Whether a leaf checks. -/
def ckB (R : List Int) (i : Int) (X : List Int) (ls : List (List Int)) : Bool := decide (FoOK i ls.length ∧ fo i.toNat X ls = R)
set_option maxRecDepth 100000 in
set_option maxHeartbeats 1000000 in
theorem check_any (R : List Int) (i : Int) (X : List Int) (N : Nat) (sp : Option Addr) (n cap : Nat) (ls : List (List Int)) (w : World) (hR : R.length = 32) (hX : X.length = 32) (hS : HS N w sp n cap ls) :
    Calls Try.prog 56 #[.agg (h8 R), .int .i64 i, .agg (h8 X), .slice sp n cap] w fun e w' => e = .returned (.bool (ckB R i X ls)) ∧ Below w.heap.size w w' := by
  have hb2 : Below w.heap.size w ((w.alloc (.cells (h8 R) 24)).alloc (.cells (h8 X) 24)) := (alloc_bel' w _).alloc (by simp) _
  have A0 := (Arr.new w 24 (h8 R)).alloc (.cells (h8 X) 24)
  have A1 := Arr.new (w.alloc (.cells (h8 R) 24)) 24 (h8 X)
  rw [World.size_alloc] at A1
  have hS2 := hS.here.below hb2
  have hF := fun w hS => fold_any i X w.heap.size sp n cap ls w hX hS
  unfold foR foE at hF
  unfold ckB
  by_cases h : FoOK i ls.length
  · rw [if_pos h, if_pos h] at hF
    have hfl := fo_len (i := i.toNat) (ps := ls) hX
    have E := run_eq24 hfl hR
    rw [show decide (FoOK i ls.length ∧ fo i.toNat X ls = R) = decide (fo i.toNat X ls = R) from decide_eq_decide.2 ⟨fun q => q.2, fun q => ⟨h, q⟩⟩]
    generalize fo i.toNat X ls = Y at *
    clear h
    generalize decide (Y = R) = b at *
    go_enter Try.func56, Try.ntmps56
    go_wp2_with (first
      | (refine ld24g (by rfl) _ (by rfl) (w.heap.size + 1) 0 (by rfl) X hX A1.range ?_)
      | (go_at_call 44; go_must (refine (hF _ (hS2.mono (by simp <;> omega))).mono ?_; rintro e w2 ⟨rfl, hb3⟩; have hs3 := hb3.size; simp at hs3; have B0 := (A0.below hb3 (by simp <;> omega)).alloc (.cells (h8 Y) 24); have B1 := Arr.new w2 24 (h8 Y)))
      | (refine st24n (by rfl) _ _ (by rfl) w2 w2.heap.size rfl (by rfl) Y (by rfl) (by rfl) hfl ?_)
      | (refine ld24g (by rfl) _ (by rfl) w2.heap.size 0 (by rfl) Y hfl B1.range ?_)
      | (refine ld24g (by rfl) _ (by rfl) w.heap.size 0 (by rfl) R hR B0.range ?_))
    go_ret
    exact ⟨rfl, (hb2.trans (hb3.mono (by simp <;> omega))).alloc (by omega) _⟩
  · rw [if_neg h, if_neg h] at hF
    rw [decide_eq_false (fun hh => h hh.1)]
    clear h
    go_enter Try.func56, Try.ntmps56
    go_wp2_with (first
      | (refine ld24g (by rfl) _ (by rfl) (w.heap.size + 1) 0 (by rfl) X hX A1.range ?_)
      | (go_at_call 44; go_must (refine (hF _ (hS2.mono (by simp <;> omega))).mono ?_; rintro e w2 ⟨rfl, hb3⟩; have hs3 := hb3.size; simp at hs3; have B1 := Arr.new w2 24 (h8 Z32)))
      | (refine st24n (by rfl) _ _ (by rfl) w2 w2.heap.size rfl (by rfl) Z32 (by rfl) (by rfl) Z32_len ?_))
    go_ret
    exact ⟨rfl, (hb2.trans (hb3.mono (by simp <;> omega))).alloc (by omega) _⟩
/-- What Swap answers. -/
def swR (R : List Int) (i : Int) (X Y : List Int) (ls : List (List Int)) : List Int := if ckB R i X ls = true then fo i.toNat Y ls else Z32
theorem swR_len {R : List Int} {i : Int} {X Y : List Int} {ls : List (List Int)} (hY : Y.length = 32) : (swR R i X Y ls).length = 32 := by
  unfold swR; split
  · exact fo_len hY
  · exact Z32_len
end Go.Proofs.Ytlebojbfcolkhaa
namespace Go.Proofs.Ytlebojbfcolkhaa
open Go.RowKit
set_option maxRecDepth 100000

theorem conv_bytes (sp : Option Addr) (n cap : Nat) (L : List Int) (w : World) (hn : n = L.length) (hnil : sp = none → n = 0 ∧ cap = 0) (hS : SlL w sp L) :
    (convert 59 9 (.slice sp n cap)).run Try.prog w = .ok (.string (strOfNums L)) w := by
  subst hn
  cases sp with
  | none =>
    obtain ⟨h1, rfl⟩ := hnil rfl
    obtain rfl : L = [] := List.eq_nil_of_length_eq_zero h1
    exact run_convert_bytes_nil w 59 5 Try.underlying59 Try.underlying5 0 0 9 Try.underlying9
  | some ad =>
    by_cases h0 : 0 < L.length
    · obtain ⟨b, off, e, hB⟩ := hS h0
      obtain rfl := Option.some.inj e
      exact run_convert_bytes_arg w 59 5 Try.underlying59 Try.underlying5 b off L.length cap L rfl hB 9 Try.underlying9
    · obtain rfl : L = [] := List.eq_nil_of_length_eq_zero (by omega)
      rw [run_convert_bytes_string w 59 9 5 _ _ cap Try.underlying59 Try.underlying5 Try.underlying9]
      have hl : (loadCells ad 0).run Try.prog w = .ok ((([] : List Int).map (Value.int .u8)).toArray) w := by simp [loadCells, loadCellsFrom]
      have := run_bytesToString w ad 0 cap [] hl
      exact this

end Go.Proofs.Ytlebojbfcolkhaa
namespace Go.Proofs.Ytlebojbfcolkhaa
open Go.RowKit
set_option maxRecDepth 100000

set_option maxRecDepth 100000 in
set_option maxHeartbeats 2000000 in
theorem sum_none (B : Nat → Int) (w : World) :
    Calls Try.prog 79 #[.slice none 0 0] w fun e w' => ∃ C : Array Value, e = .returned (.agg C) ∧ C.size = 32 ∧ (∀ t, t < 32 → C[t]? = some (.int .u8 (outB (shaSt B 0 0) t))) ∧ Below w.heap.size w w' := by
  have hS0 : ∀ (u : World) (q : Option Addr), Sl u q 0 B := fun _ _ h0 => absurd h0 (by omega)
  have E1 : shaSt B 0 0 = absorbN kOf (padB B 0 0 64) h0St 1 := by rw [shaSt_one (by omega), show (fun t => B (64 * 0 + t)) = B from funext fun t => by rw [Nat.mul_zero, Nat.zero_add]]; rfl
  have E1 := Hid.mk' E1
  go_enter Try.func79, Try.ntmps79
  go_upto_region 4 with (first
    | (go_at_call 93; go_must (refine (roundNumbers_any _).mono ?_; rintro e w1 ⟨rfl, hb1⟩))
    | (refine wpList_store_new w1 _ 141 (by rfl) 141 (.tmp 3) (.tmp 6) (by rfl) kCells (by rfl) (by rfl) (Eq.trans size46 (by rfl)) (by rfl) (one_ints kCells_size kCells_get) ?_)
    | (go_at_call 94; go_must (refine (firstWords_any _).mono ?_; rintro e w2 ⟨rfl, hb2⟩))
    | (refine wpList_store_new w2 _ 132 (by rfl) 132 (.tmp 4) (.tmp 7) (by rfl) h0St.cells (by rfl) (by rfl) (s48 _) (by rfl) (St.one _) ?_))
  have hA4 : Arr (w2.alloc (.cells h0St.cells 132)) w2.heap.size 132 h0St.cells := Arr.new _ _ _
  have hK3 : Arr (w2.alloc (.cells h0St.cells 132)) w1.heap.size 141 kCells := ((Arr.new w1 141 kCells).below hb2 (by simp)).alloc _
  have hg34 : w.heap.size < w1.heap.size := by have := hb1.size; simp at this; omega
  have hg45 : w1.heap.size < w2.heap.size := by have := hb2.size; simp at this; omega
  have hbl : Below w.heap.size w (w2.alloc (.cells h0St.cells 132)) :=
    ((((((Below.refl _ _).alloc (Nat.le_refl _) _).trans (hb1.mono (by simp))).alloc (by omega) _).trans (hb2.mono (by simp; omega))).alloc (by omega) _)
  have hR : ∃ Z : Array Value, Z.size = 32 ∧ Arr (w2.alloc (.cells h0St.cells 132)) w.heap.size 24 Z :=
    ⟨_, by rfl, ((((Arr.new w 24 _).below hb1 (by simp)).alloc _).below hb2 (by simp; omega)).alloc _⟩
  obtain ⟨Z, hZs, hZ⟩ := hR
  clear hb1 hb2
  generalize w2.alloc (.cells h0St.cells 132) = W at *
  generalize w2.heap.size = g4 at *
  generalize w1.heap.size = g3 at *
  go_cut [] from 6 (fun wc => Arr wc g4 132 h0St.cells ∧ Arr wc g3 141 kCells ∧ Arr wc w.heap.size 24 Z ∧ Below w.heap.size w wc)
  case first =>
    obtain ⟨c0, c1, c2, c3, c4, c5, c6, c7⟩ := hA4.cells8
    go_region_with (first
      | (go_at_call 95; go_must (refine (absorb_zero h0St _ _ g3 _).mono ?_; rintro e w3 ⟨rfl, hb3⟩; have hA5 := hA4.drew.below hb3 hA4.lt; have hst := hA5.store8 h0St)))
    all_goals
      go_wp2_with fail
      go_meet
      exact ⟨hA5.setRow _, (hK3.drew.below hb3 hK3.lt).setRowOther _ (by omega), (hZ.drew.below hb3 hZ.lt).setRowOther _ (by omega), below_setRow (hbl.drew.trans (hb3.mono hbl.size)) (by omega) _⟩
  case rest =>
    clear hA4 hK3 hbl hZ
    obtain ⟨hA4, hK3, hZ, hbl⟩ := hcut
    go_upto_region 5 with fail
    obtain ⟨c0, c1, c2, c3, c4, c5, c6, c7⟩ := hA4.cells8
    go_cut [] from 6 (fun wc => Arr wc g4 132 (shaSt B 0 0).cells ∧ Arr wc w.heap.size 24 Z ∧ Below w.heap.size w wc)
    case first =>
      go_region_with (first
        | (go_at_call 96; go_must (refine (lastBlocks_any _ 0 _ 64 0 B wc.drew (hS0 _ _) (Or.inr ⟨by omega, rfl⟩) (by omega) (by omega) (by omega)).mono ?_; rintro e w4 ⟨C, rfl, hC, hCs, hCw, hb4⟩; have hA6 := hA4.drew.below hb4 hA4.lt; have hK6 := (hK3.drew.below hb4 hK3.lt).row kCells_get; have hg3 := (hK3.drew.below hb4 hK3.lt).lt; have hBy : Bytes w4 wc.heap.size 0 (64 * 1) (padB B 0 0 64) := (fun t ht => by rw [Nat.zero_add]; exact (hC.cell t).trans (hCw t ht)); obtain ⟨c0, c1, c2, c3, c4, c5, c6, c7⟩ := hA6.cells8; clear hCw))
        | (go_at_call 95; go_must (refine (absorb_any h0St wc.heap.size 0 64 1 g3 kOf _ w4 hBy (by omega) (by omega) hg3 hK6).mono ?_; rintro e w5 ⟨rfl, hb5⟩; have hA7 := hA6.below hb5 hA6.lt; have hst := hA7.store8 (absorbN kOf (padB B 0 0 64) h0St 1))))
      all_goals
        go_wp2_with fail
        go_meet
        rw [E1.out]
        exact ⟨hA7.setRow _, (((hZ.drew.below hb4 hZ.lt).below hb5 (hZ.drew.below hb4 hZ.lt).lt)).setRowOther _ (by omega), below_setRow ((hbl.drew.trans (hb4.mono hbl.size)).trans (hb5.mono (Nat.le_trans hbl.size hb4.size))) (by omega) _⟩
    case rest =>
      clear hA4 hK3 hbl hZ c0 c1 c2 c3 c4 c5 c6 c7
      obtain ⟨hA4, hZ, hbl⟩ := hcut
      go_wp2_with (first
        | (refine wpList_load_row rfl 132 (.tmp 4) rfl g4 rfl 132 (shaSt B 0 0).cells (0, 0) _ hA4 Try.underlying132 rfl (s48 _) ?_)
        | (go_at_call 97; go_must (refine (fromWords_any (shaSt B 0 0) _).mono ?_; rintro e w6 ⟨C, rfl, hCs, hCw, hb6⟩; have hZ6 := hZ.below hb6 hZ.lt))
        | (refine wpList_store_arr rfl 24 (.tmp 2) (.tmp 29) rfl w.heap.size C rfl rfl 24 Z hZ6 (by rw [hCs]; exact size24) (by rw [hCs]; exact hZs) (one_ints hCs hCw) ?_))
      exact bodyPost_ret (v := .agg C) (results_cell_row Try.results79 _ _ w.heap.size 24 C (0, 0) _ rfl (hZ6.setRow C) Try.underlying24 rfl (by rw [hCs]; exact size24)) rfl ⟨C, rfl, hCs, hCw, below_setRow (hbl.trans (hb6.mono hbl.size)) (Nat.le_refl _) C⟩

set_option maxRecDepth 100000 in
set_option maxHeartbeats 2000000 in
theorem sum_ad0 (ad : Addr) (B : Nat → Int) (w : World) :
    Calls Try.prog 79 #[.slice (some ad) 0 0] w fun e w' => ∃ C : Array Value, e = .returned (.agg C) ∧ C.size = 32 ∧ (∀ t, t < 32 → C[t]? = some (.int .u8 (outB (shaSt B 0 0) t))) ∧ Below w.heap.size w w' := by
  have hS0 : ∀ (u : World) (q : Option Addr), Sl u q 0 B := fun _ _ h0 => absurd h0 (by omega)
  have E1 : shaSt B 0 0 = absorbN kOf (padB B 0 0 64) h0St 1 := by rw [shaSt_one (by omega), show (fun t => B (64 * 0 + t)) = B from funext fun t => by rw [Nat.mul_zero, Nat.zero_add]]; rfl
  have E1 := Hid.mk' E1
  go_enter Try.func79, Try.ntmps79
  go_upto_region 4 with (first
    | (go_at_call 93; go_must (refine (roundNumbers_any _).mono ?_; rintro e w1 ⟨rfl, hb1⟩))
    | (refine wpList_store_new w1 _ 141 (by rfl) 141 (.tmp 3) (.tmp 6) (by rfl) kCells (by rfl) (by rfl) (Eq.trans size46 (by rfl)) (by rfl) (one_ints kCells_size kCells_get) ?_)
    | (go_at_call 94; go_must (refine (firstWords_any _).mono ?_; rintro e w2 ⟨rfl, hb2⟩))
    | (refine wpList_store_new w2 _ 132 (by rfl) 132 (.tmp 4) (.tmp 7) (by rfl) h0St.cells (by rfl) (by rfl) (s48 _) (by rfl) (St.one _) ?_))
  have hA4 : Arr (w2.alloc (.cells h0St.cells 132)) w2.heap.size 132 h0St.cells := Arr.new _ _ _
  have hK3 : Arr (w2.alloc (.cells h0St.cells 132)) w1.heap.size 141 kCells := ((Arr.new w1 141 kCells).below hb2 (by simp)).alloc _
  have hg34 : w.heap.size < w1.heap.size := by have := hb1.size; simp at this; omega
  have hg45 : w1.heap.size < w2.heap.size := by have := hb2.size; simp at this; omega
  have hbl : Below w.heap.size w (w2.alloc (.cells h0St.cells 132)) :=
    ((((((Below.refl _ _).alloc (Nat.le_refl _) _).trans (hb1.mono (by simp))).alloc (by omega) _).trans (hb2.mono (by simp; omega))).alloc (by omega) _)
  have hR : ∃ Z : Array Value, Z.size = 32 ∧ Arr (w2.alloc (.cells h0St.cells 132)) w.heap.size 24 Z :=
    ⟨_, by rfl, ((((Arr.new w 24 _).below hb1 (by simp)).alloc _).below hb2 (by simp; omega)).alloc _⟩
  obtain ⟨Z, hZs, hZ⟩ := hR
  clear hb1 hb2
  generalize w2.alloc (.cells h0St.cells 132) = W at *
  generalize w2.heap.size = g4 at *
  generalize w1.heap.size = g3 at *
  go_cut [] from 6 (fun wc => Arr wc g4 132 h0St.cells ∧ Arr wc g3 141 kCells ∧ Arr wc w.heap.size 24 Z ∧ Below w.heap.size w wc)
  case first =>
    obtain ⟨c0, c1, c2, c3, c4, c5, c6, c7⟩ := hA4.cells8
    go_region_with (first
      | (go_at_call 95; go_must (refine (absorb_zero h0St _ _ g3 _).mono ?_; rintro e w3 ⟨rfl, hb3⟩; have hA5 := hA4.drew.below hb3 hA4.lt; have hst := hA5.store8 h0St)))
    all_goals
      go_wp2_with fail
      go_meet
      exact ⟨hA5.setRow _, (hK3.drew.below hb3 hK3.lt).setRowOther _ (by omega), (hZ.drew.below hb3 hZ.lt).setRowOther _ (by omega), below_setRow (hbl.drew.trans (hb3.mono hbl.size)) (by omega) _⟩
  case rest =>
    clear hA4 hK3 hbl hZ
    obtain ⟨hA4, hK3, hZ, hbl⟩ := hcut
    go_upto_region 5 with fail
    obtain ⟨c0, c1, c2, c3, c4, c5, c6, c7⟩ := hA4.cells8
    go_cut [] from 6 (fun wc => Arr wc g4 132 (shaSt B 0 0).cells ∧ Arr wc w.heap.size 24 Z ∧ Below w.heap.size w wc)
    case first =>
      go_region_with (first
        | (go_at_call 96; go_must (refine (lastBlocks_any _ 0 _ 64 0 B wc.drew (hS0 _ _) (Or.inr ⟨by omega, rfl⟩) (by omega) (by omega) (by omega)).mono ?_; rintro e w4 ⟨C, rfl, hC, hCs, hCw, hb4⟩; have hA6 := hA4.drew.below hb4 hA4.lt; have hK6 := (hK3.drew.below hb4 hK3.lt).row kCells_get; have hg3 := (hK3.drew.below hb4 hK3.lt).lt; have hBy : Bytes w4 wc.heap.size 0 (64 * 1) (padB B 0 0 64) := (fun t ht => by rw [Nat.zero_add]; exact (hC.cell t).trans (hCw t ht)); obtain ⟨c0, c1, c2, c3, c4, c5, c6, c7⟩ := hA6.cells8; clear hCw))
        | (go_at_call 95; go_must (refine (absorb_any h0St wc.heap.size 0 64 1 g3 kOf _ w4 hBy (by omega) (by omega) hg3 hK6).mono ?_; rintro e w5 ⟨rfl, hb5⟩; have hA7 := hA6.below hb5 hA6.lt; have hst := hA7.store8 (absorbN kOf (padB B 0 0 64) h0St 1))))
      all_goals
        go_wp2_with fail
        go_meet
        rw [E1.out]
        exact ⟨hA7.setRow _, (((hZ.drew.below hb4 hZ.lt).below hb5 (hZ.drew.below hb4 hZ.lt).lt)).setRowOther _ (by omega), below_setRow ((hbl.drew.trans (hb4.mono hbl.size)).trans (hb5.mono (Nat.le_trans hbl.size hb4.size))) (by omega) _⟩
    case rest =>
      clear hA4 hK3 hbl hZ c0 c1 c2 c3 c4 c5 c6 c7
      obtain ⟨hA4, hZ, hbl⟩ := hcut
      go_wp2_with (first
        | (refine wpList_load_row rfl 132 (.tmp 4) rfl g4 rfl 132 (shaSt B 0 0).cells (0, 0) _ hA4 Try.underlying132 rfl (s48 _) ?_)
        | (go_at_call 97; go_must (refine (fromWords_any (shaSt B 0 0) _).mono ?_; rintro e w6 ⟨C, rfl, hCs, hCw, hb6⟩; have hZ6 := hZ.below hb6 hZ.lt))
        | (refine wpList_store_arr rfl 24 (.tmp 2) (.tmp 29) rfl w.heap.size C rfl rfl 24 Z hZ6 (by rw [hCs]; exact size24) (by rw [hCs]; exact hZs) (one_ints hCs hCw) ?_))
      exact bodyPost_ret (v := .agg C) (results_cell_row Try.results79 _ _ w.heap.size 24 C (0, 0) _ rfl (hZ6.setRow C) Try.underlying24 rfl (by rw [hCs]; exact size24)) rfl ⟨C, rfl, hCs, hCw, below_setRow (hbl.trans (hb6.mono hbl.size)) (Nat.le_refl _) C⟩

set_option maxRecDepth 100000 in
set_option maxHeartbeats 2000000 in
theorem sum_ad (ad : Addr) (cap : Nat) (hc : 0 < cap) (B : Nat → Int) (w : World) :
    Calls Try.prog 79 #[.slice (some ad) 0 cap] w fun e w' => ∃ C : Array Value, e = .returned (.agg C) ∧ C.size = 32 ∧ (∀ t, t < 32 → C[t]? = some (.int .u8 (outB (shaSt B 0 0) t))) ∧ Below w.heap.size w w' := by
  have hS0 : ∀ (u : World) (q : Option Addr), Sl u q 0 B := fun _ _ h0 => absurd h0 (by omega)
  have E1 : shaSt B 0 0 = absorbN kOf (padB B 0 0 64) h0St 1 := by rw [shaSt_one (by omega), show (fun t => B (64 * 0 + t)) = B from funext fun t => by rw [Nat.mul_zero, Nat.zero_add]]; rfl
  have E1 := Hid.mk' E1
  have hcI : (0 : Int) < cap := by omega
  go_enter Try.func79, Try.ntmps79
  go_upto_region 4 with (first
    | (go_at_call 93; go_must (refine (roundNumbers_any _).mono ?_; rintro e w1 ⟨rfl, hb1⟩))
    | (refine wpList_store_new w1 _ 141 (by rfl) 141 (.tmp 3) (.tmp 6) (by rfl) kCells (by rfl) (by rfl) (Eq.trans size46 (by rfl)) (by rfl) (one_ints kCells_size kCells_get) ?_)
    | (go_at_call 94; go_must (refine (firstWords_any _).mono ?_; rintro e w2 ⟨rfl, hb2⟩))
    | (refine wpList_store_new w2 _ 132 (by rfl) 132 (.tmp 4) (.tmp 7) (by rfl) h0St.cells (by rfl) (by rfl) (s48 _) (by rfl) (St.one _) ?_))
  have hA4 : Arr (w2.alloc (.cells h0St.cells 132)) w2.heap.size 132 h0St.cells := Arr.new _ _ _
  have hK3 : Arr (w2.alloc (.cells h0St.cells 132)) w1.heap.size 141 kCells := ((Arr.new w1 141 kCells).below hb2 (by simp)).alloc _
  have hg34 : w.heap.size < w1.heap.size := by have := hb1.size; simp at this; omega
  have hg45 : w1.heap.size < w2.heap.size := by have := hb2.size; simp at this; omega
  have hbl : Below w.heap.size w (w2.alloc (.cells h0St.cells 132)) :=
    ((((((Below.refl _ _).alloc (Nat.le_refl _) _).trans (hb1.mono (by simp))).alloc (by omega) _).trans (hb2.mono (by simp; omega))).alloc (by omega) _)
  have hR : ∃ Z : Array Value, Z.size = 32 ∧ Arr (w2.alloc (.cells h0St.cells 132)) w.heap.size 24 Z :=
    ⟨_, by rfl, ((((Arr.new w 24 _).below hb1 (by simp)).alloc _).below hb2 (by simp; omega)).alloc _⟩
  obtain ⟨Z, hZs, hZ⟩ := hR
  clear hb1 hb2
  generalize w2.alloc (.cells h0St.cells 132) = W at *
  generalize w2.heap.size = g4 at *
  generalize w1.heap.size = g3 at *
  go_cut [] from 6 (fun wc => Arr wc g4 132 h0St.cells ∧ Arr wc g3 141 kCells ∧ Arr wc w.heap.size 24 Z ∧ Below w.heap.size w wc)
  case first =>
    obtain ⟨c0, c1, c2, c3, c4, c5, c6, c7⟩ := hA4.cells8
    go_region_with (first
      | (go_at_call 95; go_must (refine (absorb_zero h0St _ _ g3 _).mono ?_; rintro e w3 ⟨rfl, hb3⟩; have hA5 := hA4.drew.below hb3 hA4.lt; have hst := hA5.store8 h0St)))
    all_goals
      go_wp2_with fail
      go_meet
      exact ⟨hA5.setRow _, (hK3.drew.below hb3 hK3.lt).setRowOther _ (by omega), (hZ.drew.below hb3 hZ.lt).setRowOther _ (by omega), below_setRow (hbl.drew.trans (hb3.mono hbl.size)) (by omega) _⟩
  case rest =>
    clear hA4 hK3 hbl hZ
    obtain ⟨hA4, hK3, hZ, hbl⟩ := hcut
    go_upto_region 5 with fail
    obtain ⟨c0, c1, c2, c3, c4, c5, c6, c7⟩ := hA4.cells8
    go_cut [] from 6 (fun wc => Arr wc g4 132 (shaSt B 0 0).cells ∧ Arr wc w.heap.size 24 Z ∧ Below w.heap.size w wc)
    case first =>
      go_region_with (first
        | (go_at_call 96; go_must (refine (lastBlocks_any _ 0 _ 64 0 B wc.drew (hS0 _ _) (Or.inr ⟨by omega, rfl⟩) (by omega) (by omega) (by omega)).mono ?_; rintro e w4 ⟨C, rfl, hC, hCs, hCw, hb4⟩; have hA6 := hA4.drew.below hb4 hA4.lt; have hK6 := (hK3.drew.below hb4 hK3.lt).row kCells_get; have hg3 := (hK3.drew.below hb4 hK3.lt).lt; have hBy : Bytes w4 wc.heap.size 0 (64 * 1) (padB B 0 0 64) := (fun t ht => by rw [Nat.zero_add]; exact (hC.cell t).trans (hCw t ht)); obtain ⟨c0, c1, c2, c3, c4, c5, c6, c7⟩ := hA6.cells8; clear hCw))
        | (go_at_call 95; go_must (refine (absorb_any h0St wc.heap.size 0 64 1 g3 kOf _ w4 hBy (by omega) (by omega) hg3 hK6).mono ?_; rintro e w5 ⟨rfl, hb5⟩; have hA7 := hA6.below hb5 hA6.lt; have hst := hA7.store8 (absorbN kOf (padB B 0 0 64) h0St 1))))
      all_goals
        go_wp2_with fail
        go_meet
        rw [E1.out]
        exact ⟨hA7.setRow _, (((hZ.drew.below hb4 hZ.lt).below hb5 (hZ.drew.below hb4 hZ.lt).lt)).setRowOther _ (by omega), below_setRow ((hbl.drew.trans (hb4.mono hbl.size)).trans (hb5.mono (Nat.le_trans hbl.size hb4.size))) (by omega) _⟩
    case rest =>
      clear hA4 hK3 hbl hZ c0 c1 c2 c3 c4 c5 c6 c7
      obtain ⟨hA4, hZ, hbl⟩ := hcut
      go_wp2_with (first
        | (refine wpList_load_row rfl 132 (.tmp 4) rfl g4 rfl 132 (shaSt B 0 0).cells (0, 0) _ hA4 Try.underlying132 rfl (s48 _) ?_)
        | (go_at_call 97; go_must (refine (fromWords_any (shaSt B 0 0) _).mono ?_; rintro e w6 ⟨C, rfl, hCs, hCw, hb6⟩; have hZ6 := hZ.below hb6 hZ.lt))
        | (refine wpList_store_arr rfl 24 (.tmp 2) (.tmp 29) rfl w.heap.size C rfl rfl 24 Z hZ6 (by rw [hCs]; exact size24) (by rw [hCs]; exact hZs) (one_ints hCs hCw) ?_))
      exact bodyPost_ret (v := .agg C) (results_cell_row Try.results79 _ _ w.heap.size 24 C (0, 0) _ rfl (hZ6.setRow C) Try.underlying24 rfl (by rw [hCs]; exact size24)) rfl ⟨C, rfl, hCs, hCw, below_setRow (hbl.trans (hb6.mono hbl.size)) (Nat.le_refl _) C⟩

end Go.Proofs.Ytlebojbfcolkhaa
namespace Go.Proofs.Ytlebojbfcolkhaa
open Go.RowKit
set_option maxRecDepth 100000
set_option linter.unusedSimpArgs false

/-- Sum of whatever slice. -/
theorem sum_sl (sp : Option Addr) (n cap : Nat) (L : List Int) (w : World) (hn : n = L.length) (hnil : sp = none → n = 0 ∧ cap = 0) (hS : SlL w sp L) (hcap : n ≤ cap) (hb : n ≤ 140737488355328) :
    Calls Try.prog 79 #[.slice sp n cap] w fun e w' => e = .returned (.agg (sha L)) ∧ Below w.heap.size w w' := by
  by_cases h0 : 0 < L.length
  · obtain ⟨b, off, rfl, hB⟩ := hS h0
    subst hn
    exact sum_list b off cap L w hB hcap hb
  · obtain rfl : L = [] := List.eq_nil_of_length_eq_zero (by omega)
    simp only [List.length_nil] at hn
    subst hn
    have key : ∀ (e : Ending) (w' : World), (∃ C : Array Value, e = .returned (.agg C) ∧ C.size = 32 ∧ (∀ t, t < 32 → C[t]? = some (.int .u8 (outB (shaSt (bat []) 0 0) t))) ∧ Below w.heap.size w w') → e = .returned (.agg (sha [])) ∧ Below w.heap.size w w' := by
      rintro e w' ⟨C, rfl, hs, hC, hb⟩
      exact ⟨by rw [arr_eq hs hC]; rfl, hb⟩
    cases sp with
    | none =>
      obtain ⟨-, rfl⟩ := hnil rfl
      exact (sum_none (bat []) w).mono fun e w' h => key e w' h
    | some ad =>
      by_cases hc : 0 < cap
      · exact (sum_ad ad cap hc (bat []) w).mono fun e w' h => key e w' h
      · obtain rfl : cap = 0 := by omega
        exact (sum_ad0 ad (bat []) w).mono fun e w' h => key e w' h

theorem yields_arr {ops : Array Oper} {S : World → Prop} {op : Oper} {a : Act} (hw : Region.wanted op (yielded ops a.tmps) = true) (ty : TypeId) (x : Operand) (ho : op.op = .load ty x)
    (g : Nat) (hx : a.eval x = .pointer (some ⟨g, 0, none⟩)) (C : Array Value) {n e : Nat} (hS : ∀ w, S w → Arr w g ty C)
    (hu : Try.prog.underlying ty = some (.array n e)) (hi : (Try.prog.info? ty).map (·.size) = some C.size) : YieldsIf Try.prog ops S op (.agg C) a :=
  .inl ⟨hw, fun w hw' => by
    unfold execOp
    simp only [ho, hx, Instr.loadAt, Instr.sureAddr, Sem.run_bind, Sem.run_pure, Result.andThen_ok, run_loadVar_row w g ty ty C (0, 0) _ (hS w hw') hu rfl hi]⟩

theorem Bytes.take {w : World} {b off : Nat} {L M : List Int} (h : Bytes w b off (L ++ M).length (bat (L ++ M))) : Bytes w b off L.length (bat L) := fun t ht => by
  rw [h t (by simp; omega)]; simp [bat, List.getElem?_append_left ht]
theorem Bytes.back {w : World} {b : Nat} {L M : List Int} (h : Bytes w b 0 (L ++ M).length (bat (L ++ M))) {t : Nat} (ht : t < M.length) : w.cell? ⟨b, L.length + t, none⟩ = some (.int .u8 (bat M t)) := by
  have := h (L.length + t) (by simp; omega)
  rw [Nat.zero_add] at this
  rw [this]
  simp only [bat, List.getD_eq_getElem?_getD]
  rw [List.getElem?_append_right (by omega), Nat.add_sub_cancel_left]
def sevens : List Int := [7, 7, 7, 7, 7, 7, 7, 7, 7, 7, 7, 7]
theorem bat_sevens {t : Nat} (h : t < 12) : bat sevens t = 7 := by
  match t, h with
  | 0, _ => rfl
  | 1, _ => rfl
  | 2, _ => rfl
  | 3, _ => rfl
  | 4, _ => rfl
  | 5, _ => rfl
  | 6, _ => rfl
  | 7, _ => rfl
  | 8, _ => rfl
  | 9, _ => rfl
  | 10, _ => rfl
  | 11, _ => rfl

theorem keepK {L : List Int} {g5 g6 g : Nat} {sp : Option Addr} {w w1 w2 : World} (hb : Below w1.heap.size w1 w2) (h : Arr w1 g5 24 (sha L) ∧ Arr w1 g6 24 (sha (0 :: L)) ∧ SlL w1 sp L ∧ Bytes w1 g 0 L.length (bat L) ∧ Below w.heap.size w w1) :
    Arr w2 g5 24 (sha L) ∧ Arr w2 g6 24 (sha (0 :: L)) ∧ SlL w2 sp L ∧ Bytes w2 g 0 L.length (bat L) ∧ Below w.heap.size w w2 :=
  ⟨h.1.bel hb, h.2.1.bel hb, Sl.below h.2.2.1 hb, h.2.2.2.1.below hb, h.2.2.2.2.trans (hb.mono h.2.2.2.2.size)⟩

end Go.Proofs.Ytlebojbfcolkhaa
