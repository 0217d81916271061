/- Th, Tj, Tk, Tl, Tm, Mb, Mh, Mk. -/
import Derived.Test.YtmljihggooaboaaW11
import Derived.Test.YtmljihggooaboaaW01
import Derived.Test.YtmljihggooaboaaW12
import Derived.BigQuiet
import Derived.BigRegion
import Derived.Deep.DeepCutAuto
import Derived.Deep.DrawnRows
import Derived.Deep.QuietTactic
import Derived.Deep.RegionHeld3
import Derived.Deep.RegionWith
import Derived.Deep.WholeRow
import Derived.Laws.CopyOwn
import Derived.WalkKit
import Derived.WalkLawsBesides
import Derived.WalkSpells
import Derived.ChangeKeysEq
import Derived.Deep.RegionLaw
import Derived.Laws.BytesArg
import Derived.Lib.SlBytesConst
import Derived.Laws.AppendOwnNone
import Derived.Deep.MidRow
import Derived.Laws.BitsLemmas
import Derived.LoopIn
import Derived.LoopNIn
import Derived.OwnWalkIn
import Derived.RangeFuncBound
import Derived.RangeFuncCalls
import Derived.RangeFuncLeaves
import Derived.RangeFuncNested
import Derived.RangeFuncRecord
import Derived.Shelf.Abstract
import Derived.Shelf.RegionOpen
import Derived.TacticsInMore
/- Layer interp: what the layers below give. -/
namespace Go.Proofs.Ytmljihggooaboaa
open Go.RowKit
set_option maxRecDepth 100000
set_option linter.unusedVariables false
set_option linter.unusedSimpArgs false

theorem Arr.cells8 {w : World} {g t : Nat} {s : St} (h : Arr w g t s.cells) : w.cell? ⟨g, 0, none⟩ = some (.int .u32 s.a) ∧ w.cell? ⟨g, 1, none⟩ = some (.int .u32 s.b) ∧ w.cell? ⟨g, 2, none⟩ = some (.int .u32 s.c) ∧ w.cell? ⟨g, 3, none⟩ = some (.int .u32 s.d) ∧ w.cell? ⟨g, 4, none⟩ = some (.int .u32 s.e) ∧ w.cell? ⟨g, 5, none⟩ = some (.int .u32 s.f) ∧ w.cell? ⟨g, 6, none⟩ = some (.int .u32 s.g) ∧ w.cell? ⟨g, 7, none⟩ = some (.int .u32 s.h) :=
  ⟨h.cell 0, h.cell 1, h.cell 2, h.cell 3, h.cell 4, h.cell 5, h.cell 6, h.cell 7⟩
theorem Arr.store8 {w : World} {g t : Nat} {r : St} (h : Arr w g t r.cells) (s : St) : (storeCells ⟨g, 0, none⟩ s.cells.toList).run Try.prog w = .ok () (w.setRow g s.cells) := by
  have := run_storeCells_from (P := Try.prog) g t s.cells.toList 0 r.cells w h rfl (fun v hv => (Array.all_eq_true_iff_forall_mem.1 (St.one s)) v (by simpa using hv))
  simpa using this
/-- The eight words behind all blocks: m whole ones, and the last n bytes. -/
def shaSt (B : Nat → Int) (m r : Nat) : St :=
  absorbN kOf (padB (fun t => B (64 * m + t)) (64 * m + r) r (if 55 < r then 128 else 64)) (absorbN kOf B h0St m) (if 55 < r then 2 else 1)
theorem shaSt_two {B : Nat → Int} {m r : Nat} (h : 55 < r) : shaSt B m r = absorbN kOf (padB (fun t => B (64 * m + t)) (64 * m + r) r 128) (absorbN kOf B h0St m) 2 := by simp [shaSt, h]
theorem shaSt_one {B : Nat → Int} {m r : Nat} (h : ¬ 55 < r) : shaSt B m r = absorbN kOf (padB (fun t => B (64 * m + t)) (64 * m + r) r 64) (absorbN kOf B h0St m) 1 := by simp [shaSt, h]
set_option maxRecDepth 100000 in
set_option maxHeartbeats 2000000 in
theorem sum_some (b off m r cap : Nat) (B : Nat → Int) (w : World) (hB : Bytes w b off (64 * m + r) B) (hr : r < 64) (hcap : 64 * m + r ≤ cap) (hcap2 : 64 * m + r ≤ 140737488355328) :
    Calls Try.prog 62 #[.slice (some ⟨b, off, none⟩) (64 * m + r) cap] w fun e w' => ∃ C : Array Value, e = .returned (.agg C) ∧ C.size = 32 ∧ (∀ t, t < 32 → C[t]? = some (.int .u8 (outB (shaSt B m r) t))) ∧ Below w.heap.size w w' := by
  have hrI : (r : Int) < 64 := by omega
  have hr0 : (0 : Int) ≤ r := by omega
  have hm0 : (0 : Int) ≤ m := by omega
  have hcI : (64 * (m : Int) + r) ≤ cap := by omega
  have hcI2 : 64 * (m : Int) + r ≤ 140737488355328 := by omega
  have hcI3 : (64 * (m : Int)) ≤ cap := by omega
  have hmod : (64 * (m : Int) + r) % 64 = r := by omega
  go_enter Try.func62, Try.ntmps62
  go_upto_region 4 with (first
    | (go_at_call 76; go_must (refine (roundNumbers_any _).mono ?_; rintro e w1 ⟨rfl, hb1⟩))
    | (refine wpList_store_new w1 _ 98 (by rfl) 98 (.tmp 3) (.tmp 6) (by rfl) kCells (by rfl) (by rfl) (Eq.trans size46 (by rfl)) (by rfl) (one_ints kCells_size kCells_get) ?_)
    | (go_at_call 77; go_must (refine (firstWords_any _).mono ?_; rintro e w2 ⟨rfl, hb2⟩))
    | (refine wpList_store_new w2 _ 84 (by rfl) 84 (.tmp 4) (.tmp 7) (by rfl) h0St.cells (by rfl) (by rfl) (s48 _) (by rfl) (St.one _) ?_))
  have hA4 : Arr (w2.alloc (.cells h0St.cells 84)) w2.heap.size 84 h0St.cells := Arr.new _ _ _
  have hK3 : Arr (w2.alloc (.cells h0St.cells 84)) w1.heap.size 98 kCells := ((Arr.new w1 98 kCells).below hb2 (by simp)).alloc _
  have hg34 : w.heap.size < w1.heap.size := by have := hb1.size; simp at this; omega
  have hg45 : w1.heap.size < w2.heap.size := by have := hb2.size; simp at this; omega
  have hbl : Below w.heap.size w (w2.alloc (.cells h0St.cells 84)) :=
    ((((((Below.refl _ _).alloc (Nat.le_refl _) _).trans (hb1.mono (by simp))).alloc (by omega) _).trans (hb2.mono (by simp; omega))).alloc (by omega) _)
  have hR : ∃ Z : Array Value, Z.size = 32 ∧ Arr (w2.alloc (.cells h0St.cells 84)) w.heap.size 55 Z :=
    ⟨_, by rfl, ((((Arr.new w 55 _).below hb1 (by simp)).alloc _).below hb2 (by simp; omega)).alloc _⟩
  obtain ⟨Z, hZs, hZ⟩ := hR
  clear hb1 hb2
  generalize w2.alloc (.cells h0St.cells 84) = W at *
  generalize w2.heap.size = g4 at *
  generalize w1.heap.size = g3 at *
  go_cut [] from 6 (fun wc => Arr wc g4 84 (absorbN kOf B h0St m).cells ∧ Arr wc g3 98 kCells ∧ Arr wc w.heap.size 55 Z ∧ Below w.heap.size w wc)
  case first =>
    obtain ⟨c0, c1, c2, c3, c4, c5, c6, c7⟩ := hA4.cells8
    have hBW : Bytes W.drew b off (64 * m) B := fun t ht => (hbl.cell (p := ⟨b, off + t, none⟩) (block_lt_of_cell (hB t (by omega)))).trans (hB t (by omega))
    have hKW : Row W.drew g3 64 kOf := hK3.row kCells_get
    go_region_with (first
      | (go_at_call 78; go_must (refine (absorb_any h0St b off (64 * m) m g3 kOf B _ hBW (by omega) (by omega) hK3.lt hKW).mono ?_; rintro e w3 ⟨rfl, hb3⟩; have hA5 := hA4.drew.below hb3 hA4.lt; have hst := hA5.store8 (absorbN kOf B h0St m))))
    all_goals
      go_wp2_with fail
      go_meet
      exact ⟨hA5.setRow _, (hK3.drew.below hb3 hK3.lt).setRowOther _ (by omega), (hZ.drew.below hb3 hZ.lt).setRowOther _ (by omega), below_setRow (hbl.drew.trans (hb3.mono hbl.size)) (by omega) _⟩
  case rest =>
    clear hA4 hK3 hbl hZ
    obtain ⟨hA4, hK3, hZ, hbl⟩ := hcut
    go_upto_region 5 with fail
    have hl : 64 * m + r - 64 * m = r := by omega
    have hS : Sl wc.drew (some ⟨b, off + 64 * m, none⟩) r (fun t => B (64 * m + t)) := fun h0 => ⟨b, off + 64 * m, rfl, fun t ht => by
      have h1 := hB (64 * m + t) (by omega)
      have := (hbl.cell (p := ⟨b, off + (64 * m + t), none⟩) (block_lt_of_cell h1)).trans h1
      rw [← Nat.add_assoc] at this; exact this⟩
    obtain ⟨c0, c1, c2, c3, c4, c5, c6, c7⟩ := hA4.cells8
    go_cut [] from 6 (fun wc => Arr wc g4 84 (shaSt B m r).cells ∧ Arr wc w.heap.size 55 Z ∧ Below w.heap.size w wc)
    case first =>
      by_cases h55 : 55 < r
      · go_region_with (first
        | (go_at_call 79; go_must (refine (lastBlocks_any _ r _ 128 _ (fun t => B (64 * m + t)) wc.drew hS (Or.inl ⟨h55, rfl⟩) hr (by omega) (by omega)).mono ?_; rintro e w4 ⟨C, rfl, hC, hCs, hCw, hb4⟩; have hA6 := hA4.drew.below hb4 hA4.lt; have hK6 := (hK3.drew.below hb4 hK3.lt).row kCells_get; have hg3 := (hK3.drew.below hb4 hK3.lt).lt; have hBy : Bytes w4 wc.heap.size 0 (64 * 2) (padB (fun t => B (64 * m + t)) (64 * m + r) r 128) := (fun t ht => by rw [Nat.zero_add]; exact (hC.cell t).trans (hCw t ht)); obtain ⟨c0, c1, c2, c3, c4, c5, c6, c7⟩ := hA6.cells8; clear hCw))
        | (go_at_call 78; go_must (refine (absorb_any (absorbN kOf B h0St m) wc.heap.size 0 128 2 g3 kOf _ w4 hBy (by omega) (by omega) hg3 hK6).mono ?_; rintro e w5 ⟨rfl, hb5⟩; have hA7 := hA6.below hb5 hA6.lt; have hst := hA7.store8 (absorbN kOf (padB (fun t => B (64 * m + t)) (64 * m + r) r 128) (absorbN kOf B h0St m) 2))))
        all_goals
          go_wp2_with fail
          go_meet
          rw [shaSt_two h55]
          exact ⟨hA7.setRow _, (((hZ.drew.below hb4 hZ.lt).below hb5 (hZ.drew.below hb4 hZ.lt).lt)).setRowOther _ (by omega), below_setRow ((hbl.drew.trans (hb4.mono hbl.size)).trans (hb5.mono (Nat.le_trans hbl.size hb4.size))) (by omega) _⟩
      · by_cases hc : 64 * m = cap
        · obtain rfl : r = 0 := by omega
          subst hc
          have hS0 : Sl wc.drew (some ⟨b, off, none⟩) 0 (fun t => B (64 * m + t)) := fun h0 => absurd h0 (by omega)
          have e0 : (64 * (m : Int) + ((0 : Nat) : Int)) = 64 * m := by omega
          go_region_with (first
            | (go_at_call 79; go_must (refine (lastBlocks_any (some ⟨b, off, none⟩) 0 0 64 (64 * m) (fun t => B (64 * m + t)) wc.drew hS0 (Or.inr ⟨Nat.le_of_not_lt h55, rfl⟩) hr (by omega) (by omega)).mono ?_; rintro e w4 ⟨C, rfl, hC, hCs, hCw, hb4⟩; have hA6 := hA4.drew.below hb4 hA4.lt; have hK6 := (hK3.drew.below hb4 hK3.lt).row kCells_get; have hg3 := (hK3.drew.below hb4 hK3.lt).lt; have hBy : Bytes w4 wc.heap.size 0 (64 * 1) (padB (fun t => B (64 * m + t)) (64 * m) 0 64) := (fun t ht => by rw [Nat.zero_add]; exact (hC.cell t).trans (hCw t ht)); obtain ⟨c0, c1, c2, c3, c4, c5, c6, c7⟩ := hA6.cells8; clear hCw))
            | (go_at_call 78; go_must (refine (absorb_any (absorbN kOf B h0St m) wc.heap.size 0 64 1 g3 kOf _ w4 hBy (by omega) (by omega) hg3 hK6).mono ?_; rintro e w5 ⟨rfl, hb5⟩; have hA7 := hA6.below hb5 hA6.lt; have hst := hA7.store8 (absorbN kOf (padB (fun t => B (64 * m + t)) (64 * m) 0 64) (absorbN kOf B h0St m) 1))))
          all_goals
            go_wp2_with fail
            go_meet
            rw [shaSt_one h55, e0]
            exact ⟨hA7.setRow _, (((hZ.drew.below hb4 hZ.lt).below hb5 (hZ.drew.below hb4 hZ.lt).lt)).setRowOther _ (by omega), below_setRow ((hbl.drew.trans (hb4.mono hbl.size)).trans (hb5.mono (Nat.le_trans hbl.size hb4.size))) (by omega) _⟩
        · have hc1 : 64 * m < cap := by omega
          have hc2 : (64 * (m : Int)) < cap := by omega
          go_region_with (first
            | (go_at_call 79; go_must (refine (lastBlocks_any _ r _ 64 _ (fun t => B (64 * m + t)) wc.drew hS (Or.inr ⟨Nat.le_of_not_lt h55, rfl⟩) hr (by omega) (by omega)).mono ?_; rintro e w4 ⟨C, rfl, hC, hCs, hCw, hb4⟩; have hA6 := hA4.drew.below hb4 hA4.lt; have hK6 := (hK3.drew.below hb4 hK3.lt).row kCells_get; have hg3 := (hK3.drew.below hb4 hK3.lt).lt; have hBy : Bytes w4 wc.heap.size 0 (64 * 1) (padB (fun t => B (64 * m + t)) (64 * m + r) r 64) := (fun t ht => by rw [Nat.zero_add]; exact (hC.cell t).trans (hCw t ht)); obtain ⟨c0, c1, c2, c3, c4, c5, c6, c7⟩ := hA6.cells8; clear hCw))
            | (go_at_call 78; go_must (refine (absorb_any (absorbN kOf B h0St m) wc.heap.size 0 64 1 g3 kOf _ w4 hBy (by omega) (by omega) hg3 hK6).mono ?_; rintro e w5 ⟨rfl, hb5⟩; have hA7 := hA6.below hb5 hA6.lt; have hst := hA7.store8 (absorbN kOf (padB (fun t => B (64 * m + t)) (64 * m + r) r 64) (absorbN kOf B h0St m) 1))))
          all_goals
            go_wp2_with fail
            go_meet
            rw [shaSt_one h55]
            exact ⟨hA7.setRow _, (((hZ.drew.below hb4 hZ.lt).below hb5 (hZ.drew.below hb4 hZ.lt).lt)).setRowOther _ (by omega), below_setRow ((hbl.drew.trans (hb4.mono hbl.size)).trans (hb5.mono (Nat.le_trans hbl.size hb4.size))) (by omega) _⟩
    case rest =>
      clear hA4 hK3 hbl hZ hS c0 c1 c2 c3 c4 c5 c6 c7
      obtain ⟨hA4, hZ, hbl⟩ := hcut
      go_wp2_with (first
        | (refine wpList_load_row rfl 84 (.tmp 4) rfl g4 rfl 84 (shaSt B m r).cells (0, 0) _ hA4 Try.underlying84 rfl (s48 _) ?_)
        | (go_at_call 80; go_must (refine (fromWords_any (shaSt B m r) _).mono ?_; rintro e w6 ⟨C, rfl, hCs, hCw, hb6⟩; have hZ6 := hZ.below hb6 hZ.lt))
        | (refine wpList_store_arr rfl 55 (.tmp 2) (.tmp 29) rfl w.heap.size C rfl rfl 55 Z hZ6 (by rw [hCs]; exact size24) (by rw [hCs]; exact hZs) (one_ints hCs hCw) ?_))
      exact bodyPost_ret (v := .agg C) (results_cell_row Try.results62 _ _ w.heap.size 55 C (0, 0) _ rfl (hZ6.setRow C) Try.underlying55 rfl (by rw [hCs]; exact size24)) rfl ⟨C, rfl, hCs, hCw, below_setRow (hbl.trans (hb6.mono hbl.size)) (Nat.le_refl _) C⟩
end Go.Proofs.Ytmljihggooaboaa
/- Layer interp: what the layers below give. -/
namespace Go.Proofs.Ytmljihggooaboaa
open Go.RowKit
set_option maxRecDepth 100000
set_option linter.unusedVariables false
set_option linter.unusedSimpArgs false

/-- Byte t of the sum of n bytes. -/
def shaB (B : Nat → Int) (n t : Nat) : Int := outB (shaSt B (n / 64) (n % 64)) t
theorem u8s_size (n : Nat) (f : Nat → Int) : (u8s n f).size = n := arr_size _ _
theorem u8s_get {n : Nat} {f : Nat → Int} {t : Nat} (h : t < n) : (u8s n f)[t]? = some (.int .u8 (f t)) := arr_get h
theorem sum_any (b off n cap : Nat) (B : Nat → Int) (w : World) (hB : Bytes w b off n B) (hcap : n ≤ cap) (hn : n ≤ 140737488355328) :
    Calls Try.prog 62 #[.slice (some ⟨b, off, none⟩) n cap] w fun e w' => e = .returned (.agg (u8s 32 (shaB B n))) ∧ Below w.heap.size w w' := by
  have e : 64 * (n / 64) + n % 64 = n := Nat.div_add_mod n 64
  have := sum_some b off (n / 64) (n % 64) cap B w (by rw [e]; exact hB) (Nat.mod_lt _ (by omega)) (by omega) (by omega)
  rw [e] at this
  refine this.mono ?_
  rintro e w' ⟨C, rfl, hs, hC, hb⟩
  exact ⟨by rw [arr_eq hs hC]; rfl, hb⟩
end Go.Proofs.Ytmljihggooaboaa
/- Layer interp: what the layers below give. -/
namespace Go.Proofs.Ytmljihggooaboaa
open Go.RowKit
set_option maxRecDepth 100000
set_option linter.unusedVariables false
set_option linter.unusedSimpArgs false

/-- Bytes as cells. -/
def by8 (L : List Int) : List Value := L.map (Value.int .u8)
theorem by8_len (L : List Int) : (by8 L).length = L.length := by simp [by8]
theorem by8_app (L M : List Int) : by8 (L ++ M) = by8 L ++ by8 M := by simp [by8]
theorem by8_one (L : List Int) : ∀ v ∈ by8 L, v.oneCell' = true := by
  intro v hv; simp only [by8, List.mem_map] at hv; obtain ⟨t, -, rfl⟩ := hv; rfl
/-- Byte t. -/
def bat (L : List Int) (t : Nat) : Int := L.getD t 0
theorem by8_get {L : List Int} {t : Nat} (h : t < L.length) : (by8 L)[t]? = some (.int .u8 (bat L t)) := by
  simp [by8, bat, List.getElem?_eq_getElem h]
/-- The sum of bytes. -/
def sha (L : List Int) : Array Value := u8s 32 (shaB (bat L) L.length)
/-- What a slice of bytes reads. -/
def SlL (w : World) (sp : Option Addr) (L : List Int) : Prop := Sl w sp L.length (bat L)
theorem sum_list (b off cap : Nat) (L : List Int) (w : World) (hB : Bytes w b off L.length (bat L)) (hcap : L.length ≤ cap) (hn : L.length ≤ 140737488355328) :
    Calls Try.prog 62 #[.slice (some ⟨b, off, none⟩) L.length cap] w fun e w' => e = .returned (.agg (sha L)) ∧ Below w.heap.size w w' :=
  sum_any b off L.length cap (bat L) w hB hcap hn
theorem Arr.sl {w : World} {g ty : Nat} {L : List Int} (h : Arr w g ty (by8 L).toArray) : SlL w (some ⟨g, 0, none⟩) L := fun _ => ⟨g, 0, rfl, fun t ht => by
  rw [Nat.zero_add, h.cell]; simpa using by8_get ht⟩
theorem own_ge {w : World} {base e s n : Nat} {v : Value} {xs : List Value} (h : w.ownsRow base e s v n xs) : ∀ k, v.ownBlock = some k → base ≤ k := by
  intro k hk
  obtain ⟨-, h | ⟨g, cap, cur, rfl, hg, -⟩⟩ := h
  · obtain ⟨rfl, -⟩ := h; simp [Value.ownBlock] at hk
  · simp [Value.ownBlock] at hk; omega
/-- What an own slice that is not empty looks like. -/
theorem own_slice {w : World} {base n : Nat} {v : Value} {L : List Int} (h : w.ownsRow base 5 1 v n (by8 L)) (h0 : 0 < n) :
    ∃ g cap, v = .slice (some ⟨g, 0, none⟩) n cap ∧ Hid (n = L.length) ∧ n ≤ cap ∧ base ≤ g ∧ Bytes w g 0 L.length (bat L) ∧ (∃ cur : Array Value, Arr w g 5 cur ∧ cur.size = cap) := by
  obtain ⟨hl, h | ⟨g, cap, cur, rfl, hg, hh, hn, -, hc, ht⟩⟩ := h
  · omega
  · rw [by8_len, Nat.mul_one] at hl
    subst hl
    refine ⟨g, cap, rfl, show _ = _ from rfl, hn, hg, fun t htl => ?_, cur, hh, by simpa using hc⟩
    rw [Nat.zero_add, cell_of_row w g t cur 5 (0, 0) hh, ← Array.getElem?_toList, ← List.getElem?_take_of_lt (show t < L.length * 1 by omega), ht, by8_get htl]
theorem maxLen_ge : 140737488355328 ≤ maxLen := by unfold maxLen; omega
/-- append of bytes onto a slice of the call's own: the operation. -/
theorem wp_append_bytes {o : Oper} {a : Act} {w : World} {K : Act → World → Prop} {Q : Exit → Act → World → Prop} (s x : Operand)
    (ho : o.op = .call { callee := .builtin .append, args := #[s, x], argTypes := #[53, 53] })
    (base : Nat) (v : Value) (n : Nat) (L : List Int) (hs : a.eval s = v) (hown : w.ownsRow base 5 1 v n (by8 L))
    (sp : Option Addr) (m c : Nat) (M : List Int) (hx : a.eval x = .slice sp m c) (hm : m = M.length) (hnil : sp = none → m = 0 ∧ c = 0) (hS : SlL w sp M) (hb : n + m ≤ 140737488355328) (hbase : base ≤ w.heap.size)
    (h : ∀ v' w', w'.ownsRow base 5 1 v' (n + m) (by8 (L ++ M)) → w.grownBy w' v.ownBlock → K (a.put o.dst v') w') : o.wp Try.prog a w K Q := by
  obtain ⟨i0, hi, hz0, hz1, hz2⟩ := info_parts info5
  subst hm
  cases sp with
  | none =>
    obtain ⟨h1, rfl⟩ := hnil rfl
    obtain rfl : M = [] := List.eq_nil_of_length_eq_zero h1
    have hrun := run_append_owned_none (P := Try.prog) (w := w) base 53 o.type 5 i0 1 Try.underlying53 hi v n _ hown
    unfold Oper.wp
    simp only [List.length_nil] at hx
    simp [execOp, ho, resolve, invoke, builtin, hs, hx, hrun, Result.andThen]
    exact h v w (by simpa using hown) ⟨rfl, rfl, rfl, Nat.le_refl _, fun _ _ _ => rfl⟩
  | some ad =>
    refine wp_append_own w s x 53 ho base 5 i0 (.int .u8 0) 1 1 Try.underlying53 hi hz0 hz1 hz2 rfl (by omega) v n _ hs hown ad M.length c (by8 M) hx (by rw [by8_len]; omega) ?_ (by8_one M) (Nat.le_trans hb maxLen_ge) (by omega) hbase ?_
    · intro j u hj
      have hjl : j < M.length := by have := (List.getElem?_eq_some_iff.1 hj).1; rwa [by8_len] at this
      obtain ⟨b, off, e, hB⟩ := hS (by omega)
      obtain rfl := Option.some.inj e
      rw [by8_get hjl] at hj
      rw [Addr.add_mid, hB j hjl]; exact hj
    · intro v' w' h1 h2 _
      exact h v' w' (by rw [by8_app]; exact h1) h2
theorem wpList_want {P : Program} {ops : Array Oper} {rest : List Oper} {o : Oper} {a : Act} {w : World} {Q : Exit → Act → World → Prop} (hw : Region.wanted o (yielded ops a.tmps) = true)
    (h : ∀ K : Act → World → Prop, (∀ a w, wpList P ops Q rest a w → K a w) → o.wp P a w K Q) : wpList P ops Q (o :: rest) a w :=
  wpList_step fun K hK => by rw [if_pos hw]; exact h K hK
/-- .. in a region's list, guarded or not. -/
theorem append_bytes {ops : Array Oper} {rest : List Oper} {o : Oper} {a : Act} {w : World} {Q : Exit → Act → World → Prop} (hgd : Region.wanted o (yielded ops a.tmps) = true) (s x : Operand)
    (ho : o.op = .call { callee := .builtin .append, args := #[s, x], argTypes := #[53, 53] })
    (base : Nat) (v : Value) (n : Nat) (L : List Int) (hs : a.eval s = v) (hown : w.ownsRow base 5 1 v n (by8 L))
    (sp : Option Addr) (m c : Nat) (M : List Int) (hx : a.eval x = .slice sp m c) (hm : m = M.length) (hnil : sp = none → m = 0 ∧ c = 0) (hS : SlL w sp M) (hb : n + m ≤ 140737488355328) (hbase : base ≤ w.heap.size)
    (h : ∀ v' w', w'.ownsRow base 5 1 v' (n + m) (by8 (L ++ M)) → w.grownBy w' v.ownBlock → wpList Try.prog ops Q rest (a.put o.dst v') w') : wpList Try.prog ops Q (o :: rest) a w :=
  wpList_want hgd fun _ hK => wp_append_bytes s x ho base v n L hs hown sp m c M hx hm hnil hS hb hbase fun v' w' h1 h2 => hK _ _ (h v' w' h1 h2)
end Go.Proofs.Ytmljihggooaboaa
/- Layer interp: what the layers below give. -/
namespace Go.Proofs.Ytmljihggooaboaa
open Go.RowKit
set_option maxRecDepth 100000
set_option linter.unusedVariables false
set_option linter.unusedSimpArgs false

theorem Sl.grown {w w' : World} {sp : Option Addr} {r : Nat} {B : Nat → Int} {row : Option Nat} (h : Sl w sp r B) (hg : w.grownBy w' row) (hr : ∀ b off, sp = some ⟨b, off, none⟩ → 0 < r → some b ≠ row) : Sl w' sp r B := fun h0 => by
  obtain ⟨b, off, rfl, hB⟩ := h h0
  refine ⟨b, off, rfl, fun t ht => ?_⟩
  rw [World.cell?_of_block (w := w) (a := ⟨b, off + t, none⟩) (hg.block b (block_lt_of_cell (hB t ht)) (hr b off rfl h0))]
  exact hB t ht
theorem Arr.grown {w w' : World} {g ty : Nat} {C : Array Value} {row : Option Nat} (h : Arr w g ty C) (hg : w.grownBy w' row) (hr : some g ≠ row) : Arr w' g ty C := by
  have := hg.block g h.lt hr
  unfold Arr at h ⊢; rw [this]; exact h
theorem Sl.lt {w : World} {b off r : Nat} {B : Nat → Int} (h : Sl w (some ⟨b, off, none⟩) r B) (h0 : 0 < r) : b < w.heap.size := by
  obtain ⟨b', off', e, hB⟩ := h h0
  cases e
  exact block_lt_of_cell (hB 0 h0)
theorem sha_size (L : List Int) : (sha L).size = 32 := u8s_size _ _
theorem s24sha (L : List Int) : (Try.prog.info? 55).map (·.size) = some (sha L).size := by rw [sha_size]; exact size24
theorem sha_get (L : List Int) : ∀ t, t < 32 → (sha L)[t]? = some (.int .u8 (shaB (bat L) L.length t)) := fun _ h => u8s_get h
theorem sha_one (L : List Int) : (sha L).all (·.oneCell') = true := one_ints (sha_size L) (sha_get L)
/-- A sum by value. -/
def h8 (X : List Int) : Array Value := (by8 X).toArray
end Go.Proofs.Ytmljihggooaboaa
/- Layer interp: what the layers below give. -/
namespace Go.Proofs.Ytmljihggooaboaa
open Go.RowKit
set_option maxRecDepth 100000
set_option linter.unusedVariables false
set_option linter.unusedSimpArgs false

theorem Bytes.below {w w' : World} {b off n : Nat} {B : Nat → Int} (h : Bytes w b off n B) (hb : Below w.heap.size w w') : Bytes w' b off n B := fun t ht => by
  rw [hb.cell (p := ⟨b, off + t, none⟩) (block_lt_of_cell (h t ht))]; exact h t ht
end Go.Proofs.Ytmljihggooaboaa
/- Layer interp: what the layers below give. -/
namespace Go.Proofs.Ytmljihggooaboaa
open Go.RowKit
set_option maxRecDepth 100000
set_option linter.unusedVariables false
set_option linter.unusedSimpArgs false

theorem alloc_bel' (w : World) (o : Obj) : Below w.heap.size w (w.alloc o) := (Below.refl _ _).alloc (Nat.le_refl _) o
theorem h8_get {X : List Int} {t : Nat} (h : t < X.length) : (h8 X)[t]? = some (.int .u8 (bat X t)) := by
  simpa [h8] using by8_get h
theorem eqItems_two (w : World) (d : Nat) (C D : Array Value) (f g : Nat → Int) :
    ∀ is : List Nat, (∀ i ∈ is, C[i]? = some (.int .u8 (f i))) → (∀ i ∈ is, D[i]? = some (.int .u8 (g i))) → (Op.eqItems (d + 1) 5 1 C D is).run Try.prog w = .ok (is.all fun i => f i == g i) w
  | [], _, _ => by simp [Op.eqItems]
  | i :: is, h, h' => by
    have hi := h i (by simp)
    have hi' := h' i (by simp)
    have ih := eqItems_two w d C D f g is (fun j hj => h j (by simp [hj])) (fun j hj => h' j (by simp [hj]))
    have ha := @Try.isAgg5
    by_cases he : f i = g i
    · simp [Op.eqItems, part, ha, hi, hi', run_equalIn_int w d 5 .u8 .u8 _ _ Try.underlying5, ih, he]
    · simp [Op.eqItems, part, ha, hi, hi', run_equalIn_int w d 5 .u8 .u8 _ _ Try.underlying5, ih, he]
theorem bat_ext {X Y : List Int} (hX : X.length = 32) (hY : Y.length = 32) : ((List.range 32).all fun i => bat X i == bat Y i) = decide (X = Y) := by
  rw [Bool.eq_iff_iff]
  simp only [List.all_eq_true, List.mem_range, beq_iff_eq, decide_eq_true_eq]
  constructor
  · intro h
    apply List.ext_getElem (by omega)
    intro i h1 h2
    have := h i (by omega)
    simpa [bat, List.getD_eq_getElem?_getD, List.getElem?_eq_getElem, h1, h2] using this
  · rintro rfl i _; rfl
theorem run_eqIn24 {X Y : List Int} (hX : X.length = 32) (hY : Y.length = 32) (w : World) : (Op.equalIn 10000 55 (.agg (h8 X)) (.agg (h8 Y))).run Try.prog w = .ok (decide (X = Y)) w := by
  obtain ⟨i0, hi, -⟩ := info_parts info5
  have hc : Try.prog.cellsOf 5 = 1 := by kernel_rfl
  rw [run_equalIn_array w 9999 _ _ Try.underlying55 hi, hc, eqItems_two w 9998 _ _ (bat X) (bat Y) (List.range 32) (fun i h => h8_get (by rw [hX]; simpa using h)) (fun i h => h8_get (by rw [hY]; simpa using h)), bat_ext hX hY]
theorem run_eq24 {X Y : List Int} (hX : X.length = 32) (hY : Y.length = 32) (w : World) : (binOp .eql 55 (.agg (h8 X)) (.agg (h8 Y))).run Try.prog w = .ok (.bool (decide (X = Y))) w := by
  rw [run_eql_struct, run_eqIn24 hX hY]; rfl
theorem range_below {w w' : World} {B b o : Nat} {cs : List Value} (h : w.rangeAt b o cs) (hb : Below B w w') (hlt : b < B) : w'.rangeAt b o cs := fun j v hv => (hb.cell (p := ⟨b, o + j, none⟩) hlt).trans (h j v hv)
theorem there_below {w w' : World} {B b o n : Nat} (h : w.there b o n) (hb : Below B w w') (hlt : b < B) : w'.there b o n := fun j hj =>
  ⟨by rw [hb.cell (p := ⟨b, o + j, none⟩) hlt]; exact (h j hj).1, by have h2 := (h j hj).2; simp only [World.frozen?] at h2 ⊢; rw [hb.block b hlt]; exact h2⟩
theorem Arr.range {w : World} {g ty : Nat} {X : List Int} (h : Arr w g ty (h8 X)) : w.rangeAt g 0 (by8 X) := fun j v hv => by
  rw [Nat.zero_add, h.cell]; simpa [h8] using hv
/-- A slice of sums. -/
structure HS (N : Nat) (w : World) (sp : Option Addr) (n cap : Nat) (ls : List (List Int)) : Prop where
  len : Hid (n = ls.length)
  nil : sp = none → n = 0 ∧ cap = 0
  le : n ≤ cap
  big : cap ≤ 9223372036854775807
  small : n ≤ 140737488355328
  at0 : 0 < n → ∃ g off, sp = some ⟨g, off, none⟩ ∧ g < N ∧ ∀ i X, ls[i]? = some X → w.rangeAt g (off + i * 32) (by8 X)
  l32 : ∀ X ∈ ls, X.length = 32
theorem HS.mono {N N' : Nat} {w : World} {sp : Option Addr} {n cap : Nat} {ls : List (List Int)} (h : HS N w sp n cap ls) (hN : N ≤ N') : HS N' w sp n cap ls :=
  ⟨h.len, h.nil, h.le, h.big, h.small, fun h0 => let ⟨b, off, e, hb, hB⟩ := h.at0 h0; ⟨b, off, e, by omega, hB⟩, h.l32⟩
theorem HS.below {N : Nat} {w w' : World} {sp : Option Addr} {n cap : Nat} {ls : List (List Int)} (h : HS N w sp n cap ls) (hb : Below N w w') : HS N w' sp n cap ls :=
  ⟨h.len, h.nil, h.le, h.big, h.small, fun h0 => let ⟨b, off, e, hbN, hB⟩ := h.at0 h0; ⟨b, off, e, hbN, fun i X hX => range_below (hB i X hX) hb hbN⟩, h.l32⟩
theorem HS.here {N : Nat} {w : World} {sp : Option Addr} {n cap : Nat} {ls : List (List Int)} (h : HS N w sp n cap ls) : HS w.heap.size w sp n cap ls :=
  ⟨h.len, h.nil, h.le, h.big, h.small, fun h0 => by
    obtain ⟨b, off, e, hbN, hB⟩ := h.at0 h0
    refine ⟨b, off, e, ?_, hB⟩
    have hl : 0 < ls.length := by rw [← h.len.out]; exact h0
    have hX := hB 0 ls[0] (List.getElem?_eq_getElem hl)
    have h32 := h.l32 ls[0] (List.getElem_mem hl)
    exact block_lt_of_cell (hX 0 _ (by8_get (by omega))), h.l32⟩
theorem HS.nil0 (N : Nat) (w : World) : HS N w none 0 0 [] := ⟨rfl, fun _ => ⟨rfl, rfl⟩, Nat.le_refl _, by omega, by omega, fun h => absurd h (by omega), fun X h => by cases h⟩
end Go.Proofs.Ytmljihggooaboaa
/- Layer interp: what the layers below give. -/
namespace Go.Proofs.Ytmljihggooaboaa
open Go.RowKit
set_option maxRecDepth 100000
set_option linter.unusedVariables false
set_option linter.unusedSimpArgs false

/-- The array of halves that wait, in memory. -/
structure LV (w : World) (g : Nat) (W : Nat → List Int) : Prop where
  rg : ∀ k, k < 17 → w.rangeAt g (k * 32) (by8 (W k))
  l32 : ∀ k, (W k).length = 32
  th : w.there g 0 544
theorem LV.below {w w' : World} {g B : Nat} {W : Nat → List Int} (h : LV w g W) (hb : Below B w w') (hg : g < B) : LV w' g W :=
  ⟨fun k hk => range_below (h.rg k hk) hb hg, h.l32, there_below h.th hb hg⟩
theorem LV.lt {w : World} {g : Nat} {W : Nat → List Int} (h : LV w g W) : g < w.heap.size := by
  have := (h.th 0 (by omega)).1
  obtain ⟨v, hv⟩ := Option.isSome_iff_exists.1 this
  exact block_lt_of_cell hv
theorem LV.set {w : World} {g : Nat} {W : Nat → List Int} (h : LV w g W) {k : Nat} (hk : k < 17) {r : List Int} (hr : r.length = 32) : LV (w.setCells g (k * 32) (by8 r)) g (fun j => if j = k then r else W j) := by
  refine ⟨fun j hj => ?_, fun j => ?_, World.there_setCells h.th _ _ _⟩
  · show World.rangeAt _ _ _ (by8 (if j = k then r else W j))
    by_cases e : j = k
    · subst e
      rw [if_pos rfl]
      exact World.rangeAt_setCells_same _ _ _ _ (fun i hi => by
        rw [by8_len, hr] at hi
        have := h.th (j * 32 + i) (by omega)
        rwa [Nat.zero_add] at this)
    · rw [if_neg e]
      refine World.rangeAt_setCells_apart (h.rg j hj) _ _ _ (.inr ?_)
      rw [by8_len, by8_len, hr, h.l32]
      omega
  · show (if j = k then r else W j).length = 32
    split
    · exact hr
    · exact h.l32 j
end Go.Proofs.Ytmljihggooaboaa
/- Layer interp: what the layers below give. -/
namespace Go.Proofs.Ytmljihggooaboaa
open Go.RowKit Go.Shelf
set_option maxRecDepth 100000
set_option linter.unusedVariables false
set_option linter.unusedSimpArgs false
attribute [local go_sem] Oper.semAt_some

theorem Arr.put {w : World} {g ty : Nat} {C : Array Value} (h : Arr w g ty C) {r : Nat} (o : Obj) (hne : g ≠ r) : Arr (w.putObj r o) g ty C := (World.putObj_heap_other hne).trans h
end Go.Proofs.Ytmljihggooaboaa
