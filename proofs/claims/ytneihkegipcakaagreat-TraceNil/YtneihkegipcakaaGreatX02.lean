/- Th, Tj, Tk, Tl, Ma, Tm, Mb, W0. -/
import Derived.Test.YtneihkegipcakaaGreatX01
import Derived.BigQuiet
import Derived.BigRegion
import Derived.Deep.DeepCutAuto
import Derived.Deep.DrawnRows
import Derived.Deep.QuietTactic
import Derived.Deep.RegionHeld3
import Derived.Deep.RegionWith
import Derived.Deep.WholeRow
import Derived.Laws.CopyOwn
import Derived.WalkKit
import Derived.WalkLawsBesides
import Derived.WalkSpells
import Derived.ChangeKeysEq
import Derived.Deep.RegionLaw
import Derived.Laws.BytesArg
import Derived.Lib.SlBytesConst
import Derived.Laws.AppendOwnNone
import Derived.Deep.MidRow
import Derived.RangeFuncRecord
/- Layer trace: what the layers below give. -/
namespace Go.Proofs.YtneihkegipcakaaGreat
open Go.RowKit
set_option maxRecDepth 100000
set_option linter.unusedVariables false
set_option linter.unusedSimpArgs false

theorem Arr.cells8 {w : World} {g t : Nat} {s : St} (h : Arr w g t s.cells) : w.cell? ⟨g, 0, none⟩ = some (.int .u32 s.a) ∧ w.cell? ⟨g, 1, none⟩ = some (.int .u32 s.b) ∧ w.cell? ⟨g, 2, none⟩ = some (.int .u32 s.c) ∧ w.cell? ⟨g, 3, none⟩ = some (.int .u32 s.d) ∧ w.cell? ⟨g, 4, none⟩ = some (.int .u32 s.e) ∧ w.cell? ⟨g, 5, none⟩ = some (.int .u32 s.f) ∧ w.cell? ⟨g, 6, none⟩ = some (.int .u32 s.g) ∧ w.cell? ⟨g, 7, none⟩ = some (.int .u32 s.h) :=
  ⟨h.cell 0, h.cell 1, h.cell 2, h.cell 3, h.cell 4, h.cell 5, h.cell 6, h.cell 7⟩
theorem Arr.store8 {w : World} {g t : Nat} {r : St} (h : Arr w g t r.cells) (s : St) : (storeCells ⟨g, 0, none⟩ s.cells.toList).run Tryz.prog w = .ok () (w.setRow g s.cells) := by
  have := run_storeCells_from (P := Tryz.prog) g t s.cells.toList 0 r.cells w h rfl (fun v hv => (Array.all_eq_true_iff_forall_mem.1 (St.one s)) v (by simpa using hv))
  simpa using this
/-- The eight words behind all blocks: m whole ones, and the last n bytes. -/
def shaSt (B : Nat → Int) (m r : Nat) : St :=
  absorbN kOf (padB (fun t => B (64 * m + t)) (64 * m + r) r (if 55 < r then 128 else 64)) (absorbN kOf B h0St m) (if 55 < r then 2 else 1)
theorem shaSt_two {B : Nat → Int} {m r : Nat} (h : 55 < r) : shaSt B m r = absorbN kOf (padB (fun t => B (64 * m + t)) (64 * m + r) r 128) (absorbN kOf B h0St m) 2 := by simp [shaSt, h]
theorem shaSt_one {B : Nat → Int} {m r : Nat} (h : ¬ 55 < r) : shaSt B m r = absorbN kOf (padB (fun t => B (64 * m + t)) (64 * m + r) r 64) (absorbN kOf B h0St m) 1 := by simp [shaSt, h]
set_option maxRecDepth 100000 in
set_option maxHeartbeats 2000000 in
theorem sum_some (b off m r cap : Nat) (B : Nat → Int) (w : World) (hB : Bytes w b off (64 * m + r) B) (hr : r < 64) (hcap : 64 * m + r ≤ cap) (hcap2 : 64 * m + r ≤ 140737488355328) :
    Calls Tryz.prog 114 #[.slice (some ⟨b, off, none⟩) (64 * m + r) cap] w fun e w' => ∃ C : Array Value, e = .returned (.agg C) ∧ C.size = 32 ∧ (∀ t, t < 32 → C[t]? = some (.int .u8 (outB (shaSt B m r) t))) ∧ Below w.heap.size w w' := by
  have hrI : (r : Int) < 64 := by omega
  have hr0 : (0 : Int) ≤ r := by omega
  have hm0 : (0 : Int) ≤ m := by omega
  have hcI : (64 * (m : Int) + r) ≤ cap := by omega
  have hcI2 : 64 * (m : Int) + r ≤ 140737488355328 := by omega
  have hcI3 : (64 * (m : Int)) ≤ cap := by omega
  have hmod : (64 * (m : Int) + r) % 64 = r := by omega
  go_enter Tryz.func114, Tryz.ntmps114
  go_upto_region 4 with (first
    | (go_at_call 142; go_must (refine (roundNumbers_any _).mono ?_; rintro e w1 ⟨rfl, hb1⟩))
    | (refine wpList_store_new w1 _ 205 (by rfl) 205 (.tmp 3) (.tmp 6) (by rfl) kCells (by rfl) (by rfl) (Eq.trans size46 (by rfl)) (by rfl) (one_ints kCells_size kCells_get) ?_)
    | (go_at_call 143; go_must (refine (firstWords_any _).mono ?_; rintro e w2 ⟨rfl, hb2⟩))
    | (refine wpList_store_new w2 _ 186 (by rfl) 186 (.tmp 4) (.tmp 7) (by rfl) h0St.cells (by rfl) (by rfl) (s48 _) (by rfl) (St.one _) ?_))
  have hA4 : Arr (w2.alloc (.cells h0St.cells 186)) w2.heap.size 186 h0St.cells := Arr.new _ _ _
  have hK3 : Arr (w2.alloc (.cells h0St.cells 186)) w1.heap.size 205 kCells := ((Arr.new w1 205 kCells).below hb2 (by simp)).alloc _
  have hg34 : w.heap.size < w1.heap.size := by have := hb1.size; simp at this; omega
  have hg45 : w1.heap.size < w2.heap.size := by have := hb2.size; simp at this; omega
  have hbl : Below w.heap.size w (w2.alloc (.cells h0St.cells 186)) :=
    ((((((Below.refl _ _).alloc (Nat.le_refl _) _).trans (hb1.mono (by simp))).alloc (by omega) _).trans (hb2.mono (by simp; omega))).alloc (by omega) _)
  have hR : ∃ Z : Array Value, Z.size = 32 ∧ Arr (w2.alloc (.cells h0St.cells 186)) w.heap.size 40 Z :=
    ⟨_, by rfl, ((((Arr.new w 40 _).below hb1 (by simp)).alloc _).below hb2 (by simp; omega)).alloc _⟩
  obtain ⟨Z, hZs, hZ⟩ := hR
  clear hb1 hb2
  generalize w2.alloc (.cells h0St.cells 186) = W at *
  generalize w2.heap.size = g4 at *
  generalize w1.heap.size = g3 at *
  go_cut [] from 6 (fun wc => Arr wc g4 186 (absorbN kOf B h0St m).cells ∧ Arr wc g3 205 kCells ∧ Arr wc w.heap.size 40 Z ∧ Below w.heap.size w wc)
  case first =>
    obtain ⟨c0, c1, c2, c3, c4, c5, c6, c7⟩ := hA4.cells8
    have hBW : Bytes W.drew b off (64 * m) B := fun t ht => (hbl.cell (p := ⟨b, off + t, none⟩) (block_lt_of_cell (hB t (by omega)))).trans (hB t (by omega))
    have hKW : Row W.drew g3 64 kOf := hK3.row kCells_get
    go_region_with (first
      | (go_at_call 144; go_must (refine (absorb_any h0St b off (64 * m) m g3 kOf B _ hBW (by omega) (by omega) hK3.lt hKW).mono ?_; rintro e w3 ⟨rfl, hb3⟩; have hA5 := hA4.drew.below hb3 hA4.lt; have hst := hA5.store8 (absorbN kOf B h0St m))))
    all_goals
      go_wp2_with fail
      go_meet
      exact ⟨hA5.setRow _, (hK3.drew.below hb3 hK3.lt).setRowOther _ (by omega), (hZ.drew.below hb3 hZ.lt).setRowOther _ (by omega), below_setRow (hbl.drew.trans (hb3.mono hbl.size)) (by omega) _⟩
  case rest =>
    clear hA4 hK3 hbl hZ
    obtain ⟨hA4, hK3, hZ, hbl⟩ := hcut
    go_upto_region 5 with fail
    have hl : 64 * m + r - 64 * m = r := by omega
    have hS : Sl wc.drew (some ⟨b, off + 64 * m, none⟩) r (fun t => B (64 * m + t)) := fun h0 => ⟨b, off + 64 * m, rfl, fun t ht => by
      have h1 := hB (64 * m + t) (by omega)
      have := (hbl.cell (p := ⟨b, off + (64 * m + t), none⟩) (block_lt_of_cell h1)).trans h1
      rw [← Nat.add_assoc] at this; exact this⟩
    obtain ⟨c0, c1, c2, c3, c4, c5, c6, c7⟩ := hA4.cells8
    go_cut [] from 6 (fun wc => Arr wc g4 186 (shaSt B m r).cells ∧ Arr wc w.heap.size 40 Z ∧ Below w.heap.size w wc)
    case first =>
      by_cases h55 : 55 < r
      · go_region_with (first
        | (go_at_call 145; go_must (refine (lastBlocks_any _ r _ 128 _ (fun t => B (64 * m + t)) wc.drew hS (Or.inl ⟨h55, rfl⟩) hr (by omega) (by omega)).mono ?_; rintro e w4 ⟨C, rfl, hC, hCs, hCw, hb4⟩; have hA6 := hA4.drew.below hb4 hA4.lt; have hK6 := (hK3.drew.below hb4 hK3.lt).row kCells_get; have hg3 := (hK3.drew.below hb4 hK3.lt).lt; have hBy : Bytes w4 wc.heap.size 0 (64 * 2) (padB (fun t => B (64 * m + t)) (64 * m + r) r 128) := (fun t ht => by rw [Nat.zero_add]; exact (hC.cell t).trans (hCw t ht)); obtain ⟨c0, c1, c2, c3, c4, c5, c6, c7⟩ := hA6.cells8; clear hCw))
        | (go_at_call 144; go_must (refine (absorb_any (absorbN kOf B h0St m) wc.heap.size 0 128 2 g3 kOf _ w4 hBy (by omega) (by omega) hg3 hK6).mono ?_; rintro e w5 ⟨rfl, hb5⟩; have hA7 := hA6.below hb5 hA6.lt; have hst := hA7.store8 (absorbN kOf (padB (fun t => B (64 * m + t)) (64 * m + r) r 128) (absorbN kOf B h0St m) 2))))
        all_goals
          go_wp2_with fail
          go_meet
          rw [shaSt_two h55]
          exact ⟨hA7.setRow _, (((hZ.drew.below hb4 hZ.lt).below hb5 (hZ.drew.below hb4 hZ.lt).lt)).setRowOther _ (by omega), below_setRow ((hbl.drew.trans (hb4.mono hbl.size)).trans (hb5.mono (Nat.le_trans hbl.size hb4.size))) (by omega) _⟩
      · by_cases hc : 64 * m = cap
        · obtain rfl : r = 0 := by omega
          subst hc
          have hS0 : Sl wc.drew (some ⟨b, off, none⟩) 0 (fun t => B (64 * m + t)) := fun h0 => absurd h0 (by omega)
          have e0 : (64 * (m : Int) + ((0 : Nat) : Int)) = 64 * m := by omega
          go_region_with (first
            | (go_at_call 145; go_must (refine (lastBlocks_any (some ⟨b, off, none⟩) 0 0 64 (64 * m) (fun t => B (64 * m + t)) wc.drew hS0 (Or.inr ⟨Nat.le_of_not_lt h55, rfl⟩) hr (by omega) (by omega)).mono ?_; rintro e w4 ⟨C, rfl, hC, hCs, hCw, hb4⟩; have hA6 := hA4.drew.below hb4 hA4.lt; have hK6 := (hK3.drew.below hb4 hK3.lt).row kCells_get; have hg3 := (hK3.drew.below hb4 hK3.lt).lt; have hBy : Bytes w4 wc.heap.size 0 (64 * 1) (padB (fun t => B (64 * m + t)) (64 * m) 0 64) := (fun t ht => by rw [Nat.zero_add]; exact (hC.cell t).trans (hCw t ht)); obtain ⟨c0, c1, c2, c3, c4, c5, c6, c7⟩ := hA6.cells8; clear hCw))
            | (go_at_call 144; go_must (refine (absorb_any (absorbN kOf B h0St m) wc.heap.size 0 64 1 g3 kOf _ w4 hBy (by omega) (by omega) hg3 hK6).mono ?_; rintro e w5 ⟨rfl, hb5⟩; have hA7 := hA6.below hb5 hA6.lt; have hst := hA7.store8 (absorbN kOf (padB (fun t => B (64 * m + t)) (64 * m) 0 64) (absorbN kOf B h0St m) 1))))
          all_goals
            go_wp2_with fail
            go_meet
            rw [shaSt_one h55, e0]
            exact ⟨hA7.setRow _, (((hZ.drew.below hb4 hZ.lt).below hb5 (hZ.drew.below hb4 hZ.lt).lt)).setRowOther _ (by omega), below_setRow ((hbl.drew.trans (hb4.mono hbl.size)).trans (hb5.mono (Nat.le_trans hbl.size hb4.size))) (by omega) _⟩
        · have hc1 : 64 * m < cap := by omega
          have hc2 : (64 * (m : Int)) < cap := by omega
          go_region_with (first
            | (go_at_call 145; go_must (refine (lastBlocks_any _ r _ 64 _ (fun t => B (64 * m + t)) wc.drew hS (Or.inr ⟨Nat.le_of_not_lt h55, rfl⟩) hr (by omega) (by omega)).mono ?_; rintro e w4 ⟨C, rfl, hC, hCs, hCw, hb4⟩; have hA6 := hA4.drew.below hb4 hA4.lt; have hK6 := (hK3.drew.below hb4 hK3.lt).row kCells_get; have hg3 := (hK3.drew.below hb4 hK3.lt).lt; have hBy : Bytes w4 wc.heap.size 0 (64 * 1) (padB (fun t => B (64 * m + t)) (64 * m + r) r 64) := (fun t ht => by rw [Nat.zero_add]; exact (hC.cell t).trans (hCw t ht)); obtain ⟨c0, c1, c2, c3, c4, c5, c6, c7⟩ := hA6.cells8; clear hCw))
            | (go_at_call 144; go_must (refine (absorb_any (absorbN kOf B h0St m) wc.heap.size 0 64 1 g3 kOf _ w4 hBy (by omega) (by omega) hg3 hK6).mono ?_; rintro e w5 ⟨rfl, hb5⟩; have hA7 := hA6.below hb5 hA6.lt; have hst := hA7.store8 (absorbN kOf (padB (fun t => B (64 * m + t)) (64 * m + r) r 64) (absorbN kOf B h0St m) 1))))
          all_goals
            go_wp2_with fail
            go_meet
            rw [shaSt_one h55]
            exact ⟨hA7.setRow _, (((hZ.drew.below hb4 hZ.lt).below hb5 (hZ.drew.below hb4 hZ.lt).lt)).setRowOther _ (by omega), below_setRow ((hbl.drew.trans (hb4.mono hbl.size)).trans (hb5.mono (Nat.le_trans hbl.size hb4.size))) (by omega) _⟩
    case rest =>
      clear hA4 hK3 hbl hZ hS c0 c1 c2 c3 c4 c5 c6 c7
      obtain ⟨hA4, hZ, hbl⟩ := hcut
      go_wp2_with (first
        | (refine wpList_load_row rfl 186 (.tmp 4) rfl g4 rfl 186 (shaSt B m r).cells (0, 0) _ hA4 Tryz.underlying186 rfl (s48 _) ?_)
        | (go_at_call 146; go_must (refine (fromWords_any (shaSt B m r) _).mono ?_; rintro e w6 ⟨C, rfl, hCs, hCw, hb6⟩; have hZ6 := hZ.below hb6 hZ.lt))
        | (refine wpList_store_arr rfl 40 (.tmp 2) (.tmp 29) rfl w.heap.size C rfl rfl 40 Z hZ6 (by rw [hCs]; exact size24) (by rw [hCs]; exact hZs) (one_ints hCs hCw) ?_))
      exact bodyPost_ret (v := .agg C) (results_cell_row Tryz.results114 _ _ w.heap.size 40 C (0, 0) _ rfl (hZ6.setRow C) Tryz.underlying40 rfl (by rw [hCs]; exact size24)) rfl ⟨C, rfl, hCs, hCw, below_setRow (hbl.trans (hb6.mono hbl.size)) (Nat.le_refl _) C⟩
end Go.Proofs.YtneihkegipcakaaGreat
/- Layer trace: what the layers below give. -/
namespace Go.Proofs.YtneihkegipcakaaGreat
open Go.RowKit
set_option maxRecDepth 100000
set_option linter.unusedVariables false
set_option linter.unusedSimpArgs false

/-- Byte t of the sum of n bytes. -/
def shaB (B : Nat → Int) (n t : Nat) : Int := outB (shaSt B (n / 64) (n % 64)) t
theorem u8s_size (n : Nat) (f : Nat → Int) : (u8s n f).size = n := arr_size _ _
theorem u8s_get {n : Nat} {f : Nat → Int} {t : Nat} (h : t < n) : (u8s n f)[t]? = some (.int .u8 (f t)) := arr_get h
theorem sum_any (b off n cap : Nat) (B : Nat → Int) (w : World) (hB : Bytes w b off n B) (hcap : n ≤ cap) (hn : n ≤ 140737488355328) :
    Calls Tryz.prog 114 #[.slice (some ⟨b, off, none⟩) n cap] w fun e w' => e = .returned (.agg (u8s 32 (shaB B n))) ∧ Below w.heap.size w w' := by
  have e : 64 * (n / 64) + n % 64 = n := Nat.div_add_mod n 64
  have := sum_some b off (n / 64) (n % 64) cap B w (by rw [e]; exact hB) (Nat.mod_lt _ (by omega)) (by omega) (by omega)
  rw [e] at this
  refine this.mono ?_
  rintro e w' ⟨C, rfl, hs, hC, hb⟩
  exact ⟨by rw [arr_eq hs hC]; rfl, hb⟩
end Go.Proofs.YtneihkegipcakaaGreat
/- Layer trace: what the layers below give. -/
namespace Go.Proofs.YtneihkegipcakaaGreat
open Go.RowKit
set_option maxRecDepth 100000
set_option linter.unusedVariables false
set_option linter.unusedSimpArgs false

/-- Bytes as cells. -/
def by8 (L : List Int) : List Value := L.map (Value.int .u8)
theorem by8_len (L : List Int) : (by8 L).length = L.length := by simp [by8]
theorem by8_app (L M : List Int) : by8 (L ++ M) = by8 L ++ by8 M := by simp [by8]
theorem by8_one (L : List Int) : ∀ v ∈ by8 L, v.oneCell' = true := by
  intro v hv; simp only [by8, List.mem_map] at hv; obtain ⟨t, -, rfl⟩ := hv; rfl
/-- Byte t. -/
def bat (L : List Int) (t : Nat) : Int := L.getD t 0
theorem by8_get {L : List Int} {t : Nat} (h : t < L.length) : (by8 L)[t]? = some (.int .u8 (bat L t)) := by
  simp [by8, bat, List.getElem?_eq_getElem h]
/-- The sum of bytes. -/
def sha (L : List Int) : Array Value := u8s 32 (shaB (bat L) L.length)
/-- What a slice of bytes reads. -/
def SlL (w : World) (sp : Option Addr) (L : List Int) : Prop := Sl w sp L.length (bat L)
theorem sum_list (b off cap : Nat) (L : List Int) (w : World) (hB : Bytes w b off L.length (bat L)) (hcap : L.length ≤ cap) (hn : L.length ≤ 140737488355328) :
    Calls Tryz.prog 114 #[.slice (some ⟨b, off, none⟩) L.length cap] w fun e w' => e = .returned (.agg (sha L)) ∧ Below w.heap.size w w' :=
  sum_any b off L.length cap (bat L) w hB hcap hn
theorem Arr.sl {w : World} {g ty : Nat} {L : List Int} (h : Arr w g ty (by8 L).toArray) : SlL w (some ⟨g, 0, none⟩) L := fun _ => ⟨g, 0, rfl, fun t ht => by
  rw [Nat.zero_add, h.cell]; simpa using by8_get ht⟩
theorem own_ge {w : World} {base e s n : Nat} {v : Value} {xs : List Value} (h : w.ownsRow base e s v n xs) : ∀ k, v.ownBlock = some k → base ≤ k := by
  intro k hk
  obtain ⟨-, h | ⟨g, cap, cur, rfl, hg, -⟩⟩ := h
  · obtain ⟨rfl, -⟩ := h; simp [Value.ownBlock] at hk
  · simp [Value.ownBlock] at hk; omega
/-- What an own slice that is not empty looks like. -/
theorem own_slice {w : World} {base n : Nat} {v : Value} {L : List Int} (h : w.ownsRow base 5 1 v n (by8 L)) (h0 : 0 < n) :
    ∃ g cap, v = .slice (some ⟨g, 0, none⟩) n cap ∧ Hid (n = L.length) ∧ n ≤ cap ∧ base ≤ g ∧ Bytes w g 0 L.length (bat L) ∧ (∃ cur : Array Value, Arr w g 5 cur ∧ cur.size = cap) := by
  obtain ⟨hl, h | ⟨g, cap, cur, rfl, hg, hh, hn, -, hc, ht⟩⟩ := h
  · omega
  · rw [by8_len, Nat.mul_one] at hl
    subst hl
    refine ⟨g, cap, rfl, show _ = _ from rfl, hn, hg, fun t htl => ?_, cur, hh, by simpa using hc⟩
    rw [Nat.zero_add, cell_of_row w g t cur 5 (0, 0) hh, ← Array.getElem?_toList, ← List.getElem?_take_of_lt (show t < L.length * 1 by omega), ht, by8_get htl]
theorem sum_n (b off n cap : Nat) (L : List Int) (w : World) (hnL : Hid (n = L.length)) (hB : Bytes w b off L.length (bat L)) (hcap : n ≤ cap) (hn : n ≤ 140737488355328) :
    Calls Tryz.prog 114 #[.slice (some ⟨b, off, none⟩) n cap] w fun e w' => e = .returned (.agg (sha L)) ∧ Below w.heap.size w w' := by
  have h := hnL.out
  subst h
  exact sum_list b off cap L w hB hcap hn
theorem maxLen_ge : 140737488355328 ≤ maxLen := by unfold maxLen; omega
/-- append of bytes onto a slice of the call's own: the operation. -/
theorem wp_append_bytes {o : Oper} {a : Act} {w : World} {K : Act → World → Prop} {Q : Exit → Act → World → Prop} (s x : Operand)
    (ho : o.op = .call { callee := .builtin .append, args := #[s, x], argTypes := #[50, 50] })
    (base : Nat) (v : Value) (n : Nat) (L : List Int) (hs : a.eval s = v) (hown : w.ownsRow base 5 1 v n (by8 L))
    (sp : Option Addr) (m c : Nat) (M : List Int) (hx : a.eval x = .slice sp m c) (hm : m = M.length) (hnil : sp = none → m = 0 ∧ c = 0) (hS : SlL w sp M) (hb : n + m ≤ 140737488355328) (hbase : base ≤ w.heap.size)
    (h : ∀ v' w', w'.ownsRow base 5 1 v' (n + m) (by8 (L ++ M)) → w.grownBy w' v.ownBlock → K (a.put o.dst v') w') : o.wp Tryz.prog a w K Q := by
  obtain ⟨i0, hi, hz0, hz1, hz2⟩ := info_parts info5
  subst hm
  cases sp with
  | none =>
    obtain ⟨h1, rfl⟩ := hnil rfl
    obtain rfl : M = [] := List.eq_nil_of_length_eq_zero h1
    have hrun := run_append_owned_none (P := Tryz.prog) (w := w) base 50 o.type 5 i0 1 Tryz.underlying50 hi v n _ hown
    unfold Oper.wp
    simp only [List.length_nil] at hx
    simp [execOp, ho, resolve, invoke, builtin, hs, hx, hrun, Result.andThen]
    exact h v w (by simpa using hown) ⟨rfl, rfl, rfl, Nat.le_refl _, fun _ _ _ => rfl⟩
  | some ad =>
    refine wp_append_own w s x 50 ho base 5 i0 (.int .u8 0) 1 1 Tryz.underlying50 hi hz0 hz1 hz2 rfl (by omega) v n _ hs hown ad M.length c (by8 M) hx (by rw [by8_len]; omega) ?_ (by8_one M) (Nat.le_trans hb maxLen_ge) (by omega) hbase ?_
    · intro j u hj
      have hjl : j < M.length := by have := (List.getElem?_eq_some_iff.1 hj).1; rwa [by8_len] at this
      obtain ⟨b, off, e, hB⟩ := hS (by omega)
      obtain rfl := Option.some.inj e
      rw [by8_get hjl] at hj
      rw [Addr.add_mid, hB j hjl]; exact hj
    · intro v' w' h1 h2 _
      exact h v' w' (by rw [by8_app]; exact h1) h2
theorem wpList_want {P : Program} {ops : Array Oper} {rest : List Oper} {o : Oper} {a : Act} {w : World} {Q : Exit → Act → World → Prop} (hw : Region.wanted o (yielded ops a.tmps) = true)
    (h : ∀ K : Act → World → Prop, (∀ a w, wpList P ops Q rest a w → K a w) → o.wp P a w K Q) : wpList P ops Q (o :: rest) a w :=
  wpList_step fun K hK => by rw [if_pos hw]; exact h K hK
theorem step_want {P : Program} {ops : Array Oper} {o : Oper} {a : Act} {w : World} {K : Act → World → Prop} {Q : Exit → Act → World → Prop} {E : Prop} (hg : o.guard = none) (h : Oper.wp P o a w K Q) :
    if Region.wanted o (yielded ops a.tmps) = true then Oper.wp P o a w K Q else E := by
  rw [if_pos (by simp [Region.wanted, hg])]; exact h
/-- .. in a region's list, guarded or not. -/
theorem append_bytes {ops : Array Oper} {rest : List Oper} {o : Oper} {a : Act} {w : World} {Q : Exit → Act → World → Prop} (hgd : Region.wanted o (yielded ops a.tmps) = true) (s x : Operand)
    (ho : o.op = .call { callee := .builtin .append, args := #[s, x], argTypes := #[50, 50] })
    (base : Nat) (v : Value) (n : Nat) (L : List Int) (hs : a.eval s = v) (hown : w.ownsRow base 5 1 v n (by8 L))
    (sp : Option Addr) (m c : Nat) (M : List Int) (hx : a.eval x = .slice sp m c) (hm : m = M.length) (hnil : sp = none → m = 0 ∧ c = 0) (hS : SlL w sp M) (hb : n + m ≤ 140737488355328) (hbase : base ≤ w.heap.size)
    (h : ∀ v' w', w'.ownsRow base 5 1 v' (n + m) (by8 (L ++ M)) → w.grownBy w' v.ownBlock → wpList Tryz.prog ops Q rest (a.put o.dst v') w') : wpList Tryz.prog ops Q (o :: rest) a w :=
  wpList_want hgd fun _ hK => wp_append_bytes s x ho base v n L hs hown sp m c M hx hm hnil hS hb hbase fun v' w' h1 h2 => hK _ _ (h v' w' h1 h2)
/-- .. in a region that draws its order. -/
theorem step_append_bytes {ops : Array Oper} {o : Oper} {a : Act} {w : World} {K : Act → World → Prop} {Q : Exit → Act → World → Prop} {E : Prop} (hgd : o.guard = none) (s x : Operand)
    (ho : o.op = .call { callee := .builtin .append, args := #[s, x], argTypes := #[50, 50] })
    (base : Nat) (v : Value) (n : Nat) (L : List Int) (hs : a.eval s = v) (hown : w.ownsRow base 5 1 v n (by8 L))
    (sp : Option Addr) (m c : Nat) (M : List Int) (hx : a.eval x = .slice sp m c) (hm : m = M.length) (hnil : sp = none → m = 0 ∧ c = 0) (hS : SlL w sp M) (hb : n + m ≤ 140737488355328) (hbase : base ≤ w.heap.size)
    (h : ∀ v' w', w'.ownsRow base 5 1 v' (n + m) (by8 (L ++ M)) → w.grownBy w' v.ownBlock → K (a.put o.dst v') w') :
    if Region.wanted o (yielded ops a.tmps) = true then Oper.wp Tryz.prog o a w K Q else E :=
  step_want hgd (wp_append_bytes s x ho base v n L hs hown sp m c M hx hm hnil hS hb hbase h)
end Go.Proofs.YtneihkegipcakaaGreat
/- Layer trace: what the layers below give. -/
namespace Go.Proofs.YtneihkegipcakaaGreat
open Go.RowKit
set_option maxRecDepth 100000
set_option linter.unusedVariables false
set_option linter.unusedSimpArgs false

theorem Sl.grown {w w' : World} {sp : Option Addr} {r : Nat} {B : Nat → Int} {row : Option Nat} (h : Sl w sp r B) (hg : w.grownBy w' row) (hr : ∀ b off, sp = some ⟨b, off, none⟩ → 0 < r → some b ≠ row) : Sl w' sp r B := fun h0 => by
  obtain ⟨b, off, rfl, hB⟩ := h h0
  refine ⟨b, off, rfl, fun t ht => ?_⟩
  rw [World.cell?_of_block (w := w) (a := ⟨b, off + t, none⟩) (hg.block b (block_lt_of_cell (hB t ht)) (hr b off rfl h0))]
  exact hB t ht
theorem Arr.grown {w w' : World} {g ty : Nat} {C : Array Value} {row : Option Nat} (h : Arr w g ty C) (hg : w.grownBy w' row) (hr : some g ≠ row) : Arr w' g ty C := by
  have := hg.block g h.lt hr
  unfold Arr at h ⊢; rw [this]; exact h
theorem Sl.lt {w : World} {b off r : Nat} {B : Nat → Int} (h : Sl w (some ⟨b, off, none⟩) r B) (h0 : 0 < r) : b < w.heap.size := by
  obtain ⟨b', off', e, hB⟩ := h h0
  cases e
  exact block_lt_of_cell (hB 0 h0)
theorem ne_own {w : World} {base e s n b : Nat} {v : Value} {xs : List Value} (h : w.ownsRow base e s v n xs) (hb : b < base) : some b ≠ v.ownBlock := fun h' => by
  have := own_ge h b h'.symm; omega
theorem sha_size (L : List Int) : (sha L).size = 32 := u8s_size _ _
theorem s24sha (L : List Int) : (Tryz.prog.info? 40).map (·.size) = some (sha L).size := by rw [sha_size]; exact size24
theorem sha_get (L : List Int) : ∀ t, t < 32 → (sha L)[t]? = some (.int .u8 (shaB (bat L) L.length t)) := fun _ h => u8s_get h
theorem sha_one (L : List Int) : (sha L).all (·.oneCell') = true := one_ints (sha_size L) (sha_get L)
theorem Arr.new3 (w : World) (o1 o2 : Obj) (ty : Nat) (C : Array Value) : Arr (((w.alloc o1).alloc o2).alloc (.cells C ty)) (w.heap.size + 2) ty C := by
  simpa using Arr.new ((w.alloc o1).alloc o2) ty C
/-- A sum by value. -/
def h8 (X : List Int) : Array Value := (by8 X).toArray
theorem h8_size (X : List Int) : (h8 X).size = X.length := by simp [h8, by8_len]
set_option maxRecDepth 100000 in
set_option maxHeartbeats 600000 in
theorem pair_any (X Y : List Int) (w : World) (hX : X.length = 32) (hY : Y.length = 32) :
    Calls Tryz.prog 147 #[.agg (h8 X), .agg (h8 Y)] w fun e w' => e = .returned (.agg (sha (1 :: (X ++ Y)))) ∧ Below w.heap.size w w' := by
  obtain ⟨i0, hi, hz0, hz1, hz2⟩ := info_parts info5
  have HX := Hid.mk' hX
  have HY := Hid.mk' hY
  clear hX hY
  go_enter Tryz.func147, Tryz.ntmps147
  go_wp2_with (first
    | (at_make; go_must (refine wpList_make_own _ (by rfl) (.const (.int .i64 0)) (.const (.int .i64 65)) 50 (by rfl) (w.heap.size + 3) 5 i0 (.int .u8 0) 1 Tryz.underlying50 hi hz0 hz1 .i64 .i64 _ 65 (by rfl) (by rfl) (by omega) (by rw [hz2]; omega) (Nat.le_trans (by omega) maxLen_ge) (by simp) ?_; intro w1 hown1 hg1; have hown1 : w1.ownsRow (w.heap.size + 3) 5 1 (.slice (some ⟨w.heap.size + 3, 0, none⟩) 0 65) 0 [] := (by simpa using hown1); have hs1 : w.heap.size + 3 ≤ w1.heap.size := (by have := hg1.size; simpa using this); have hX1 : Arr w1 w.heap.size 40 (h8 X) := (((Arr.new w 40 _).alloc _).alloc _).grown hg1 (by simp); have hY1 : Arr w1 (w.heap.size + 1) 40 (h8 Y) := ((show Arr ((w.alloc _).alloc _) (w.heap.size + 1) 40 (h8 Y) from (by simpa using Arr.new (w.alloc (.cells (h8 X) 40)) 40 (h8 Y))).alloc _).grown hg1 (by simp); have hZ1 : ∃ Z : Array Value, Z.size = 32 ∧ Arr w1 (w.heap.size + 2) 40 Z := ⟨_, by rfl, (Arr.new3 w _ _ 40 _).grown hg1 (by simp)⟩; have hB1 : Below w.heap.size w w1 := ((((Below.refl _ _).alloc (Nat.le_refl _) _).alloc (by simp) _).alloc (by simp; omega) _).grown hg1 (by simp; omega) (by simp)))
    | (at_builtin; refine append_bytes (by rfl) (.tmp 7) (.tmp 8) (by rfl) (w.heap.size + 3) _ 0 [] (by rfl) (hown1.alloc _) (some ⟨w1.heap.size, 0, none⟩) 1 1 [1] (by rfl) (by rfl) (fun h => by cases h) (Arr.sl (Arr.new w1 5 _)) (by omega) (by simp; omega) ?_; intro v2 w2 hown2 hg2; obtain ⟨Z, hZs, hZ1⟩ := hZ1; have hZ2 := (hZ1.alloc _).grown hg2 (ne_own hown1 (by omega)); have hX2 := (hX1.alloc _).grown hg2 (ne_own hown1 (by omega)); have hY2 := (hY1.alloc _).grown hg2 (ne_own hown1 (by omega)); have hB2 := (hB1.alloc (by omega) _).grown hg2 (by simp; omega) (fun k e => by have := own_ge hown1 k e; omega); have hs2 : w.heap.size + 3 ≤ w2.heap.size := (by have := hg2.size; simp at this; omega))
    | (at_builtin; refine append_bytes (by rfl) (.tmp 10) (.tmp 11) (by rfl) (w.heap.size + 3) _ 1 [1] (by rfl) hown2 (some ⟨w.heap.size, 0, none⟩) 32 32 X (by rfl) HX.out.symm (fun h => by cases h) (Arr.sl hX2) (by omega) hs2 ?_; intro v3 w3 hown3 hg3; have hZ3 := hZ2.grown hg3 (ne_own hown2 (by omega)); have hY3 := hY2.grown hg3 (ne_own hown2 (by omega)); have hB3 := hB2.grown hg3 (by omega) (fun k e => by have := own_ge hown2 k e; omega); have hs3 : w.heap.size + 3 ≤ w3.heap.size := Nat.le_trans hs2 hg3.size)
    | (at_builtin; refine append_bytes (by rfl) (.tmp 13) (.tmp 14) (by rfl) (w.heap.size + 3) _ 33 ([1] ++ X) (by rfl) hown3 (some ⟨w.heap.size + 1, 0, none⟩) 32 32 Y (by rfl) HY.out.symm (fun h => by cases h) (Arr.sl hY3) (by omega) hs3 ?_; intro v4 w4 hown4 hg4; have hZ4 := hZ3.grown hg4 (ne_own hown3 (by omega)); have hB4 := hB3.grown hg4 (by omega) (fun k e => by have := own_ge hown3 k e; omega); obtain ⟨g, cap4, rfl, hn4, hcap4, hg, hBy, -⟩ := own_slice hown4 (by omega))
    | (go_at_call 114; go_must (refine (sum_n g 0 65 cap4 ([1] ++ X ++ Y) _ hn4 hBy hcap4 (by omega)).mono ?_; rintro e w5 ⟨rfl, hb5⟩; have hZ5 := hZ4.below hb5 hZ4.lt))
    | (refine wpList_store_arr (by rfl) 40 (.tmp 4) (.tmp 16) (by rfl) (w.heap.size + 2) (sha ([1] ++ X ++ Y)) (by rfl) (by rfl) 40 Z hZ5 (s24sha _) (by rw [hZs, sha_size]) (sha_one _) ?_))
  exact bodyPost_ret (v := .agg (sha (1 :: (X ++ Y)))) (results_cell_row Tryz.results147 _ _ (w.heap.size + 2) 40 _ (0, 0) _ rfl (hZ5.setRow _) Tryz.underlying40 rfl (s24sha _)) rfl ⟨rfl, below_setRow (hB4.trans (hb5.mono hB4.size)) (by omega) _⟩
end Go.Proofs.YtneihkegipcakaaGreat
/- Layer trace: what the layers below give. -/
namespace Go.Proofs.YtneihkegipcakaaGreat
open Go.RowKit
set_option maxRecDepth 100000
set_option linter.unusedVariables false
set_option linter.unusedSimpArgs false

/-- A sum, as bytes. -/
def shl (L : List Int) : List Int := (List.range 32).map (shaB (bat L) L.length)
theorem shl_len (L : List Int) : (shl L).length = 32 := by simp [shl]
theorem sha_h8 (L : List Int) : sha L = h8 (shl L) := by
  simp only [sha, u8s, arr, h8, by8, shl, List.map_map]
  congr 1
/-- The sum of a pair. -/
def pr (x y : List Int) : List Int := shl (1 :: (x ++ y))
theorem pr_len (x y : List Int) : (pr x y).length = 32 := shl_len _
/-- The zero sum. -/
def Z32 : List Int := List.replicate 32 0
theorem Z32_len : Z32.length = 32 := by simp [Z32]
/-- The root of a tree: only its first 2^d leaves count; those that are not given are noughts. -/
def tr : Nat → List (List Int) → List Int
  | 0, l => l.headD Z32
  | d + 1, l => pr (tr d (l.take (2 ^ d))) (tr d (l.drop (2 ^ d)))
theorem tr_len (d : Nat) : ∀ l : List (List Int), (∀ x ∈ l, x.length = 32) → (tr d l).length = 32 := by
  cases d with
  | zero =>
    intro l h
    cases l with
    | nil => exact Z32_len
    | cons a r => exact h a (by simp)
  | succ d => intro l h; exact pr_len _ _
theorem tr_take (d : Nat) : ∀ l : List (List Int), tr d (l.take (2 ^ d)) = tr d l := by
  induction d with
  | zero => intro l; cases l <;> simp [tr]
  | succ d ih =>
    intro l
    have h2 : 2 ^ (d + 1) = 2 ^ d + 2 ^ d := by rw [Nat.pow_succ]; omega
    have hp : 0 < 2 ^ d := Nat.pow_pos (by omega)
    simp only [tr]
    rw [List.take_take, Nat.min_eq_left (by omega)]
    congr 1
    rw [List.drop_take, show 2 ^ (d + 1) - 2 ^ d = 2 ^ d by omega]
    exact ih _
theorem tr_succ (d : Nat) (l : List (List Int)) : tr (d + 1) l = pr (tr d l) (tr d (l.drop (2 ^ d))) := by
  rw [tr, tr_take]
theorem tr_nil (d : Nat) : tr (d + 1) [] = pr (tr d []) (tr d []) := by rw [tr_succ]; simp
/-- Two halves side by side. -/
theorem tr_two (d q : Nat) (l : List (List Int)) : pr (tr d (l.drop (2 * q * 2 ^ d))) (tr d (l.drop ((2 * q + 1) * 2 ^ d))) = tr (d + 1) (l.drop (q * 2 ^ (d + 1))) := by
  rw [tr_succ, List.drop_drop]
  have h1 : 2 * q * 2 ^ d = q * 2 ^ (d + 1) := by rw [Nat.pow_succ, Nat.mul_comm 2 q, Nat.mul_assoc, Nat.mul_comm 2]
  have h2 : (2 * q + 1) * 2 ^ d = q * 2 ^ (d + 1) + 2 ^ d := by rw [Nat.add_mul, h1, Nat.one_mul]
  rw [h1, h2]
/-- The array of halves that wait, of the first n leaves. -/
def Wt (l : List (List Int)) (n : Nat) (W : Nat → List Int) : Prop := ∀ k, (n / 2 ^ k) % 2 = 1 → W k = tr k (l.drop ((n / 2 ^ (k + 1)) * 2 ^ (k + 1)))
theorem div_succ (n k : Nat) : n / 2 ^ (k + 1) = n / 2 ^ k / 2 := by rw [Nat.pow_succ, Nat.div_div_eq_div_mul]
/-- A leaf on its way up: below k all were second halves. -/
theorem wt_up {l : List (List Int)} {n k : Nat} {W : Nat → List Int} {r : List Int} (hW : Wt l n W) (hb : (n / 2 ^ k) % 2 = 1) (hr : r = tr k (l.drop ((n / 2 ^ k) * 2 ^ k))) :
    pr (W k) r = tr (k + 1) (l.drop ((n / 2 ^ (k + 1)) * 2 ^ (k + 1))) := by
  rw [hW k hb, hr, ← tr_two, div_succ]
  have : n / 2 ^ k = 2 * (n / 2 ^ k / 2) + 1 := by omega
  congr 2
  · rw [Nat.pow_succ, Nat.mul_comm (2 ^ k) 2, ← Nat.mul_assoc, Nat.mul_comm (n / 2 ^ k / 2) 2]
  · rw [← this]
/-- .. and where it stays. -/
theorem wt_stay {l : List (List Int)} {n k : Nat} {W : Nat → List Int} {r : List Int} (hW : Wt l n W) (hb : (n / 2 ^ k) % 2 = 0) (hlow : n % 2 ^ k + 1 = 2 ^ k) (hr : r = tr k (l.drop ((n / 2 ^ k) * 2 ^ k))) :
    Wt l (n + 1) (fun j => if j = k then r else W j) := by
  have hn : n + 1 = 2 ^ k * (n / 2 ^ k + 1) := by
    have := Nat.div_add_mod n (2 ^ k)
    rw [Nat.mul_add]; omega
  have hpos : 0 < 2 ^ k := Nat.pow_pos (by omega)
  have hk : (n + 1) / 2 ^ k = n / 2 ^ k + 1 := by rw [hn, Nat.mul_div_cancel_left _ hpos]
  have habove : ∀ j, (n + 1) / 2 ^ (k + 1 + j) = n / 2 ^ (k + 1 + j) := by
    intro j
    have e : 2 ^ (k + 1 + j) = 2 ^ k * (2 * 2 ^ j) := by rw [Nat.pow_add, Nat.pow_succ, Nat.mul_assoc]
    rw [e, ← Nat.div_div_eq_div_mul, ← Nat.div_div_eq_div_mul, ← Nat.div_div_eq_div_mul, ← Nat.div_div_eq_div_mul, hk]
    congr 1; omega
  intro j hj
  by_cases hjk : j = k
  · subst hjk
    show (if j = j then r else W j) = _
    rw [if_pos rfl, hr, habove 0, Nat.add_zero, div_succ]
    congr 2
    have h2 : n / 2 ^ j = 2 * (n / 2 ^ j / 2) := by omega
    rw [Nat.pow_succ, Nat.mul_comm (2 ^ j) 2, ← Nat.mul_assoc, Nat.mul_comm (n / 2 ^ j / 2) 2, ← h2]
  · show (if j = k then r else W j) = _
    rw [if_neg hjk]
    by_cases hlt : j < k
    · exfalso
      obtain ⟨m, rfl⟩ : ∃ m, k = j + 1 + m := ⟨k - j - 1, by omega⟩
      have e : n + 1 = 2 ^ j * (2 * (2 ^ m * (n / 2 ^ (j + 1 + m) + 1))) := by
        rw [show 2 ^ j * (2 * (2 ^ m * (n / 2 ^ (j + 1 + m) + 1))) = 2 ^ (j + 1 + m) * (n / 2 ^ (j + 1 + m) + 1) by rw [Nat.pow_add 2 (j + 1) m, Nat.pow_succ]; simp only [Nat.mul_assoc]]
        exact hn
      rw [e, Nat.mul_div_cancel_left _ (Nat.pow_pos (by omega))] at hj
      omega
    · obtain ⟨m, rfl⟩ : ∃ m, j = k + 1 + m := ⟨j - k - 1, by omega⟩
      rw [habove m] at hj
      rw [show k + 1 + m + 1 = k + 1 + (m + 1) by omega, habove (m + 1)]
      exact hW _ hj
theorem wt_fill0 {l : List (List Int)} {k : Nat} {r : List Int} (hb : (l.length / 2 ^ k) % 2 = 0) (hr : r = tr k (l.drop ((l.length / 2 ^ k) * 2 ^ k))) :
    pr r (tr k []) = tr (k + 1) (l.drop ((l.length / 2 ^ (k + 1)) * 2 ^ (k + 1))) := by
  have h2 : l.length / 2 ^ k = 2 * (l.length / 2 ^ k / 2) := by omega
  have hlt : l.length < (2 * (l.length / 2 ^ k / 2) + 1) * 2 ^ k := by
    rw [← h2]
    have := Nat.div_add_mod l.length (2 ^ k)
    have hm := Nat.mod_lt l.length (show 0 < 2 ^ k from Nat.pow_pos (by omega))
    rw [Nat.add_mul, Nat.mul_comm]; omega
  rw [hr, div_succ, ← tr_two, ← h2]
  congr 2
  rw [h2]
  exact (List.drop_eq_nil_of_le (by omega)).symm
theorem wt_zero (l : List (List Int)) (W : Nat → List Int) : Wt l 0 W := fun k hk => by simp at hk
theorem wt_all {l : List (List Int)} {d : Nat} {W : Nat → List Int} (hW : Wt l (2 ^ d) W) : W d = tr d l := by
  have hp : 0 < 2 ^ d := Nat.pow_pos (by omega)
  have := hW d (by rw [Nat.div_self hp])
  rw [this, Nat.div_eq_of_lt (by rw [Nat.pow_succ]; omega)]
  simp
theorem wt_end {l : List (List Int)} {d : Nat} {r : List Int} (h : l.length < 2 ^ d) (hr : r = tr d (l.drop ((l.length / 2 ^ d) * 2 ^ d))) : r = tr d l := by
  rw [hr, Nat.div_eq_of_lt h]; simp
theorem fill_start (l : List (List Int)) : Z32 = tr 0 (l.drop ((l.length / 2 ^ 0) * 2 ^ 0)) := by simp [tr]
theorem put_start {l : List (List Int)} {n : Nat} {x : List Int} (h : l[n]? = some x) : x = tr 0 (l.drop ((n / 2 ^ 0) * 2 ^ 0)) := by
  have hn := (List.getElem?_eq_some_iff.1 h).1
  rw [List.drop_eq_getElem_cons (by simpa using hn)]
  have := (List.getElem?_eq_some_iff.1 h).2
  simp [tr, this]
/-- The other half's number. -/
def sib (j : Nat) : Nat := if j % 2 = 0 then j + 1 else j - 1
/-- A proof: from the leaf up. -/
def pf (d : Nat) (l : List (List Int)) (i : Nat) : List (List Int) := (List.range d).map fun k => tr k (l.drop (sib (i / 2 ^ k) * 2 ^ k))
theorem pf_len (d : Nat) (l : List (List Int)) (i : Nat) : (pf d l i).length = d := by simp [pf]
theorem pf_succ (d : Nat) (l : List (List Int)) (i : Nat) : pf (d + 1) l i = pf d l i ++ [tr d (l.drop (sib (i / 2 ^ d) * 2 ^ d))] := by simp [pf, List.range_succ]
/-- What a proof folds to. -/
def fo : Nat → List Int → List (List Int) → List Int
  | _, x, [] => x
  | i, x, p :: ps => fo (i / 2) (if i % 2 = 0 then pr x p else pr p x) ps
end Go.Proofs.YtneihkegipcakaaGreat
/- Layer trace: what the layers below give. -/
namespace Go.Proofs.YtneihkegipcakaaGreat
open Go.RowKit
set_option maxRecDepth 100000
set_option linter.unusedVariables false
set_option linter.unusedSimpArgs false

theorem Bytes.below {w w' : World} {b off n : Nat} {B : Nat → Int} (h : Bytes w b off n B) (hb : Below w.heap.size w w') : Bytes w' b off n B := fun t ht => by
  rw [hb.cell (p := ⟨b, off + t, none⟩) (block_lt_of_cell (h t ht))]; exact h t ht
theorem Arr.bel {w w' : World} {g ty : Nat} {C : Array Value} (h : Arr w g ty C) (hb : Below w.heap.size w w') : Arr w' g ty C := h.below hb h.lt
theorem s24h8 {X : List Int} (h : X.length = 32) : (Tryz.prog.info? 40).map (·.size) = some (h8 X).size := by rw [h8_size, h]; exact size24
end Go.Proofs.YtneihkegipcakaaGreat
/- Layer trace: what the layers below give. -/
namespace Go.Proofs.YtneihkegipcakaaGreat
open Go.RowKit
set_option maxRecDepth 100000
set_option linter.unusedVariables false
set_option linter.unusedSimpArgs false

theorem alloc_bel' (w : World) (o : Obj) : Below w.heap.size w (w.alloc o) := (Below.refl _ _).alloc (Nat.le_refl _) o
theorem h8_get {X : List Int} {t : Nat} (h : t < X.length) : (h8 X)[t]? = some (.int .u8 (bat X t)) := by
  simpa [h8] using by8_get h
theorem h8_one (X : List Int) : (h8 X).all (·.oneCell') = true := all_oneCell_toArray (by8_one X)
theorem h8_list (X : List Int) : (h8 X).toList = by8 X := rfl
theorem h8_Z : h8 Z32 = #[.int .u8 0, .int .u8 0, .int .u8 0, .int .u8 0, .int .u8 0, .int .u8 0, .int .u8 0, .int .u8 0, .int .u8 0, .int .u8 0, .int .u8 0, .int .u8 0, .int .u8 0, .int .u8 0, .int .u8 0, .int .u8 0, .int .u8 0, .int .u8 0, .int .u8 0, .int .u8 0, .int .u8 0, .int .u8 0, .int .u8 0, .int .u8 0, .int .u8 0, .int .u8 0, .int .u8 0, .int .u8 0, .int .u8 0, .int .u8 0, .int .u8 0, .int .u8 0] := rfl
theorem eqItems_two (w : World) (d : Nat) (C D : Array Value) (f g : Nat → Int) :
    ∀ is : List Nat, (∀ i ∈ is, C[i]? = some (.int .u8 (f i))) → (∀ i ∈ is, D[i]? = some (.int .u8 (g i))) → (Op.eqItems (d + 1) 5 1 C D is).run Tryz.prog w = .ok (is.all fun i => f i == g i) w
  | [], _, _ => by simp [Op.eqItems]
  | i :: is, h, h' => by
    have hi := h i (by simp)
    have hi' := h' i (by simp)
    have ih := eqItems_two w d C D f g is (fun j hj => h j (by simp [hj])) (fun j hj => h' j (by simp [hj]))
    have ha := @Tryz.isAgg5
    by_cases he : f i = g i
    · simp [Op.eqItems, part, ha, hi, hi', run_equalIn_int w d 5 .u8 .u8 _ _ Tryz.underlying5, ih, he]
    · simp [Op.eqItems, part, ha, hi, hi', run_equalIn_int w d 5 .u8 .u8 _ _ Tryz.underlying5, ih, he]
theorem bat_ext {X Y : List Int} (hX : X.length = 32) (hY : Y.length = 32) : ((List.range 32).all fun i => bat X i == bat Y i) = decide (X = Y) := by
  rw [Bool.eq_iff_iff]
  simp only [List.all_eq_true, List.mem_range, beq_iff_eq, decide_eq_true_eq]
  constructor
  · intro h
    apply List.ext_getElem (by omega)
    intro i h1 h2
    have := h i (by omega)
    simpa [bat, List.getD_eq_getElem?_getD, List.getElem?_eq_getElem, h1, h2] using this
  · rintro rfl i _; rfl
theorem run_eqIn24 {X Y : List Int} (hX : X.length = 32) (hY : Y.length = 32) (w : World) : (Op.equalIn 10000 40 (.agg (h8 X)) (.agg (h8 Y))).run Tryz.prog w = .ok (decide (X = Y)) w := by
  obtain ⟨i0, hi, -⟩ := info_parts info5
  have hc : Tryz.prog.cellsOf 5 = 1 := by kernel_rfl
  rw [run_equalIn_array w 9999 _ _ Tryz.underlying40 hi, hc, eqItems_two w 9998 _ _ (bat X) (bat Y) (List.range 32) (fun i h => h8_get (by rw [hX]; simpa using h)) (fun i h => h8_get (by rw [hY]; simpa using h)), bat_ext hX hY]
theorem run_eq24 {X Y : List Int} (hX : X.length = 32) (hY : Y.length = 32) (w : World) : (binOp .eql 40 (.agg (h8 X)) (.agg (h8 Y))).run Tryz.prog w = .ok (.bool (decide (X = Y))) w := by
  rw [run_eql_struct, run_eqIn24 hX hY]; rfl
theorem range_below {w w' : World} {B b o : Nat} {cs : List Value} (h : w.rangeAt b o cs) (hb : Below B w w') (hlt : b < B) : w'.rangeAt b o cs := fun j v hv => (hb.cell (p := ⟨b, o + j, none⟩) hlt).trans (h j v hv)
theorem there_below {w w' : World} {B b o n : Nat} (h : w.there b o n) (hb : Below B w w') (hlt : b < B) : w'.there b o n := fun j hj =>
  ⟨by rw [hb.cell (p := ⟨b, o + j, none⟩) hlt]; exact (h j hj).1, by have h2 := (h j hj).2; simp only [World.frozen?] at h2 ⊢; rw [hb.block b hlt]; exact h2⟩
theorem Arr.range {w : World} {g ty : Nat} {X : List Int} (h : Arr w g ty (h8 X)) : w.rangeAt g 0 (by8 X) := fun j v hv => by
  rw [Nat.zero_add, h.cell]; simpa [h8] using hv
/-- A slice of sums. -/
structure HS (N : Nat) (w : World) (sp : Option Addr) (n cap : Nat) (ls : List (List Int)) : Prop where
  len : Hid (n = ls.length)
  nil : sp = none → n = 0 ∧ cap = 0
  le : n ≤ cap
  big : cap ≤ 9223372036854775807
  small : n ≤ 140737488355328
  at0 : 0 < n → ∃ g off, sp = some ⟨g, off, none⟩ ∧ g < N ∧ ∀ i X, ls[i]? = some X → w.rangeAt g (off + i * 32) (by8 X)
  l32 : ∀ X ∈ ls, X.length = 32
theorem HS.mono {N N' : Nat} {w : World} {sp : Option Addr} {n cap : Nat} {ls : List (List Int)} (h : HS N w sp n cap ls) (hN : N ≤ N') : HS N' w sp n cap ls :=
  ⟨h.len, h.nil, h.le, h.big, h.small, fun h0 => let ⟨b, off, e, hb, hB⟩ := h.at0 h0; ⟨b, off, e, by omega, hB⟩, h.l32⟩
theorem HS.below {N : Nat} {w w' : World} {sp : Option Addr} {n cap : Nat} {ls : List (List Int)} (h : HS N w sp n cap ls) (hb : Below N w w') : HS N w' sp n cap ls :=
  ⟨h.len, h.nil, h.le, h.big, h.small, fun h0 => let ⟨b, off, e, hbN, hB⟩ := h.at0 h0; ⟨b, off, e, hbN, fun i X hX => range_below (hB i X hX) hb hbN⟩, h.l32⟩
theorem HS.here {N : Nat} {w : World} {sp : Option Addr} {n cap : Nat} {ls : List (List Int)} (h : HS N w sp n cap ls) : HS w.heap.size w sp n cap ls :=
  ⟨h.len, h.nil, h.le, h.big, h.small, fun h0 => by
    obtain ⟨b, off, e, hbN, hB⟩ := h.at0 h0
    refine ⟨b, off, e, ?_, hB⟩
    have hl : 0 < ls.length := by rw [← h.len.out]; exact h0
    have hX := hB 0 ls[0] (List.getElem?_eq_getElem hl)
    have h32 := h.l32 ls[0] (List.getElem_mem hl)
    exact block_lt_of_cell (hX 0 _ (by8_get (by omega))), h.l32⟩
theorem HS.nil0 (N : Nat) (w : World) : HS N w none 0 0 [] := ⟨rfl, fun _ => ⟨rfl, rfl⟩, Nat.le_refl _, by omega, by omega, fun h => absurd h (by omega), fun X h => by cases h⟩
/-- A part of it. -/
theorem HS.part {N : Nat} {w : World} {g off n cap : Nat} {ls : List (List Int)} (h : HS N w (some ⟨g, off, none⟩) n cap ls) (l k m : Nat) (hk : l + k ≤ n) (hkm : k ≤ m) (hm : m ≤ cap) (hpos : 0 < n) : HS N w (some ⟨g, off + l * 32, none⟩) k m ((ls.drop l).take k) := by
  have hl := h.len.out
  refine ⟨?_, (fun e => by cases e), hkm, by have := h.big; omega, by have := h.small; omega, fun h0 => ?_, fun X hX => h.l32 X (List.mem_of_mem_drop (List.mem_of_mem_take hX))⟩
  · show k = _
    rw [List.length_take, List.length_drop]; omega
  · obtain ⟨g', off', e, hb, hB⟩ := h.at0 hpos
    cases e
    refine ⟨_, _, rfl, hb, fun i X hX => ?_⟩
    have hi : i < k := by
      have := (List.getElem?_eq_some_iff.1 hX).1
      rw [List.length_take] at this; omega
    rw [List.getElem?_take_of_lt hi, List.getElem?_drop] at hX
    have := hB (l + i) X hX
    rw [Nat.add_mul, ← Nat.add_assoc] at this
    exact this
end Go.Proofs.YtneihkegipcakaaGreat
/- Layer trace: a map of sums by numbers. -/
namespace Go.Proofs.YtneihkegipcakaaGreat
open Go.RowKit
set_option maxRecDepth 100000
set_option linter.unusedVariables false
set_option linter.unusedSimpArgs false

/-- Entries, by numbers. -/
def ents (L : List (Int × Value × Nat)) : List MapEntry := L.map fun x => { key := .int .i64 x.1, val := x.2.1, born := x.2.2 }
def kv (L : List (Int × Value × Nat)) (k : Int) : Option Value := (L.find? (·.1 == k)).map (·.2.1)
/-- Block r is a map that has m. -/
def MapAt (w : World) (r : Nat) (m : Int → Option Value) : Prop := ∃ L clock, w.heap[r]? = some (.map (ents L).toArray clock) ∧ ∀ k, kv L k = m k
theorem MapAt.new (w : World) : MapAt (w.alloc (.map #[] 0)) w.heap.size (fun _ => none) := ⟨[], 0, heap_alloc_new w _, fun _ => rfl⟩
theorem MapAt.same {w w' : World} {r : Nat} {m : Int → Option Value} (h : MapAt w r m) (he : w'.heap[r]? = w.heap[r]?) : MapAt w' r m := by
  obtain ⟨L, clock, h1, h2⟩ := h
  exact ⟨L, clock, he.trans h1, h2⟩
theorem MapAt.lt {w : World} {r : Nat} {m : Int → Option Value} (h : MapAt w r m) : r < w.heap.size := by
  obtain ⟨L, clock, h1, h2⟩ := h
  exact (Array.getElem?_eq_some_iff.1 h1).1
theorem find_now (k : Int) : ∀ (L : List (Int × Value × Nat)) (i : Nat), (kv L k = none ∧ Instr.findNow (.int .i64) (.int .i64 k) (ents L) i = some none) ∨ ∃ v j, kv L k = some v ∧ Instr.findNow (.int .i64) (.int .i64 k) (ents L) i = some (some (j, v))
  | [], i => .inl ⟨rfl, rfl⟩
  | x :: L, i => by
    by_cases h : x.1 = k
    · right
      refine ⟨x.2.1, i, by simp [kv, h], ?_⟩
      simp [ents, Instr.findNow, Instr.sameNow, h]
    · have hb : (k == x.1) = false := by simpa using fun e => h e.symm
      have h1 : kv (x :: L) k = kv L k := by simp [kv, h]
      have h2 : Instr.findNow (.int .i64) (.int .i64 k) (ents (x :: L)) i = Instr.findNow (.int .i64) (.int .i64 k) (ents L) (i + 1) := by
        simp [ents, Instr.findNow, Instr.sameNow, hb]
      rw [h1, h2]
      exact find_now k L (i + 1)
/-- No sum. -/
def zeroH : Value := .agg (h8 Z32)
theorem zero40 (w : World) : (zeroValue 40).run Tryz.prog w = .ok zeroH w := by kernel_rfl
theorem check_key (k : Int) (w : World) (b : Bool) : (Instr.checkKey b 10000 3 (.int .i64 k)).run Tryz.prog w = .ok () w := by
  rw [show (10000 : Nat) = 9999 + 1 from rfl, Instr.checkKey]
  simp only [Sem.run_bind, run_underlying Tryz.underlying3, Result.andThen_ok]
  rfl
theorem run_lookup {w : World} {r : Nat} {m : Int → Option Value} (h : MapAt w r m) (k : Int) :
    (Instr.lookup 82 (.map (some r)) (.int .i64 k) true).run Tryz.prog w = .ok (.tuple #[(m k).getD zeroH, .bool (m k).isSome]) w := by
  obtain ⟨L, clock, h1, h2⟩ := h
  have hg : (getObj r).run Tryz.prog w = .ok (.map (ents L).toArray clock) w := by simp [getObj, Sem.run, h1]
  have hk := check_key k w
  rw [← h2]
  rcases find_now k L 0 with ⟨e1, e2⟩ | ⟨v, j, e1, e2⟩
  · simp [Instr.lookup, Sem.run_bind, run_underlying Tryz.underlying82, run_underlying Tryz.underlying3, hg, hk, Instr.findKey, e1, e2, Result.andThen, zero40, zeroH, h8_Z]
  · simp [Instr.lookup, Sem.run_bind, run_underlying Tryz.underlying82, run_underlying Tryz.underlying3, hg, hk, Instr.findKey, e1, e2, Result.andThen]
theorem run_update {w : World} {r : Nat} {m : Int → Option Value} (h : MapAt w r m) (k : Int) (v : Value) (hno : m k = none) :
    ∃ o, (Instr.mapUpdate 82 (.map (some r)) (.int .i64 k) v).run Tryz.prog w = .ok () (w.putObj r o) ∧ MapAt (w.putObj r o) r (fun j => if j = k then some v else m j) := by
  obtain ⟨L, clock, h1, h2⟩ := h
  have hlt := (Array.getElem?_eq_some_iff.1 h1).1
  have hg : (getObj r).run Tryz.prog w = .ok (.map (ents L).toArray clock) w := by simp [getObj, Sem.run, h1]
  have hs : ∀ o, (setObj r o).run Tryz.prog w = .ok () (w.putObj r o) := fun o => by simp [setObj, Sem.run, h1, World.putObj]
  have hk := check_key k w
  rcases find_now k L 0 with ⟨e1, e2⟩ | ⟨v', j, e1, e2⟩
  · refine ⟨.map ((ents L).toArray.push { key := .int .i64 k, val := v, born := clock }) (clock + 1), ?_, L ++ [(k, v, clock)], clock + 1, ?_, fun j => ?_⟩
    · simp [Instr.mapUpdate, Sem.run_bind, run_underlying Tryz.underlying82, run_underlying Tryz.underlying3, hg, hk, hs, Instr.findKey, e2, Result.andThen]
    · rw [World.putObj_heap_same hlt]; simp [ents]
    · have : kv (L ++ [(k, v, clock)]) j = (kv L j).or (if j = k then some v else none) := by
        simp only [kv, List.find?_append, Option.map_or]
        congr 1
        by_cases e : j = k
        · subst e; simp
        · simp [e, Ne.symm e]
      rw [this, h2]
      by_cases e : j = k
      · subst e; rw [hno]; simp
      · simp [e]
  · rw [h2, hno] at e1; cases e1
end Go.Proofs.YtneihkegipcakaaGreat
