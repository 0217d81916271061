/- QVk, QVl, QTj. -/
import Derived.Test.YtneihkegipcakaaGreatX01
import Derived.Test.YtneihkegipcakaaGreatX02
import Derived.Test.YtneihkegipcakaaGreatX03
import Derived.Test.YtneihkegipcakaaGreatX04
import Derived.Test.YtneihkegipcakaaGreatX05
import Derived.Test.YtneihkegipcakaaGreatX06
import Derived.Test.YtneihkegipcakaaGreatX07
import Derived.Test.YtneihkegipcakaaGreatX09
import Derived.Test.YtneihkegipcakaaGreatX08
import Derived.BigQuiet
import Derived.BigRegion
import Derived.ChangeKeysEq
import Derived.Deep.DeepCutAuto
import Derived.Deep.DrawnRows
import Derived.Deep.MidRow
import Derived.Deep.QuietTactic
import Derived.Deep.RegionHeld3
import Derived.Deep.RegionLaw
import Derived.Deep.RegionWith
import Derived.Deep.WholeRow
import Derived.DeepKeys3
import Derived.Great.BuildSlice
import Derived.Laws.AppendOwnNone
import Derived.Laws.BitsLemmas
import Derived.Laws.BytesArg
import Derived.Laws.CopyOwn
import Derived.Laws.ResultCell
import Derived.Laws.Tables
import Derived.Lib.SlBytesConst
import Derived.LoopIn
import Derived.LoopNIn
import Derived.Maps.AppendAt
import Derived.OwnWalkIn
import Derived.RangeFuncBound
import Derived.RangeFuncCalls
import Derived.RangeFuncLeaves
import Derived.RangeFuncNested
import Derived.RangeFuncRecord
import Derived.Shelf.Abstract
import Derived.Shelf.RegionOpen
import Derived.TacticsInMore
import Derived.WalkKit
import Derived.WalkLawsBesides
import Derived.WalkSpells
/- Layer trace: what the layers below give. -/
namespace Go.Proofs.YtneihkegipcakaaGreat
open Go.RowKit
set_option maxRecDepth 100000
set_option linter.unusedVariables false
set_option linter.unusedSimpArgs false

/-- The number of the first k of eight bytes. -/
def pcN (bs : List Int) (p : Nat) : Nat → Int
  | 0 => 0
  | k + 1 => pcN bs p k * 256 + bat bs (p + k)
theorem bat_rg {bs : List Int} (h : Bts bs) (t : Nat) : 0 ≤ bat bs t ∧ bat bs t ≤ 255 := by
  unfold bat
  by_cases ht : t < bs.length
  · rw [List.getD_eq_getElem?_getD, List.getElem?_eq_getElem ht]
    exact h _ (List.getElem_mem ht)
  · rw [List.getD_eq_getElem?_getD, List.getElem?_eq_none (by omega)]
    simp
theorem pcN_rg {bs : List Int} (h : Bts bs) (p : Nat) : ∀ k, 0 ≤ pcN bs p k ∧ pcN bs p k < 256 ^ k
  | 0 => by simp [pcN]
  | k + 1 => by
    have ih := pcN_rg h p k
    have hb := bat_rg h (p + k)
    have e : (256 : Int) ^ (k + 1) = 256 ^ k * 256 := by rw [Int.pow_succ]
    simp only [pcN, e]; omega
theorem pow256 {k : Nat} (h : k < 8) : (256 : Int) ^ k ≤ 72057594037927936 := by
  match k, h with
  | 0, _ => decide
  | 1, _ => decide
  | 2, _ => decide
  | 3, _ => decide
  | 4, _ => decide
  | 5, _ => decide
  | 6, _ => decide
  | 7, _ => decide
theorem pcN_u {bs : List Int} (h : Bts bs) (p : Nat) : U64 (pcN bs p 8) := by
  have := pcN_rg h p 8
  unfold U64
  have e : (256 : Int) ^ 8 = 18446744073709551616 := by decide
  rw [e] at this
  exact this
theorem pcN_step {bs : List Int} (h : Bts bs) (p : Nat) {k : Nat} (hk : k < 8) : bits .or .u64 (IntKind.u64.wrap (pcN bs p k * 256)) (IntKind.u64.wrap (bat bs (p + k))) = pcN bs p (k + 1) := by
  have h1 := pcN_rg h p k
  have h2 := pow256 hk
  have hb := bat_rg h (p + k)
  rw [wrap64_of (by omega) (by omega), wrap64_of (by omega) (by omega), or8 _ _ (by omega) (by omega) hb.1 hb.2]
  rfl
theorem size119 : (Tryz.prog.info? 222).map (·.size) = some 8 := by kernel_rfl
theorem index119 (C : Array Value) (f : Nat → Int) (h : ∀ t, t < 8 → C[t]? = some (.int .u8 (f t))) (k : Nat) (hk : k < 8) (w : World) : (Instr.index 222 (.agg C) (.int .i64 (k : Int))).run Tryz.prog w = .ok (.int .u8 (f k)) w := by
  have e : C[k]? = some (.int .u8 (f k)) := h k hk
  simp [Instr.index, asIntOf, run_underlying Tryz.underlying222, Tryz.sizeOf5, part, Tryz.isAgg5, hk, e]
/-- What is copied. -/
def pcL (bs : List Int) (p : Nat) : List Int := (bs.drop p).take 8
def zero8 : List Value := [.int .u8 0, .int .u8 0, .int .u8 0, .int .u8 0, .int .u8 0, .int .u8 0, .int .u8 0, .int .u8 0]
theorem pcL_row (bs : List Int) (p : Nat) : ∀ t, t < 8 → (splice zero8 0 (by8 (pcL bs p))).toArray[t]? = some (.int .u8 (bat bs (p + t))) := by
  intro t ht
  have hl : (by8 (pcL bs p)).length = min 8 (bs.length - p) := by rw [by8_len, pcL, List.length_take, List.length_drop]
  rw [List.getElem?_toArray, splice]
  simp only [List.take_zero, List.nil_append, Nat.zero_add]
  by_cases h : t < min 8 (bs.length - p)
  · rw [List.getElem?_append_left (by rw [hl]; exact h), by8_get (by rw [← by8_len, hl]; exact h)]
    congr 2
    simp only [bat, pcL, List.getD_eq_getElem?_getD, List.getElem?_take_of_lt ht, List.getElem?_drop]
  · rw [List.getElem?_append_right (by rw [hl]; omega), List.getElem?_drop, hl]
    have e : min 8 (bs.length - p) + (t - min 8 (bs.length - p)) = t := by omega
    rw [e]
    have : bat bs (p + t) = 0 := by
      simp only [bat, List.getD_eq_getElem?_getD]
      rw [List.getElem?_eq_none (by omega)]
      rfl
    rw [this]
    match t, ht with
    | 0, _ => rfl
    | 1, _ => rfl
    | 2, _ => rfl
    | 3, _ => rfl
    | 4, _ => rfl
    | 5, _ => rfl
    | 6, _ => rfl
    | 7, _ => rfl
theorem pcL_len (bs : List Int) (p : Nat) : (by8 (pcL bs p)).length = min (bs.length - p) 8 := by rw [by8_len, pcL, List.length_take, List.length_drop, Nat.min_comm]
set_option maxHeartbeats 1000000 in
theorem piece_in {N g off n cap p : Nat} {bs : List Int} {x : Int} (w : World) (hB : BS N w (some ⟨g, off, none⟩) n cap bs) (hx : x = (p : Int)) (hp : p < n) :
    Calls Tryz.prog 134 #[.slice (some ⟨g, off, none⟩) n cap, .int .u64 x] w fun e w' => e = .returned (.int .u64 (pcN bs p 8)) ∧ Below w.heap.size w w' := by
  subst hx
  have hl := hB.len
  have hle := hB.le
  have hsm := hB.small
  have hbig := hB.big
  have a1 : (p : Int) < n := by omega
  have a2 : ¬ cap = p := by omega
  have a3 : (p : Int) ≤ n := by omega
  have a4 : ¬ (n : Int) < p := by omega
  have a5 : IntKind.u64.wrap (n : Int) = n := wrap64_of (by omega) (by omega)
  have hsl := hB.here.below (alloc_bel' w (.cells zero8.toArray 222))
  obtain ⟨b, o, e, -, hby⟩ := hsl.at0 (by omega)
  cases e
  have hsrc : ∀ j v, (by8 (pcL bs p))[j]? = some v → (w.alloc (.cells zero8.toArray 222)).drew.cell? ((⟨g, off + p, none⟩ : Addr).add j) = some v := fun j v hv => by
    have hj : j < (pcL bs p).length := by have := (List.getElem?_eq_some_iff.1 hv).1; rwa [by8_len] at this
    rw [by8_get hj] at hv
    have hj2 : j < min (bs.length - p) 8 := by rw [← pcL_len, by8_len]; exact hj
    have hn := hl.out
    rw [Addr.add_mid, Nat.add_assoc]
    have := hby (p + j) (by omega)
    rw [← hv]
    refine Eq.trans this ?_
    congr 2
    simp only [bat, pcL, List.getD_eq_getElem?_getD]
    rw [List.getElem?_take_of_lt (by omega), List.getElem?_drop]
  clear hby hsl
  replace hsrc := Hid.mk' hsrc
  go_enter Tryz.func134, Tryz.ntmps134
  go_upto_region 2 with fail
  refine wp_region_held_drew (S := fun _ => True) (by kernel_rfl) (trivial) (fun hHeld => ?_)
  refine wpAnyH_take (i := 0) (oi := ⟨_, _, _, _, _, _⟩) (v := ?_) rfl (by kernel_rfl) (by kernel_rfl) (by kernel_rfl) (fun _ _ _ h => h) (Or.inl ⟨by rfl, ?_⟩) (by assumption) ?_
  rotate_left
  · intro u hSw
    go_simp
    try (with_reducible rfl)
  try simp only [Act.put, List.setIfInBounds_toArray, List.set_cons_zero, List.set_cons_succ]
  refine wpAnyH_take (i := 1) (oi := ⟨_, _, _, _, _, _⟩) (v := ?_) rfl (by kernel_rfl) (by kernel_rfl) (by kernel_rfl) (fun _ _ _ h => h) (Or.inl ⟨by rfl, ?_⟩) (by assumption) ?_
  rotate_left
  · intro u hSw
    go_simp
    try (with_reducible rfl)
  try simp only [Act.put, List.setIfInBounds_toArray, List.set_cons_zero, List.set_cons_succ]
  refine wpAnyH_take (i := 2) (oi := ⟨_, _, _, _, _, _⟩) (v := ?_) rfl (by kernel_rfl) (by kernel_rfl) (by kernel_rfl) (fun _ _ _ h => h) (Or.inl ⟨by rfl, ?_⟩) (by assumption) ?_
  rotate_left
  · intro u hSw
    go_simp
    try (with_reducible rfl)
  try simp only [Act.put, List.setIfInBounds_toArray, List.set_cons_zero, List.set_cons_succ]
  refine wpAnyH_take (i := 3) (oi := ⟨_, _, _, _, _, _⟩) (v := ?_) rfl (by kernel_rfl) (by kernel_rfl) (by kernel_rfl) (fun _ _ _ h => h) (Or.inl ⟨by rfl, ?_⟩) (by assumption) ?_
  rotate_left
  · intro u hSw
    go_simp
    try (with_reducible rfl)
  try simp only [Act.put, List.setIfInBounds_toArray, List.set_cons_zero, List.set_cons_succ]
  refine wpAnyH_take (i := 4) (oi := ⟨_, _, _, _, _, _⟩) (v := ?_) rfl (by kernel_rfl) (by kernel_rfl) (by kernel_rfl) (fun _ _ _ h => h) (Or.inl ⟨by rfl, ?_⟩) (by assumption) ?_
  rotate_left
  · intro u hSw
    go_simp
    try (with_reducible rfl)
  try simp only [Act.put, List.setIfInBounds_toArray, List.set_cons_zero, List.set_cons_succ]
  refine wpAnyH_take (i := 5) (oi := ⟨_, _, _, _, _, _⟩) (v := ?_) rfl (by kernel_rfl) (by kernel_rfl) (by kernel_rfl) (fun _ _ _ h => h) (Or.inl ⟨by rfl, ?_⟩) (by assumption) ?_
  rotate_left
  · intro u hSw
    go_simp
    try (with_reducible rfl)
  try simp only [Act.put, List.setIfInBounds_toArray, List.set_cons_zero, List.set_cons_succ]
  refine wpAnyH_take (i := 6) (oi := ⟨_, _, _, _, _, _⟩) (v := ?_) rfl (by kernel_rfl) (by kernel_rfl) (by kernel_rfl) (fun _ _ _ h => h) (Or.inl ⟨by rfl, ?_⟩) (by assumption) ?_
  rotate_left
  · intro u hSw
    go_simp
    try (with_reducible rfl)
  try simp only [Act.put, List.setIfInBounds_toArray, List.set_cons_zero, List.set_cons_succ]
  refine wpAnyH_take (i := 7) (oi := ⟨_, _, _, _, _, _⟩) (v := ?_) rfl (by kernel_rfl) (by kernel_rfl) (by kernel_rfl) (fun _ _ _ h => h) (Or.inl ⟨by rfl, ?_⟩) (by assumption) ?_
  rotate_left
  · intro u hSw
    go_simp
    try (with_reducible rfl)
  try simp only [Act.put, List.setIfInBounds_toArray, List.set_cons_zero, List.set_cons_succ]
  refine wpAnyH_ready (rs := [8]) (by kernel_rfl) (by simp) ?_
  refine AllReadyH.cons (o := ⟨_, _, _, _, _, _⟩) rfl (fun K hK => ?_) AllReadyH.nil
  refine step_copy_splice rfl (.tmp 9) (.tmp 16) 50 50 rfl 5 Tryz.underlying50 size5 _ _ 8 8 (n - p) _ (by rfl) (by rfl) w.heap.size 0 zero8 222 (Arr.new w 222 _) (by8 (pcL bs p)) (by rw [pcL_len, ← hl.out]) (fun _ => ⟨rfl, _, rfl, hsrc.out⟩) (by rw [pcL_len, Nat.zero_add]; exact Nat.min_le_right _ _) (by8_one _) w.heap.size w ((alloc_bel' w _).drew) (Nat.le_refl _) ?_
  intro w1 H1 hb1
  refine hK.out _ _ trivial (fun hHeld => ?_)
  clear hK K
  try simp only [Act.put, List.setIfInBounds_toArray, List.set_cons_zero, List.set_cons_succ]
  refine wpAnyH_done (by kernel_rfl) ?_ _
  have A1 : Arr w1 w.heap.size 222 (splice zero8 0 (by8 (pcL bs p))).toArray := H1.out
  have hix := index119 _ _ (pcL_row bs p)
  have hs8 : (splice zero8 0 (by8 (pcL bs p))).toArray.size = 8 := by simp only [List.size_toArray]; rw [length_splice _ _ _ (by rw [pcL_len, Nat.zero_add]; exact Nat.min_le_right _ _)]; rfl
  generalize (splice zero8 0 (by8 (pcL bs p))).toArray = C at A1 hix hs8
  clear H1 hHeld
  go_wp2_with (refine wpList_load_row (by rfl) 222 (.tmp 5) (by rfl) w.heap.size (by rfl) 222 C (0, 0) _ A1 Tryz.underlying222 rfl (by rw [hs8]; exact size119) ?_)
  go_loopw [6, 19] (fun v q wr => wr = w1 ∧ ∃ (k : Nat), q = .int .i64 (k : Int) ∧ k ≤ 8 ∧ v = .int .u64 (pcN bs p k))
    (fun _ q _ => 8 - (intOf q).toNat)
  case atStart => exact ⟨rfl, 0, rfl, by omega, rfl⟩
  case round =>
    obtain ⟨rfl, k, rfl, hk, rfl⟩ := hrel
    by_cases hlt : k < 8
    · have hI : (k : Int) < 8 := by omega
      have hx := hix k hlt
      have hst := pcN_step hB.bts p hlt
      go_wp2_with fail
      go_roundw
      case rel => exact ⟨by trivial, k + 1, by go_num, by omega, by first | rfl | (rw [← hst]) | (simp only [pcN])⟩
      case measure => simp [intOf]; omega
    · obtain rfl : k = 8 := by omega
      go_wp2_with fail
      go_ret
      exact ⟨rfl, hb1⟩
set_option maxHeartbeats 1000000 in
theorem piece_o1 {N n cap : Nat} {ad : Addr} {bs : List Int} {x : Int} (w : World) (hB : BS N w (some ad) n cap bs) (hx : U64 x) (hp : (n : Int) ≤ x) (hc : ¬ cap = n) :
    Calls Tryz.prog 134 #[.slice (some ad) n cap, .int .u64 x] w fun e w' => e = .returned (.int .u64 (pcN bs x.toNat 8)) ∧ Below w.heap.size w w' := by
  have hl := hB.len
  have hle := hB.le
  have hsm := hB.small
  have hbig := hB.big
  have hx1 := hx.1
  have hx2 := hx.2
  obtain ⟨p, hpp⟩ : ∃ p, p = x.toNat := ⟨_, rfl⟩
  rw [← hpp]
  have hz : by8 (pcL bs p) = [] := by
    have := hl.out
    apply List.eq_nil_of_length_eq_zero
    rw [pcL_len]; omega
  replace hz := Hid.mk' hz
  clear hpp
  have a5 : IntKind.u64.wrap (n : Int) = n := wrap64_of (by omega) (by omega)
  have a6 : (if (n : Int) < x then (n : Int) else x) = n := by split <;> omega

  go_enter Tryz.func134, Tryz.ntmps134
  go_upto_region 2 with fail
  refine wp_region_held_drew (S := fun _ => True) (by kernel_rfl) (trivial) (fun hHeld => ?_)
  refine wpAnyH_take (i := 0) (oi := ⟨_, _, _, _, _, _⟩) (v := ?_) rfl (by kernel_rfl) (by kernel_rfl) (by kernel_rfl) (fun _ _ _ h => h) (Or.inl ⟨by rfl, ?_⟩) (by assumption) ?_
  rotate_left
  · intro u hSw
    go_simp
    try (with_reducible rfl)
  try simp only [Act.put, List.setIfInBounds_toArray, List.set_cons_zero, List.set_cons_succ]
  refine wpAnyH_take (i := 1) (oi := ⟨_, _, _, _, _, _⟩) (v := ?_) rfl (by kernel_rfl) (by kernel_rfl) (by kernel_rfl) (fun _ _ _ h => h) (Or.inl ⟨by rfl, ?_⟩) (by assumption) ?_
  rotate_left
  · intro u hSw
    go_simp
    try (with_reducible rfl)
  try simp only [Act.put, List.setIfInBounds_toArray, List.set_cons_zero, List.set_cons_succ]
  refine wpAnyH_take (i := 2) (oi := ⟨_, _, _, _, _, _⟩) (v := ?_) rfl (by kernel_rfl) (by kernel_rfl) (by kernel_rfl) (fun _ _ _ h => h) (Or.inl ⟨by rfl, ?_⟩) (by assumption) ?_
  rotate_left
  · intro u hSw
    go_simp
    try (with_reducible rfl)
  try simp only [Act.put, List.setIfInBounds_toArray, List.set_cons_zero, List.set_cons_succ]
  refine wpAnyH_take (i := 3) (oi := ⟨_, _, _, _, _, _⟩) (v := ?_) rfl (by kernel_rfl) (by kernel_rfl) (by kernel_rfl) (fun _ _ _ h => h) (Or.inl ⟨by rfl, ?_⟩) (by assumption) ?_
  rotate_left
  · intro u hSw
    go_simp
    try (with_reducible rfl)
  try simp only [Act.put, List.setIfInBounds_toArray, List.set_cons_zero, List.set_cons_succ]
  refine wpAnyH_take (i := 4) (oi := ⟨_, _, _, _, _, _⟩) (v := ?_) rfl (by kernel_rfl) (by kernel_rfl) (by kernel_rfl) (fun _ _ _ h => h) (Or.inl ⟨by rfl, ?_⟩) (by assumption) ?_
  rotate_left
  · intro u hSw
    go_simp
    try (with_reducible rfl)
  try simp only [Act.put, List.setIfInBounds_toArray, List.set_cons_zero, List.set_cons_succ]
  refine wpAnyH_take (i := 5) (oi := ⟨_, _, _, _, _, _⟩) (v := ?_) rfl (by kernel_rfl) (by kernel_rfl) (by kernel_rfl) (fun _ _ _ h => h) (Or.inl ⟨by rfl, ?_⟩) (by assumption) ?_
  rotate_left
  · intro u hSw
    go_simp
    try (with_reducible rfl)
  try simp only [Act.put, List.setIfInBounds_toArray, List.set_cons_zero, List.set_cons_succ]
  refine wpAnyH_take (i := 6) (oi := ⟨_, _, _, _, _, _⟩) (v := ?_) rfl (by kernel_rfl) (by kernel_rfl) (by kernel_rfl) (fun _ _ _ h => h) (Or.inl ⟨by rfl, ?_⟩) (by assumption) ?_
  rotate_left
  · intro u hSw
    go_simp
    try (with_reducible rfl)
  try simp only [Act.put, List.setIfInBounds_toArray, List.set_cons_zero, List.set_cons_succ]
  refine wpAnyH_take (i := 7) (oi := ⟨_, _, _, _, _, _⟩) (v := ?_) rfl (by kernel_rfl) (by kernel_rfl) (by kernel_rfl) (fun _ _ _ h => h) (Or.inl ⟨by rfl, ?_⟩) (by assumption) ?_
  rotate_left
  · intro u hSw
    go_simp
    try (with_reducible rfl)
  try simp only [Act.put, List.setIfInBounds_toArray, List.set_cons_zero, List.set_cons_succ]
  refine wpAnyH_ready (rs := [8]) (by kernel_rfl) (by simp) ?_
  refine AllReadyH.cons (o := ⟨_, _, _, _, _, _⟩) rfl (fun K hK => ?_) AllReadyH.nil
  refine step_copy_splice rfl (.tmp 9) (.tmp 16) 50 50 rfl 5 Tryz.underlying50 size5 _ _ 8 8 0 _ (by rfl) (by rfl) w.heap.size 0 zero8 222 (Arr.new w 222 _) (by8 (pcL bs p)) (by rw [hz.out]; simp) (fun h0 => absurd h0 (by rw [hz.out]; simp)) (by rw [pcL_len, Nat.zero_add]; exact Nat.min_le_right _ _) (by8_one _) w.heap.size w ((alloc_bel' w _).drew) (Nat.le_refl _) ?_
  intro w1 H1 hb1
  refine hK.out _ _ trivial (fun hHeld => ?_)
  clear hK K
  try simp only [Act.put, List.setIfInBounds_toArray, List.set_cons_zero, List.set_cons_succ]
  refine wpAnyH_done (by kernel_rfl) ?_ _
  have A1 : Arr w1 w.heap.size 222 (splice zero8 0 (by8 (pcL bs p))).toArray := H1.out
  have hix := index119 _ _ (pcL_row bs p)
  have hs8 : (splice zero8 0 (by8 (pcL bs p))).toArray.size = 8 := by simp only [List.size_toArray]; rw [length_splice _ _ _ (by rw [pcL_len, Nat.zero_add]; exact Nat.min_le_right _ _)]; rfl
  generalize (splice zero8 0 (by8 (pcL bs p))).toArray = C at A1 hix hs8
  clear H1 hHeld
  go_wp2_with (refine wpList_load_row (by rfl) 222 (.tmp 5) (by rfl) w.heap.size (by rfl) 222 C (0, 0) _ A1 Tryz.underlying222 rfl (by rw [hs8]; exact size119) ?_)
  go_loopw [6, 19] (fun v q wr => wr = w1 ∧ ∃ (k : Nat), q = .int .i64 (k : Int) ∧ k ≤ 8 ∧ v = .int .u64 (pcN bs p k))
    (fun _ q _ => 8 - (intOf q).toNat)
  case atStart => exact ⟨rfl, 0, rfl, by omega, rfl⟩
  case round =>
    obtain ⟨rfl, k, rfl, hk, rfl⟩ := hrel
    by_cases hlt : k < 8
    · have hI : (k : Int) < 8 := by omega
      have hx := hix k hlt
      have hst := pcN_step hB.bts p hlt
      go_wp2_with fail
      go_roundw
      case rel => exact ⟨by trivial, k + 1, by go_num, by omega, by first | rfl | (rw [← hst]) | (simp only [pcN])⟩
      case measure => simp [intOf]; omega
    · obtain rfl : k = 8 := by omega
      go_wp2_with fail
      go_ret
      exact ⟨rfl, hb1⟩
set_option maxHeartbeats 1000000 in
theorem piece_o2 {N n : Nat} {ad : Addr} {bs : List Int} {x : Int} (w : World) (hB : BS N w (some ad) n n bs) (hx : U64 x) (hp : (n : Int) ≤ x) :
    Calls Tryz.prog 134 #[.slice (some ad) n n, .int .u64 x] w fun e w' => e = .returned (.int .u64 (pcN bs x.toNat 8)) ∧ Below w.heap.size w w' := by
  have hl := hB.len
  have hle := hB.le
  have hsm := hB.small
  have hbig := hB.big
  have hx1 := hx.1
  have hx2 := hx.2
  obtain ⟨p, hpp⟩ : ∃ p, p = x.toNat := ⟨_, rfl⟩
  rw [← hpp]
  have hz : by8 (pcL bs p) = [] := by
    have := hl.out
    apply List.eq_nil_of_length_eq_zero
    rw [pcL_len]; omega
  replace hz := Hid.mk' hz
  clear hpp
  have a5 : IntKind.u64.wrap (n : Int) = n := wrap64_of (by omega) (by omega)
  have a6 : (if (n : Int) < x then (n : Int) else x) = n := by split <;> omega

  go_enter Tryz.func134, Tryz.ntmps134
  go_upto_region 2 with fail
  refine wp_region_held_drew (S := fun _ => True) (by kernel_rfl) (trivial) (fun hHeld => ?_)
  refine wpAnyH_take (i := 0) (oi := ⟨_, _, _, _, _, _⟩) (v := ?_) rfl (by kernel_rfl) (by kernel_rfl) (by kernel_rfl) (fun _ _ _ h => h) (Or.inl ⟨by rfl, ?_⟩) (by assumption) ?_
  rotate_left
  · intro u hSw
    go_simp
    try (with_reducible rfl)
  try simp only [Act.put, List.setIfInBounds_toArray, List.set_cons_zero, List.set_cons_succ]
  refine wpAnyH_take (i := 1) (oi := ⟨_, _, _, _, _, _⟩) (v := ?_) rfl (by kernel_rfl) (by kernel_rfl) (by kernel_rfl) (fun _ _ _ h => h) (Or.inl ⟨by rfl, ?_⟩) (by assumption) ?_
  rotate_left
  · intro u hSw
    go_simp
    try (with_reducible rfl)
  try simp only [Act.put, List.setIfInBounds_toArray, List.set_cons_zero, List.set_cons_succ]
  refine wpAnyH_take (i := 2) (oi := ⟨_, _, _, _, _, _⟩) (v := ?_) rfl (by kernel_rfl) (by kernel_rfl) (by kernel_rfl) (fun _ _ _ h => h) (Or.inl ⟨by rfl, ?_⟩) (by assumption) ?_
  rotate_left
  · intro u hSw
    go_simp
    try (with_reducible rfl)
  try simp only [Act.put, List.setIfInBounds_toArray, List.set_cons_zero, List.set_cons_succ]
  refine wpAnyH_take (i := 3) (oi := ⟨_, _, _, _, _, _⟩) (v := ?_) rfl (by kernel_rfl) (by kernel_rfl) (by kernel_rfl) (fun _ _ _ h => h) (Or.inl ⟨by rfl, ?_⟩) (by assumption) ?_
  rotate_left
  · intro u hSw
    go_simp
    try (with_reducible rfl)
  try simp only [Act.put, List.setIfInBounds_toArray, List.set_cons_zero, List.set_cons_succ]
  refine wpAnyH_take (i := 4) (oi := ⟨_, _, _, _, _, _⟩) (v := ?_) rfl (by kernel_rfl) (by kernel_rfl) (by kernel_rfl) (fun _ _ _ h => h) (Or.inl ⟨by rfl, ?_⟩) (by assumption) ?_
  rotate_left
  · intro u hSw
    go_simp
    try (with_reducible rfl)
  try simp only [Act.put, List.setIfInBounds_toArray, List.set_cons_zero, List.set_cons_succ]
  refine wpAnyH_take (i := 5) (oi := ⟨_, _, _, _, _, _⟩) (v := ?_) rfl (by kernel_rfl) (by kernel_rfl) (by kernel_rfl) (fun _ _ _ h => h) (Or.inl ⟨by rfl, ?_⟩) (by assumption) ?_
  rotate_left
  · intro u hSw
    go_simp
    try (with_reducible rfl)
  try simp only [Act.put, List.setIfInBounds_toArray, List.set_cons_zero, List.set_cons_succ]
  refine wpAnyH_take (i := 6) (oi := ⟨_, _, _, _, _, _⟩) (v := ?_) rfl (by kernel_rfl) (by kernel_rfl) (by kernel_rfl) (fun _ _ _ h => h) (Or.inl ⟨by rfl, ?_⟩) (by assumption) ?_
  rotate_left
  · intro u hSw
    go_simp
    try (with_reducible rfl)
  try simp only [Act.put, List.setIfInBounds_toArray, List.set_cons_zero, List.set_cons_succ]
  refine wpAnyH_take (i := 7) (oi := ⟨_, _, _, _, _, _⟩) (v := ?_) rfl (by kernel_rfl) (by kernel_rfl) (by kernel_rfl) (fun _ _ _ h => h) (Or.inl ⟨by rfl, ?_⟩) (by assumption) ?_
  rotate_left
  · intro u hSw
    go_simp
    try (with_reducible rfl)
  try simp only [Act.put, List.setIfInBounds_toArray, List.set_cons_zero, List.set_cons_succ]
  refine wpAnyH_ready (rs := [8]) (by kernel_rfl) (by simp) ?_
  refine AllReadyH.cons (o := ⟨_, _, _, _, _, _⟩) rfl (fun K hK => ?_) AllReadyH.nil
  refine step_copy_splice rfl (.tmp 9) (.tmp 16) 50 50 rfl 5 Tryz.underlying50 size5 _ _ 8 8 0 _ (by rfl) (by rfl) w.heap.size 0 zero8 222 (Arr.new w 222 _) (by8 (pcL bs p)) (by rw [hz.out]; simp) (fun h0 => absurd h0 (by rw [hz.out]; simp)) (by rw [pcL_len, Nat.zero_add]; exact Nat.min_le_right _ _) (by8_one _) w.heap.size w ((alloc_bel' w _).drew) (Nat.le_refl _) ?_
  intro w1 H1 hb1
  refine hK.out _ _ trivial (fun hHeld => ?_)
  clear hK K
  try simp only [Act.put, List.setIfInBounds_toArray, List.set_cons_zero, List.set_cons_succ]
  refine wpAnyH_done (by kernel_rfl) ?_ _
  have A1 : Arr w1 w.heap.size 222 (splice zero8 0 (by8 (pcL bs p))).toArray := H1.out
  have hix := index119 _ _ (pcL_row bs p)
  have hs8 : (splice zero8 0 (by8 (pcL bs p))).toArray.size = 8 := by simp only [List.size_toArray]; rw [length_splice _ _ _ (by rw [pcL_len, Nat.zero_add]; exact Nat.min_le_right _ _)]; rfl
  generalize (splice zero8 0 (by8 (pcL bs p))).toArray = C at A1 hix hs8
  clear H1 hHeld
  go_wp2_with (refine wpList_load_row (by rfl) 222 (.tmp 5) (by rfl) w.heap.size (by rfl) 222 C (0, 0) _ A1 Tryz.underlying222 rfl (by rw [hs8]; exact size119) ?_)
  go_loopw [6, 19] (fun v q wr => wr = w1 ∧ ∃ (k : Nat), q = .int .i64 (k : Int) ∧ k ≤ 8 ∧ v = .int .u64 (pcN bs p k))
    (fun _ q _ => 8 - (intOf q).toNat)
  case atStart => exact ⟨rfl, 0, rfl, by omega, rfl⟩
  case round =>
    obtain ⟨rfl, k, rfl, hk, rfl⟩ := hrel
    by_cases hlt : k < 8
    · have hI : (k : Int) < 8 := by omega
      have hx := hix k hlt
      have hst := pcN_step hB.bts p hlt
      go_wp2_with fail
      go_roundw
      case rel => exact ⟨by trivial, k + 1, by go_num, by omega, by first | rfl | (rw [← hst]) | (simp only [pcN])⟩
      case measure => simp [intOf]; omega
    · obtain rfl : k = 8 := by omega
      go_wp2_with fail
      go_ret
      exact ⟨rfl, hb1⟩
set_option maxHeartbeats 1000000 in
theorem piece_o3 {N n : Nat} {ad : Addr} {bs : List Int} {x : Int} (w : World) (hB : BS N w none n n bs) (hx : U64 x) (hp : (n : Int) ≤ x) :
    Calls Tryz.prog 134 #[.slice none n n, .int .u64 x] w fun e w' => e = .returned (.int .u64 (pcN bs x.toNat 8)) ∧ Below w.heap.size w w' := by
  have hl := hB.len
  have hle := hB.le
  have hsm := hB.small
  have hbig := hB.big
  have hx1 := hx.1
  have hx2 := hx.2
  obtain ⟨p, hpp⟩ : ∃ p, p = x.toNat := ⟨_, rfl⟩
  rw [← hpp]
  have hz : by8 (pcL bs p) = [] := by
    have := hl.out
    apply List.eq_nil_of_length_eq_zero
    rw [pcL_len]; omega
  replace hz := Hid.mk' hz
  clear hpp
  have a5 : IntKind.u64.wrap (n : Int) = n := wrap64_of (by omega) (by omega)
  have a6 : (if (n : Int) < x then (n : Int) else x) = n := by split <;> omega
  obtain ⟨rfl, -⟩ := hB.nil rfl
  have a7 : (if IntKind.u64.wrap 0 < x then IntKind.u64.wrap 0 else x) = 0 := by rw [wrap_mod]; split <;> omega
  go_enter Tryz.func134, Tryz.ntmps134
  go_upto_region 2 with fail
  refine wp_region_held_drew (S := fun _ => True) (by kernel_rfl) (trivial) (fun hHeld => ?_)
  refine wpAnyH_take (i := 0) (oi := ⟨_, _, _, _, _, _⟩) (v := ?_) rfl (by kernel_rfl) (by kernel_rfl) (by kernel_rfl) (fun _ _ _ h => h) (Or.inl ⟨by rfl, ?_⟩) (by assumption) ?_
  rotate_left
  · intro u hSw
    go_simp
    try (with_reducible rfl)
  try simp only [Act.put, List.setIfInBounds_toArray, List.set_cons_zero, List.set_cons_succ]
  refine wpAnyH_take (i := 1) (oi := ⟨_, _, _, _, _, _⟩) (v := ?_) rfl (by kernel_rfl) (by kernel_rfl) (by kernel_rfl) (fun _ _ _ h => h) (Or.inl ⟨by rfl, ?_⟩) (by assumption) ?_
  rotate_left
  · intro u hSw
    go_simp
    try (with_reducible rfl)
  try simp only [Act.put, List.setIfInBounds_toArray, List.set_cons_zero, List.set_cons_succ]
  refine wpAnyH_take (i := 2) (oi := ⟨_, _, _, _, _, _⟩) (v := ?_) rfl (by kernel_rfl) (by kernel_rfl) (by kernel_rfl) (fun _ _ _ h => h) (Or.inl ⟨by rfl, ?_⟩) (by assumption) ?_
  rotate_left
  · intro u hSw
    go_simp
    try (with_reducible rfl)
  try simp only [Act.put, List.setIfInBounds_toArray, List.set_cons_zero, List.set_cons_succ]
  refine wpAnyH_take (i := 3) (oi := ⟨_, _, _, _, _, _⟩) (v := ?_) rfl (by kernel_rfl) (by kernel_rfl) (by kernel_rfl) (fun _ _ _ h => h) (Or.inl ⟨by rfl, ?_⟩) (by assumption) ?_
  rotate_left
  · intro u hSw
    go_simp
    try (with_reducible rfl)
  try simp only [Act.put, List.setIfInBounds_toArray, List.set_cons_zero, List.set_cons_succ]
  refine wpAnyH_take (i := 4) (oi := ⟨_, _, _, _, _, _⟩) (v := ?_) rfl (by kernel_rfl) (by kernel_rfl) (by kernel_rfl) (fun _ _ _ h => h) (Or.inl ⟨by rfl, ?_⟩) (by assumption) ?_
  rotate_left
  · intro u hSw
    go_simp
    try (with_reducible rfl)
  try simp only [Act.put, List.setIfInBounds_toArray, List.set_cons_zero, List.set_cons_succ]
  refine wpAnyH_take (i := 5) (oi := ⟨_, _, _, _, _, _⟩) (v := ?_) rfl (by kernel_rfl) (by kernel_rfl) (by kernel_rfl) (fun _ _ _ h => h) (Or.inl ⟨by rfl, ?_⟩) (by assumption) ?_
  rotate_left
  · intro u hSw
    go_simp
    try (with_reducible rfl)
  try simp only [Act.put, List.setIfInBounds_toArray, List.set_cons_zero, List.set_cons_succ]
  refine wpAnyH_take (i := 6) (oi := ⟨_, _, _, _, _, _⟩) (v := ?_) rfl (by kernel_rfl) (by kernel_rfl) (by kernel_rfl) (fun _ _ _ h => h) (Or.inl ⟨by rfl, ?_⟩) (by assumption) ?_
  rotate_left
  · intro u hSw
    go_simp
    try (with_reducible rfl)
  try simp only [Act.put, List.setIfInBounds_toArray, List.set_cons_zero, List.set_cons_succ]
  refine wpAnyH_take (i := 7) (oi := ⟨_, _, _, _, _, _⟩) (v := ?_) rfl (by kernel_rfl) (by kernel_rfl) (by kernel_rfl) (fun _ _ _ h => h) (Or.inl ⟨by rfl, ?_⟩) (by assumption) ?_
  rotate_left
  · intro u hSw
    go_simp
    try (with_reducible rfl)
  try simp only [Act.put, List.setIfInBounds_toArray, List.set_cons_zero, List.set_cons_succ]
  refine wpAnyH_ready (rs := [8]) (by kernel_rfl) (by simp) ?_
  refine AllReadyH.cons (o := ⟨_, _, _, _, _, _⟩) rfl (fun K hK => ?_) AllReadyH.nil
  refine step_copy_splice rfl (.tmp 9) (.tmp 16) 50 50 rfl 5 Tryz.underlying50 size5 _ _ 8 8 0 _ (by rfl) (by rfl) w.heap.size 0 zero8 222 (Arr.new w 222 _) (by8 (pcL bs p)) (by rw [hz.out]; simp) (fun h0 => absurd h0 (by rw [hz.out]; simp)) (by rw [pcL_len, Nat.zero_add]; exact Nat.min_le_right _ _) (by8_one _) w.heap.size w ((alloc_bel' w _).drew) (Nat.le_refl _) ?_
  intro w1 H1 hb1
  refine hK.out _ _ trivial (fun hHeld => ?_)
  clear hK K
  try simp only [Act.put, List.setIfInBounds_toArray, List.set_cons_zero, List.set_cons_succ]
  refine wpAnyH_done (by kernel_rfl) ?_ _
  have A1 : Arr w1 w.heap.size 222 (splice zero8 0 (by8 (pcL bs p))).toArray := H1.out
  have hix := index119 _ _ (pcL_row bs p)
  have hs8 : (splice zero8 0 (by8 (pcL bs p))).toArray.size = 8 := by simp only [List.size_toArray]; rw [length_splice _ _ _ (by rw [pcL_len, Nat.zero_add]; exact Nat.min_le_right _ _)]; rfl
  generalize (splice zero8 0 (by8 (pcL bs p))).toArray = C at A1 hix hs8
  clear H1 hHeld
  go_wp2_with (refine wpList_load_row (by rfl) 222 (.tmp 5) (by rfl) w.heap.size (by rfl) 222 C (0, 0) _ A1 Tryz.underlying222 rfl (by rw [hs8]; exact size119) ?_)
  go_loopw [6, 19] (fun v q wr => wr = w1 ∧ ∃ (k : Nat), q = .int .i64 (k : Int) ∧ k ≤ 8 ∧ v = .int .u64 (pcN bs p k))
    (fun _ q _ => 8 - (intOf q).toNat)
  case atStart => exact ⟨rfl, 0, rfl, by omega, rfl⟩
  case round =>
    obtain ⟨rfl, k, rfl, hk, rfl⟩ := hrel
    by_cases hlt : k < 8
    · have hI : (k : Int) < 8 := by omega
      have hx := hix k hlt
      have hst := pcN_step hB.bts p hlt
      go_wp2_with fail
      go_roundw
      case rel => exact ⟨by trivial, k + 1, by go_num, by omega, by first | rfl | (rw [← hst]) | (simp only [pcN])⟩
      case measure => simp [intOf]; omega
    · obtain rfl : k = 8 := by omega
      go_wp2_with fail
      go_ret
      exact ⟨rfl, hb1⟩
end Go.Proofs.YtneihkegipcakaaGreat
/- Layer trace: what the layers below give. -/
namespace Go.Proofs.YtneihkegipcakaaGreat
open Go.RowKit
set_option maxRecDepth 100000
set_option linter.unusedVariables false
set_option linter.unusedSimpArgs false

theorem piece_any {N n cap : Nat} {sp : Option Addr} {bs : List Int} {x : Int} (w : World) (hB : BS N w sp n cap bs) (hx : U64 x) :
    Calls Tryz.prog 134 #[.slice sp n cap, .int .u64 x] w fun e w' => e = .returned (.int .u64 (pcN bs x.toNat 8)) ∧ Below w.heap.size w w' := by
  have h1 := hx.1
  by_cases hp : x < n
  · obtain ⟨g, off, rfl, -⟩ := hB.at0 (by omega)
    exact piece_in w hB (by omega) (by omega)
  · cases sp with
    | none =>
      obtain ⟨rfl, rfl⟩ := hB.nil rfl
      exact piece_o3 (ad := ⟨0, 0, none⟩) w hB hx (by omega)
    | some a =>
      by_cases hc : cap = n
      · subst hc; exact piece_o2 w hB hx (by omega)
      · exact piece_o1 w hB hx (by omega) hc
def Mc.nxt (m : Mc) : Mc := { m with pc := IntKind.u64.wrap (m.pc + 1) }
def Mc.put (m : Mc) (a : Nat) (x : Int) : Mc := { m with rg := m.rg.set a x, pc := IntKind.u64.wrap (m.pc + 1) }
/-- The words from an address on. -/
def Mc.wds (m : Mc) (b : Nat) (t : Nat) : Int := m.me.getD (b + t) 0
/-- The words of a sum. -/
def wsu (L : List Int) (j : Nat) : Int := wacc (shaB (bat L) L.length) j 8
def put4 (L : List Int) (a : Nat) (W : Nat → Int) : List Int := (((L.set a (W 0)).set (a + 1) (W 1)).set (a + 2) (W 2)).set (a + 3) (W 3)
/-- HASH. -/
def hs (m : Mc) (i ra rb rc : Int) : Option Mc :=
  if 128 < rc then none else if ¬ ra + 4 ≤ m.me.length then none else if ¬ (rc = 0 ∨ rb + (rc + 7) / 8 ≤ m.me.length) then none else
  match mkL i with
  | none => none
  | some P => some { m.nxt with me := put4 m.me ra.toNat (wsu (P ++ fbL (m.wds rb.toNat) rc.toNat)) }
/-- The preimage of a sum in memory. -/
def prm (es : List En) (m : Mc) (rb : Int) : Option En := if rb + 4 ≤ m.me.length then pre es (fmL (m.wds rb.toNat)) else none
/-- What an instruction does; none: a trap. -/
def ex (es : List En) (m : Mc) (o : Int) (a b c : Nat) (i : Int) : Option Mc :=
  if o = 1 then some { m with st := 1 }
  else if o = 2 then some (m.put a i)
  else if o = 3 then some (m.put a (bits .or .u64 (IntKind.u64.wrap (m.get a * 4294967296)) i))
  else if o = 4 then some (m.put a (m.get b))
  else if o = 17 then (if IntKind.u64.wrap (m.get b + i) < m.me.length then some (m.put a (m.me.getD (IntKind.u64.wrap (m.get b + i)).toNat 0)) else none)
  else if o = 18 then (if IntKind.u64.wrap (m.get b + i) < m.me.length then some { m.nxt with me := m.me.set (IntKind.u64.wrap (m.get b + i)).toNat (m.get a) } else none)
  else if o = 19 then some { m with pc := i }
  else if o = 20 then (if m.get a = 0 then some { m with pc := i } else some m.nxt)
  else if o = 21 then (if m.get a = 0 then some m.nxt else some { m with pc := i })
  else if o = 22 then some { m with pc := m.get a }
  else if o = 23 then hs m i (m.get a) (m.get b) (m.get c)
  else if o = 24 then (prm es m (m.get b)).map (fun e => m.put a (pcN e.bs (m.get c).toNat 8))
  else if o = 25 then (prm es m (m.get b)).map (fun e => m.put a e.n)
  else (rk o (m.get b) (m.get c)).map (m.put a)
/-- A step of a machine that runs; none: a trap. -/
def stp (es : List En) (m : Mc) : Option Mc :=
  if m.pc < m.me.length then (if dOk (m.me.getD m.pc.toNat 0) = true then ex es m (dOp (m.me.getD m.pc.toNat 0)) (dA (m.me.getD m.pc.toNat 0)).toNat (dB (m.me.getD m.pc.toNat 0)).toNat (dC (m.me.getD m.pc.toNat 0)).toNat (dI (m.me.getD m.pc.toNat 0)) else none) else none
def tick (es : List En) (m : Mc) : Mc := (stp es m).getD { m with st := 2 }
/-- Steps until it is not running, at most so many; and how many. -/
def rn (es : List En) : Nat → Mc → Mc × Nat
  | 0, m => (m, 0)
  | k + 1, m => if m.st = 0 then ((rn es k (tick es m)).1, (rn es k (tick es m)).2 + 1) else (m, 0)
theorem Mc.ok.put {m : Mc} (h : m.ok) {a : Nat} (ha : a < 16) {x : Int} (hx : U64 x) : (m.put a x).ok :=
  ⟨U64.wrap _, by simpa [Mc.put] using h.r16, fun k => by
    show U64 ((m.rg.set a x).getD k 0)
    rw [getD_set _ _ _ _ (by rw [h.r16]; exact ha)]; split; exact hx; exact h.rg k, h.st, h.me⟩
theorem Chg.drew {S : Nat → Prop} {a b : World} (h : Chg S a b) : Chg S a b.drew := ⟨h.os, h.tape, h.output, h.size, h.block⟩
theorem Chg.monoV {S S' : Nat → Prop} {a b : World} (h : Chg S a b) (hs : ∀ k, S k → S' k) : Chg S' a b := ⟨h.os, h.tape, h.output, h.size, fun i hi hn => h.block i hi (fun e => hn (hs i e))⟩
end Go.Proofs.YtneihkegipcakaaGreat
/- Layer trace: what the layers below give. -/
namespace Go.Proofs.YtneihkegipcakaaGreat
open Go.RowKit
set_option maxRecDepth 100000
set_option linter.unusedVariables false
set_option linter.unusedSimpArgs false

theorem outB_range (s : St) (t : Nat) : 0 ≤ outB s t ∧ outB s t ≤ 255 := by unfold outB; omega
theorem shaB_range (B : Nat → Int) (n t : Nat) : 0 ≤ shaB B n t ∧ shaB B n t ≤ 255 := outB_range _ _
end Go.Proofs.YtneihkegipcakaaGreat
