/- QVi, Jh. -/
import Derived.Test.YtmljihggooaboaaW01
import Derived.Test.YtmljihggooaboaaW12
import Derived.Test.YtmljihggooaboaaW13
import Derived.Test.YtmljihggooaboaaW19
import Derived.Test.YtmljihggooaboaaW14
import Derived.Test.YtmljihggooaboaaW18
import Derived.BigQuiet
import Derived.BigRegion
import Derived.ChangeKeysEq
import Derived.Deep.DeepCutAuto
import Derived.Deep.DrawnRows
import Derived.Deep.MidRow
import Derived.Deep.QuietTactic
import Derived.Deep.RegionHeld3
import Derived.Deep.RegionLaw
import Derived.Deep.RegionWith
import Derived.Deep.WholeRow
import Derived.DeepKeys3
import Derived.Great.BuildSlice
import Derived.Laws.AppendOwnNone
import Derived.Laws.BitsLemmas
import Derived.Laws.BytesArg
import Derived.Laws.CopyOwn
import Derived.Laws.ResultCell
import Derived.Laws.Tables
import Derived.Lib.SlBytesConst
import Derived.LoopIn
import Derived.LoopNIn
import Derived.Maps.AppendAt
import Derived.OwnWalkIn
import Derived.RangeFuncBound
import Derived.RangeFuncCalls
import Derived.RangeFuncLeaves
import Derived.RangeFuncNested
import Derived.RangeFuncRecord
import Derived.Shelf.Abstract
import Derived.Shelf.RegionOpen
import Derived.TacticsInMore
import Derived.WalkKit
import Derived.WalkLawsBesides
import Derived.WalkSpells
import Derived.Handy
import Derived.Laws.MakeOwn
/- Layer interp: what the layers below give. -/
namespace Go.Proofs.Ytmljihggooaboaa
open Go.RowKit
set_option maxRecDepth 100000
set_option linter.unusedVariables false
set_option linter.unusedSimpArgs false

theorem own_mono {w : World} {b b' e s n : Nat} {v : Value} {xs : List Value} (h : w.ownsRow b e s v n xs) (hb : b' ≤ b) : w.ownsRow b' e s v n xs := by
  obtain ⟨hl, h' | ⟨g, cap, cur, e1, hg, r⟩⟩ := h
  · exact ⟨hl, .inl h'⟩
  · exact ⟨hl, .inr ⟨g, cap, cur, e1, by omega, r⟩⟩
/-- What was found stands where it was found. -/
def FIV (es : List En) (f : List Int → Option Int) : Prop := ∀ X i, X.length = 32 → f X = some i → ∃ (j : Nat) (e : En), i = j ∧ Fst es X j e ∧ shl e.bs = X
theorem FIV.nil (es : List En) : FIV es (fun _ => none) := fun X i _ h => by cases h
/-- What Preimage answers. -/
def PrPost (es : List En) (X : List Int) (w : World) (r : Ending) (w' : World) : Prop := Below w.heap.size w w' ∧
  ((∃ e v, pre es X = some e ∧ r = .returned (.tuple #[v, .bool true]) ∧ w'.ownsRow w.heap.size 5 1 v e.n (by8 e.bs)) ∨ (pre es X = none ∧ r = .returned (.tuple #[.slice none 0 0, .bool false])))
set_option maxHeartbeats 1000000 in
theorem preimage_any (sp : Option Addr) (n cap : Nat) (es : List En) (X : List Int) (N : Nat) (w : World) (hS : ES N w sp n cap es) (hX : X.length = 32) :
    Calls Try.prog 81 #[.slice sp n cap, .agg (h8 X)] w (PrPost es X w) := by
  have hl := hS.len
  have hS0 := hS.here
  have hS := hS0.below (alloc_bel' w (.cells (h8 X) 55))
  have hr := (Arr.new w 55 (h8 X)).range
  go_enter Try.func81, Try.ntmps81
  go_upto_region 2 with (first
    | (refine ld24 (by rfl) (.tmp 3) (by rfl) w.heap.size 0 (by rfl) X hX hr ?_)
    | (go_at_call 86; go_must (refine (place_any sp n cap es X _ _ hS hX).mono ?_; rintro r w1 ⟨hb1, ⟨i, e, hF, rfl⟩ | ⟨hno, rfl⟩⟩)))
  · have hb := (alloc_bel' w (.cells (h8 X) 55)).trans (hb1.mono (by simp))
    have hp := hF.pre
    have hi : i < n := by rw [hl.out]; exact (List.getElem?_eq_some_iff.1 hF.here).1
    have hI : (i : Int) < n := by omega
    have hS1 := hS0.below hb
    obtain ⟨g, off, rfl, hgN, hR⟩ := hS1.at0 (by omega)
    have c0 := range_c0 (hR i e hF.here)
    have hB := (hS1.ok e (List.mem_of_getElem? hF.here)).body
    by_cases hq : shl e.bs = X
    · rw [if_pos hq] at hp
      have hd : decide (shl e.bs = X) = true := by simpa using hq
      rw [hd]
      clear hd hq hF hR hS1 hS hS0
      replace hp := Hid.mk' hp
      go_wp2_with (go_at_call 87; go_must (refine (clone_any e.sp e.n e.cap e.bs _ _ hB).mono ?_; rintro r w2 ⟨v, rfl, ho, hb2⟩))
      go_ret2
      exact ⟨hb.trans (hb2.mono hb.size), .inl ⟨e, v, hp.out, rfl, own_mono ho hb.size⟩⟩
    · rw [if_neg hq] at hp
      have hd : decide (shl e.bs = X) = false := by simpa using hq
      rw [hd]
      clear hd hq hF hR hS1 hS hS0
      replace hp := Hid.mk' hp
      go_wp2_with fail
      go_ret2
      exact ⟨hb, .inr ⟨hp.out, rfl⟩⟩
  · have hb := (alloc_bel' w (.cells (h8 X) 55)).trans (hb1.mono (by simp))
    have hp := Hid.mk' (pre_none hno)
    clear hno
    go_wp2_with fail
    go_ret2
    exact ⟨hb, .inr ⟨hp.out, rfl⟩⟩
end Go.Proofs.Ytmljihggooaboaa
/- Layer interp: eight bytes of a preimage. -/
namespace Go.Proofs.Ytmljihggooaboaa
open Go.RowKit
set_option maxRecDepth 100000
set_option linter.unusedVariables false
set_option linter.unusedSimpArgs false

theorem pcN_u {bs : List Int} (h : Bts bs) (p : Nat) : U64 (pcN bs p 8) := by
  have := pcN_rg h p 8
  unfold U64
  have e : (256 : Int) ^ 8 = 18446744073709551616 := by decide
  rw [e] at this
  exact this
theorem size130 : (Try.prog.info? 130).map (·.size) = some 8 := by kernel_rfl
theorem index130 (C : Array Value) (f : Nat → Int) (h : ∀ t, t < 8 → C[t]? = some (.int .u8 (f t))) (k : Nat) (hk : k < 8) (w : World) : (Instr.index 130 (.agg C) (.int .i64 (k : Int))).run Try.prog w = .ok (.int .u8 (f k)) w := by
  have e : C[k]? = some (.int .u8 (f k)) := h k hk
  simp [Instr.index, asIntOf, run_underlying Try.underlying130, Try.sizeOf5, part, Try.isAgg5, hk, e]
/-- What is copied. -/
def pcL (bs : List Int) (p : Nat) : List Int := (bs.drop p).take 8
def zero8 : List Value := [.int .u8 0, .int .u8 0, .int .u8 0, .int .u8 0, .int .u8 0, .int .u8 0, .int .u8 0, .int .u8 0]
theorem pcL_row (bs : List Int) (p : Nat) : ∀ t, t < 8 → (splice zero8 0 (by8 (pcL bs p))).toArray[t]? = some (.int .u8 (bat bs (p + t))) := by
  intro t ht
  have hl : (by8 (pcL bs p)).length = min 8 (bs.length - p) := by rw [by8_len, pcL, List.length_take, List.length_drop]
  rw [List.getElem?_toArray, splice]
  simp only [List.take_zero, List.nil_append, Nat.zero_add]
  by_cases h : t < min 8 (bs.length - p)
  · rw [List.getElem?_append_left (by rw [hl]; exact h), by8_get (by rw [← by8_len, hl]; exact h)]
    congr 2
    simp only [bat, pcL, List.getD_eq_getElem?_getD, List.getElem?_take_of_lt ht, List.getElem?_drop]
  · rw [List.getElem?_append_right (by rw [hl]; omega), List.getElem?_drop, hl]
    have e : min 8 (bs.length - p) + (t - min 8 (bs.length - p)) = t := by omega
    rw [e]
    have : bat bs (p + t) = 0 := by
      simp only [bat, List.getD_eq_getElem?_getD]
      rw [List.getElem?_eq_none (by omega)]
      rfl
    rw [this]
    match t, ht with
    | 0, _ => rfl
    | 1, _ => rfl
    | 2, _ => rfl
    | 3, _ => rfl
    | 4, _ => rfl
    | 5, _ => rfl
    | 6, _ => rfl
    | 7, _ => rfl
theorem pcL_len (bs : List Int) (p : Nat) : (by8 (pcL bs p)).length = min (bs.length - p) 8 := by rw [by8_len, pcL, List.length_take, List.length_drop, Nat.min_comm]

set_option maxHeartbeats 1000000 in
theorem piece_in {N g off n cap p : Nat} {bs : List Int} {x : Int} (w : World) (hB : BS N w (some ⟨g, off, none⟩) n cap bs) (hx : x = (p : Int)) (hp : p < n) :
    Calls Try.prog 47 #[.slice (some ⟨g, off, none⟩) n cap, .int .u64 x] w fun e w' => e = .returned (.int .u64 (pcN bs p 8)) ∧ Below w.heap.size w w' := by
  subst hx
  have hl := hB.len
  have hle := hB.le
  have hsm := hB.small
  have hbig := hB.big
  have a1 : (p : Int) < n := by omega
  have a2 : ¬ cap = p := by omega
  have a3 : (p : Int) ≤ n := by omega
  have a4 : ¬ (n : Int) < p := by omega
  have a5 : IntKind.u64.wrap (n : Int) = n := wrap64_of (by omega) (by omega)
  have hsl := hB.here.below (alloc_bel' w (.cells zero8.toArray 130))
  obtain ⟨b, o, e, -, hby⟩ := hsl.at0 (by omega)
  cases e
  have hsrc : ∀ j v, (by8 (pcL bs p))[j]? = some v → (w.alloc (.cells zero8.toArray 130)).drew.cell? ((⟨g, off + p, none⟩ : Addr).add j) = some v := fun j v hv => by
    have hj : j < (pcL bs p).length := by have := (List.getElem?_eq_some_iff.1 hv).1; rwa [by8_len] at this
    rw [by8_get hj] at hv
    have hj2 : j < min (bs.length - p) 8 := by rw [← pcL_len, by8_len]; exact hj
    have hn := hl.out
    rw [Addr.add_mid, Nat.add_assoc]
    have := hby (p + j) (by omega)
    rw [← hv]
    refine Eq.trans this ?_
    congr 2
    simp only [bat, pcL, List.getD_eq_getElem?_getD]
    rw [List.getElem?_take_of_lt (by omega), List.getElem?_drop]
  clear hby hsl
  replace hsrc := Hid.mk' hsrc
  go_enter Try.func47, Try.ntmps47
  go_upto_region 2 with fail
  refine rgn (fun _ => True) trivial (fun hHeld => ?_)
  refine tk 0 rfl ?_
  refine tk 1 rfl ?_
  refine tk 2 rfl ?_
  refine tk 3 rfl ?_
  refine tk 4 rfl ?_
  refine tk 5 rfl ?_
  refine tk 6 rfl ?_
  refine tk 7 rfl ?_
  refine wpAnyH_ready (rs := [8]) (by kernel_rfl) (by simp) ?_
  refine AllReadyH.cons (o := ⟨_, _, _, _, _, _⟩) rfl (fun K hK => ?_) AllReadyH.nil
  refine step_copy_splice rfl (.tmp 9) (.tmp 16) 53 53 rfl 5 Try.underlying53 size5 _ _ 8 8 (n - p) _ (by rfl) (by rfl) w.heap.size 0 zero8 130 (Arr.new w 130 _) (by8 (pcL bs p)) (by rw [pcL_len, ← hl.out]) (fun _ => ⟨rfl, _, rfl, hsrc.out⟩) (by rw [pcL_len, Nat.zero_add]; exact Nat.min_le_right _ _) (by8_one _) w.heap.size w ((alloc_bel' w _).drew) (Nat.le_refl _) ?_
  intro w1 H1 hb1
  refine hK.out _ _ trivial (fun hHeld => ?_)
  clear hK K
  try simp only [Act.put, List.setIfInBounds_toArray, List.set_cons_zero, List.set_cons_succ]
  refine dn ?_
  have A1 : Arr w1 w.heap.size 130 (splice zero8 0 (by8 (pcL bs p))).toArray := H1.out
  have hix := index130 _ _ (pcL_row bs p)
  have hs8 : (splice zero8 0 (by8 (pcL bs p))).toArray.size = 8 := by simp only [List.size_toArray]; rw [length_splice _ _ _ (by rw [pcL_len, Nat.zero_add]; exact Nat.min_le_right _ _)]; rfl
  generalize (splice zero8 0 (by8 (pcL bs p))).toArray = C at A1 hix hs8
  clear H1 hHeld
  go_wp2_with (refine wpList_load_row (by rfl) 130 (.tmp 5) (by rfl) w.heap.size (by rfl) 130 C (0, 0) _ A1 Try.underlying130 rfl (by rw [hs8]; exact size130) ?_)
  go_loopw [6, 19] (fun v q wr => wr = w1 ∧ ∃ (k : Nat), q = .int .i64 (k : Int) ∧ k ≤ 8 ∧ v = .int .u64 (pcN bs p k))
    (fun _ q _ => 8 - (intOf q).toNat)
  case atStart => exact ⟨rfl, 0, rfl, by omega, rfl⟩
  case round =>
    obtain ⟨rfl, k, rfl, hk, rfl⟩ := hrel
    by_cases hlt : k < 8
    · have hI : (k : Int) < 8 := by omega
      have hx := hix k hlt
      have hst := pcN_step hB.bts p hlt
      go_wp2_with fail
      go_roundw
      case rel => exact ⟨by trivial, k + 1, by go_num, by omega, by first | rfl | (rw [← hst]) | (simp only [pcN])⟩
      case measure => simp [intOf]; omega
    · obtain rfl : k = 8 := by omega
      go_wp2_with fail
      go_ret
      exact ⟨rfl, hb1⟩

set_option maxHeartbeats 1000000 in
theorem piece_o1 {N n cap : Nat} {ad : Addr} {bs : List Int} {x : Int} (w : World) (hB : BS N w (some ad) n cap bs) (hx : U64 x) (hp : (n : Int) ≤ x) (hc : ¬ cap = n) :
    Calls Try.prog 47 #[.slice (some ad) n cap, .int .u64 x] w fun e w' => e = .returned (.int .u64 (pcN bs x.toNat 8)) ∧ Below w.heap.size w w' := by
  have hl := hB.len
  have hle := hB.le
  have hsm := hB.small
  have hbig := hB.big
  have hx1 := hx.1
  have hx2 := hx.2
  obtain ⟨p, hpp⟩ : ∃ p, p = x.toNat := ⟨_, rfl⟩
  rw [← hpp]
  have hz : by8 (pcL bs p) = [] := by
    have := hl.out
    apply List.eq_nil_of_length_eq_zero
    rw [pcL_len]; omega
  replace hz := Hid.mk' hz
  clear hpp
  have a5 : IntKind.u64.wrap (n : Int) = n := wrap64_of (by omega) (by omega)
  have a6 : (if (n : Int) < x then (n : Int) else x) = n := by split <;> omega

  go_enter Try.func47, Try.ntmps47
  go_upto_region 2 with fail
  refine rgn (fun _ => True) trivial (fun hHeld => ?_)
  refine tk 0 rfl ?_
  refine tk 1 rfl ?_
  refine tk 2 rfl ?_
  refine tk 3 rfl ?_
  refine tk 4 rfl ?_
  refine tk 5 rfl ?_
  refine tk 6 rfl ?_
  refine tk 7 rfl ?_
  refine wpAnyH_ready (rs := [8]) (by kernel_rfl) (by simp) ?_
  refine AllReadyH.cons (o := ⟨_, _, _, _, _, _⟩) rfl (fun K hK => ?_) AllReadyH.nil
  refine step_copy_splice rfl (.tmp 9) (.tmp 16) 53 53 rfl 5 Try.underlying53 size5 _ _ 8 8 0 _ (by rfl) (by rfl) w.heap.size 0 zero8 130 (Arr.new w 130 _) (by8 (pcL bs p)) (by rw [hz.out]; simp) (fun h0 => absurd h0 (by rw [hz.out]; simp)) (by rw [pcL_len, Nat.zero_add]; exact Nat.min_le_right _ _) (by8_one _) w.heap.size w ((alloc_bel' w _).drew) (Nat.le_refl _) ?_
  intro w1 H1 hb1
  refine hK.out _ _ trivial (fun hHeld => ?_)
  clear hK K
  try simp only [Act.put, List.setIfInBounds_toArray, List.set_cons_zero, List.set_cons_succ]
  refine dn ?_
  have A1 : Arr w1 w.heap.size 130 (splice zero8 0 (by8 (pcL bs p))).toArray := H1.out
  have hix := index130 _ _ (pcL_row bs p)
  have hs8 : (splice zero8 0 (by8 (pcL bs p))).toArray.size = 8 := by simp only [List.size_toArray]; rw [length_splice _ _ _ (by rw [pcL_len, Nat.zero_add]; exact Nat.min_le_right _ _)]; rfl
  generalize (splice zero8 0 (by8 (pcL bs p))).toArray = C at A1 hix hs8
  clear H1 hHeld
  go_wp2_with (refine wpList_load_row (by rfl) 130 (.tmp 5) (by rfl) w.heap.size (by rfl) 130 C (0, 0) _ A1 Try.underlying130 rfl (by rw [hs8]; exact size130) ?_)
  go_loopw [6, 19] (fun v q wr => wr = w1 ∧ ∃ (k : Nat), q = .int .i64 (k : Int) ∧ k ≤ 8 ∧ v = .int .u64 (pcN bs p k))
    (fun _ q _ => 8 - (intOf q).toNat)
  case atStart => exact ⟨rfl, 0, rfl, by omega, rfl⟩
  case round =>
    obtain ⟨rfl, k, rfl, hk, rfl⟩ := hrel
    by_cases hlt : k < 8
    · have hI : (k : Int) < 8 := by omega
      have hx := hix k hlt
      have hst := pcN_step hB.bts p hlt
      go_wp2_with fail
      go_roundw
      case rel => exact ⟨by trivial, k + 1, by go_num, by omega, by first | rfl | (rw [← hst]) | (simp only [pcN])⟩
      case measure => simp [intOf]; omega
    · obtain rfl : k = 8 := by omega
      go_wp2_with fail
      go_ret
      exact ⟨rfl, hb1⟩

set_option maxHeartbeats 1000000 in
theorem piece_o2 {N n : Nat} {ad : Addr} {bs : List Int} {x : Int} (w : World) (hB : BS N w (some ad) n n bs) (hx : U64 x) (hp : (n : Int) ≤ x) :
    Calls Try.prog 47 #[.slice (some ad) n n, .int .u64 x] w fun e w' => e = .returned (.int .u64 (pcN bs x.toNat 8)) ∧ Below w.heap.size w w' := by
  have hl := hB.len
  have hle := hB.le
  have hsm := hB.small
  have hbig := hB.big
  have hx1 := hx.1
  have hx2 := hx.2
  obtain ⟨p, hpp⟩ : ∃ p, p = x.toNat := ⟨_, rfl⟩
  rw [← hpp]
  have hz : by8 (pcL bs p) = [] := by
    have := hl.out
    apply List.eq_nil_of_length_eq_zero
    rw [pcL_len]; omega
  replace hz := Hid.mk' hz
  clear hpp
  have a5 : IntKind.u64.wrap (n : Int) = n := wrap64_of (by omega) (by omega)
  have a6 : (if (n : Int) < x then (n : Int) else x) = n := by split <;> omega

  go_enter Try.func47, Try.ntmps47
  go_upto_region 2 with fail
  refine rgn (fun _ => True) trivial (fun hHeld => ?_)
  refine tk 0 rfl ?_
  refine tk 1 rfl ?_
  refine tk 2 rfl ?_
  refine tk 3 rfl ?_
  refine tk 4 rfl ?_
  refine tk 5 rfl ?_
  refine tk 6 rfl ?_
  refine tk 7 rfl ?_
  refine wpAnyH_ready (rs := [8]) (by kernel_rfl) (by simp) ?_
  refine AllReadyH.cons (o := ⟨_, _, _, _, _, _⟩) rfl (fun K hK => ?_) AllReadyH.nil
  refine step_copy_splice rfl (.tmp 9) (.tmp 16) 53 53 rfl 5 Try.underlying53 size5 _ _ 8 8 0 _ (by rfl) (by rfl) w.heap.size 0 zero8 130 (Arr.new w 130 _) (by8 (pcL bs p)) (by rw [hz.out]; simp) (fun h0 => absurd h0 (by rw [hz.out]; simp)) (by rw [pcL_len, Nat.zero_add]; exact Nat.min_le_right _ _) (by8_one _) w.heap.size w ((alloc_bel' w _).drew) (Nat.le_refl _) ?_
  intro w1 H1 hb1
  refine hK.out _ _ trivial (fun hHeld => ?_)
  clear hK K
  try simp only [Act.put, List.setIfInBounds_toArray, List.set_cons_zero, List.set_cons_succ]
  refine dn ?_
  have A1 : Arr w1 w.heap.size 130 (splice zero8 0 (by8 (pcL bs p))).toArray := H1.out
  have hix := index130 _ _ (pcL_row bs p)
  have hs8 : (splice zero8 0 (by8 (pcL bs p))).toArray.size = 8 := by simp only [List.size_toArray]; rw [length_splice _ _ _ (by rw [pcL_len, Nat.zero_add]; exact Nat.min_le_right _ _)]; rfl
  generalize (splice zero8 0 (by8 (pcL bs p))).toArray = C at A1 hix hs8
  clear H1 hHeld
  go_wp2_with (refine wpList_load_row (by rfl) 130 (.tmp 5) (by rfl) w.heap.size (by rfl) 130 C (0, 0) _ A1 Try.underlying130 rfl (by rw [hs8]; exact size130) ?_)
  go_loopw [6, 19] (fun v q wr => wr = w1 ∧ ∃ (k : Nat), q = .int .i64 (k : Int) ∧ k ≤ 8 ∧ v = .int .u64 (pcN bs p k))
    (fun _ q _ => 8 - (intOf q).toNat)
  case atStart => exact ⟨rfl, 0, rfl, by omega, rfl⟩
  case round =>
    obtain ⟨rfl, k, rfl, hk, rfl⟩ := hrel
    by_cases hlt : k < 8
    · have hI : (k : Int) < 8 := by omega
      have hx := hix k hlt
      have hst := pcN_step hB.bts p hlt
      go_wp2_with fail
      go_roundw
      case rel => exact ⟨by trivial, k + 1, by go_num, by omega, by first | rfl | (rw [← hst]) | (simp only [pcN])⟩
      case measure => simp [intOf]; omega
    · obtain rfl : k = 8 := by omega
      go_wp2_with fail
      go_ret
      exact ⟨rfl, hb1⟩

set_option maxHeartbeats 1000000 in
theorem piece_o3 {N n : Nat} {ad : Addr} {bs : List Int} {x : Int} (w : World) (hB : BS N w none n n bs) (hx : U64 x) (hp : (n : Int) ≤ x) :
    Calls Try.prog 47 #[.slice none n n, .int .u64 x] w fun e w' => e = .returned (.int .u64 (pcN bs x.toNat 8)) ∧ Below w.heap.size w w' := by
  have hl := hB.len
  have hle := hB.le
  have hsm := hB.small
  have hbig := hB.big
  have hx1 := hx.1
  have hx2 := hx.2
  obtain ⟨p, hpp⟩ : ∃ p, p = x.toNat := ⟨_, rfl⟩
  rw [← hpp]
  have hz : by8 (pcL bs p) = [] := by
    have := hl.out
    apply List.eq_nil_of_length_eq_zero
    rw [pcL_len]; omega
  replace hz := Hid.mk' hz
  clear hpp
  have a5 : IntKind.u64.wrap (n : Int) = n := wrap64_of (by omega) (by omega)
  have a6 : (if (n : Int) < x then (n : Int) else x) = n := by split <;> omega
  obtain ⟨rfl, -⟩ := hB.nil rfl
  have a7 : (if IntKind.u64.wrap 0 < x then IntKind.u64.wrap 0 else x) = 0 := by rw [wrap_mod]; split <;> omega
  go_enter Try.func47, Try.ntmps47
  go_upto_region 2 with fail
  refine rgn (fun _ => True) trivial (fun hHeld => ?_)
  refine tk 0 rfl ?_
  refine tk 1 rfl ?_
  refine tk 2 rfl ?_
  refine tk 3 rfl ?_
  refine tk 4 rfl ?_
  refine tk 5 rfl ?_
  refine tk 6 rfl ?_
  refine tk 7 rfl ?_
  refine wpAnyH_ready (rs := [8]) (by kernel_rfl) (by simp) ?_
  refine AllReadyH.cons (o := ⟨_, _, _, _, _, _⟩) rfl (fun K hK => ?_) AllReadyH.nil
  refine step_copy_splice rfl (.tmp 9) (.tmp 16) 53 53 rfl 5 Try.underlying53 size5 _ _ 8 8 0 _ (by rfl) (by rfl) w.heap.size 0 zero8 130 (Arr.new w 130 _) (by8 (pcL bs p)) (by rw [hz.out]; simp) (fun h0 => absurd h0 (by rw [hz.out]; simp)) (by rw [pcL_len, Nat.zero_add]; exact Nat.min_le_right _ _) (by8_one _) w.heap.size w ((alloc_bel' w _).drew) (Nat.le_refl _) ?_
  intro w1 H1 hb1
  refine hK.out _ _ trivial (fun hHeld => ?_)
  clear hK K
  try simp only [Act.put, List.setIfInBounds_toArray, List.set_cons_zero, List.set_cons_succ]
  refine dn ?_
  have A1 : Arr w1 w.heap.size 130 (splice zero8 0 (by8 (pcL bs p))).toArray := H1.out
  have hix := index130 _ _ (pcL_row bs p)
  have hs8 : (splice zero8 0 (by8 (pcL bs p))).toArray.size = 8 := by simp only [List.size_toArray]; rw [length_splice _ _ _ (by rw [pcL_len, Nat.zero_add]; exact Nat.min_le_right _ _)]; rfl
  generalize (splice zero8 0 (by8 (pcL bs p))).toArray = C at A1 hix hs8
  clear H1 hHeld
  go_wp2_with (refine wpList_load_row (by rfl) 130 (.tmp 5) (by rfl) w.heap.size (by rfl) 130 C (0, 0) _ A1 Try.underlying130 rfl (by rw [hs8]; exact size130) ?_)
  go_loopw [6, 19] (fun v q wr => wr = w1 ∧ ∃ (k : Nat), q = .int .i64 (k : Int) ∧ k ≤ 8 ∧ v = .int .u64 (pcN bs p k))
    (fun _ q _ => 8 - (intOf q).toNat)
  case atStart => exact ⟨rfl, 0, rfl, by omega, rfl⟩
  case round =>
    obtain ⟨rfl, k, rfl, hk, rfl⟩ := hrel
    by_cases hlt : k < 8
    · have hI : (k : Int) < 8 := by omega
      have hx := hix k hlt
      have hst := pcN_step hB.bts p hlt
      go_wp2_with fail
      go_roundw
      case rel => exact ⟨by trivial, k + 1, by go_num, by omega, by first | rfl | (rw [← hst]) | (simp only [pcN])⟩
      case measure => simp [intOf]; omega
    · obtain rfl : k = 8 := by omega
      go_wp2_with fail
      go_ret
      exact ⟨rfl, hb1⟩
theorem piece_any {N n cap : Nat} {sp : Option Addr} {bs : List Int} {x : Int} (w : World) (hB : BS N w sp n cap bs) (hx : U64 x) :
    Calls Try.prog 47 #[.slice sp n cap, .int .u64 x] w fun e w' => e = .returned (.int .u64 (pcN bs x.toNat 8)) ∧ Below w.heap.size w w' := by
  have h1 := hx.1
  by_cases hp : x < n
  · obtain ⟨g, off, rfl, -⟩ := hB.at0 (by omega)
    exact piece_in w hB (by omega) (by omega)
  · cases sp with
    | none =>
      obtain ⟨rfl, rfl⟩ := hB.nil rfl
      exact piece_o3 (ad := ⟨0, 0, none⟩) w hB hx (by omega)
    | some a =>
      by_cases hc : cap = n
      · subst hc; exact piece_o2 w hB hx (by omega)
      · exact piece_o1 w hB hx (by omega) hc
end Go.Proofs.Ytmljihggooaboaa
