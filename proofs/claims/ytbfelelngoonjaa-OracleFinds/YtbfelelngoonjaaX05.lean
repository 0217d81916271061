/- Mc, Mh, Tt. -/
import Derived.Test.YtbfelelngoonjaaX01
import Derived.Test.YtbfelelngoonjaaX02
import Derived.Test.YtbfelelngoonjaaX03
import Derived.Test.YtbfelelngoonjaaX04
import Derived.BigQuiet
import Derived.BigRegion
import Derived.ChangeKeysEq
import Derived.Deep.DeepCutAuto
import Derived.Deep.DrawnRows
import Derived.Deep.MidRow
import Derived.Deep.QuietTactic
import Derived.Deep.RegionHeld3
import Derived.Deep.RegionLaw
import Derived.Deep.RegionWith
import Derived.Deep.WholeRow
import Derived.Laws.AppendOwnNone
import Derived.Laws.BitsLemmas
import Derived.Laws.BytesArg
import Derived.Laws.CopyOwn
import Derived.Lib.SlBytesConst
import Derived.WalkKit
import Derived.WalkLawsBesides
import Derived.WalkSpells
/- Layer oracle: what the layers below give. -/
namespace Go.Proofs.Ytbfelelngoonjaa
open Go.RowKit
set_option maxRecDepth 100000
set_option linter.unusedVariables false
set_option linter.unusedSimpArgs false

theorem i64_and1 (n : Int) : bits .and .i64 n 1 = n % 2 := by
  have h1 : (BitVec.ofInt 64 1).toNat = 2 ^ 1 - 1 := by decide
  have key : (BitVec.ofInt 64 n &&& BitVec.ofInt 64 1).toNat = (n % ((2 ^ 64 : Nat) : Int)).toNat % 2 ^ 1 := by
    rw [BitVec.toNat_and, BitVec.toNat_ofInt, h1, Nat.and_two_pow_sub_one_eq_mod]
  show IntKind.i64.wrap ((BitVec.ofInt 64 n &&& BitVec.ofInt 64 1).toNat : Nat) = n % 2
  rw [key, IntKind.wrap_i64]
  omega
theorem pow16 {d : Nat} (h : d ≤ 16) : 2 ^ d ≤ 65536 := Nat.pow_le_pow_right (n := 2) (by omega) h
theorem powc (d : Nat) : ((2 : Int) ^ d) = ((2 ^ d : Nat) : Int) := (Int.natCast_pow 2 d).symm
theorem wrap_pow {d : Nat} (h : d ≤ 16) : wrap64 ((2 : Int) ^ d) = ((2 ^ d : Nat) : Int) := by
  have := pow16 h
  rw [powc]
  generalize 2 ^ d = p at *
  unfold wrap64; omega
set_option maxRecDepth 100000 in
set_option maxHeartbeats 400000 in
theorem mayDepth_any (d : Int) (w : World) : Calls Try.prog 100 #[.int .i64 d] w fun e w' => e = .returned (.bool (decide (0 ≤ d ∧ d ≤ 16))) ∧ w' = w := by
  by_cases h1 : 0 ≤ d
  · by_cases h2 : d ≤ 16
    · rw [decide_eq_true ⟨h1, h2⟩]
      go_enter Try.func100, Try.ntmps100
      go_wp2
      go_ret
      exact ⟨rfl, rfl⟩
    · rw [decide_eq_false (fun h => h2 h.2)]
      go_enter Try.func100, Try.ntmps100
      go_wp2
      go_ret
      exact ⟨rfl, rfl⟩
  · rw [decide_eq_false (fun h => h1 h.1)]
    go_enter Try.func100, Try.ntmps100
    go_wp2
    go_ret
    exact ⟨rfl, rfl⟩
set_option maxRecDepth 100000 in
set_option maxHeartbeats 400000 in
theorem width_any (d : Nat) (hd : d ≤ 16) (w : World) : Calls Try.prog 105 #[.int .i64 d] w fun e w' => e = .returned (.int .i64 (2 ^ d : Nat)) ∧ w' = w := by
  have hp := Hid.mk' (wrap_pow hd)
  go_enter Try.func105, Try.ntmps105
  go_wp2
  go_ret
  exact ⟨by rw [hp.out]; rfl, rfl⟩
set_option maxRecDepth 100000 in
set_option maxHeartbeats 400000 in
theorem isSecond_any (i k : Nat) (hi : i ≤ 9223372036854775807) (hk : k ≤ 17) (w : World) : Calls Try.prog 102 #[.int .i64 i, .int .i64 k] w fun e w' => e = .returned (.bool (decide ((i / 2 ^ k) % 2 = 1))) ∧ w' = w := by
  have hp : (bits .and .i64 ((i : Int) / 2 ^ k) 1 == 1) = decide ((i / 2 ^ k) % 2 = 1) := by
    rw [i64_and1, powc, ← Int.natCast_ediv]
    rw [Bool.eq_iff_iff, beq_iff_eq, decide_eq_true_eq]
    omega
  replace hp := Hid.mk' hp
  go_enter Try.func102, Try.ntmps102
  go_wp2
  go_ret
  exact ⟨by rw [hp.out]; rfl, rfl⟩
set_option maxRecDepth 100000 in
set_option maxHeartbeats 400000 in
theorem mayPlace_any (d : Nat) (hd : d ≤ 16) (i : Int) (w : World) : Calls Try.prog 101 #[.int .i64 d, .int .i64 i] w fun e w' => e = .returned (.bool (decide (0 ≤ i ∧ i < (2 ^ d : Nat)))) ∧ w' = w := by
  obtain ⟨p, hp⟩ : ∃ p : Int, p = (2 ^ d : Nat) := ⟨_, rfl⟩
  have hw : ∀ w, Calls Try.prog 105 #[.int .i64 d] w fun e w' => e = .returned (.int .i64 p) ∧ w' = w := fun w => by rw [hp]; exact width_any d hd w
  rw [← hp]
  clear hp
  by_cases h1 : 0 ≤ i
  · by_cases h2 : i < p
    · rw [decide_eq_true ⟨h1, h2⟩]
      go_enter Try.func101, Try.ntmps101
      go_wp2_with (go_at_call 105; go_must (refine (hw _).mono ?_; rintro e w2 ⟨rfl, rfl⟩))
      go_ret
      exact ⟨rfl, rfl⟩
    · rw [decide_eq_false (fun h => h2 h.2)]
      go_enter Try.func101, Try.ntmps101
      go_wp2_with (go_at_call 105; go_must (refine (hw _).mono ?_; rintro e w2 ⟨rfl, rfl⟩))
      go_ret
      exact ⟨by simp [h2], rfl⟩
  · rw [decide_eq_false (fun h => h1 h.1)]
    go_enter Try.func101, Try.ntmps101
    go_wp2_with (go_at_call 105; go_must (refine (hw _).mono ?_; rintro e w2 ⟨rfl, rfl⟩))
    go_ret
    exact ⟨rfl, rfl⟩
theorem pair_h (X Y : List Int) (w : World) (hX : X.length = 32) (hY : Y.length = 32) :
    Calls Try.prog 103 #[.agg (h8 X), .agg (h8 Y)] w fun e w' => e = .returned (.agg (h8 (pr X Y))) ∧ Below w.heap.size w w' := by
  have h := pair_any X Y w hX hY
  rw [sha_h8] at h
  exact h
/-- A sum out of memory. -/
theorem ld24 {ops : Array Oper} {rest : List Oper} {o : Oper} {a : Act} {w : World} {Q : Exit → Act → World → Prop} (hgd : o.guard = none) (x : Operand) (ho : o.op = .load 32 x)
    (b off : Nat) (hx : a.eval x = .pointer (some ⟨b, off, none⟩)) (X : List Int) (hX : X.length = 32) (hc : w.rangeAt b off (by8 X))
    (h : wpList Try.prog ops Q rest (a.put o.dst (.agg (h8 X))) w) : wpList Try.prog ops Q (o :: rest) a w :=
  wpList_load_mid hgd 32 x ho b off hx (by8 X) _ hc Try.underlying32 rfl (by rw [by8_len, hX]; exact size24) h
/-- A sum into a block of its own. -/
theorem st24 {ops : Array Oper} {rest : List Oper} {o : Oper} {a : Act} {w : World} {Q : Exit → Act → World → Prop} (hgd : o.guard = none) (x y : Operand) (ho : o.op = .store 32 x y)
    (g : Nat) (X Y : List Int) (hx : a.eval x = .pointer (some ⟨g, 0, none⟩)) (hy : a.eval y = .agg (h8 X)) (hX : X.length = 32) (hY : Y.length = 32) (hg : Arr w g 32 (h8 Y))
    (h : wpList Try.prog ops Q rest (a.put o.dst undef) (w.setRow g (h8 X))) : wpList Try.prog ops Q (o :: rest) a w :=
  wpList_store_arr hgd 32 x y ho g (h8 X) hx hy 32 _ hg (s24h8 hX) (by rw [h8_size, h8_size, hX, hY]) (h8_one X) h
/-- .. into the newest block. -/
theorem st24n {ops : Array Oper} {rest : List Oper} {o : Oper} {a : Act} {Q : Exit → Act → World → Prop} (hgd : o.guard = none) (x y : Operand) (ho : o.op = .store 32 x y) (W : World) (g : Nat) (hgW : W.heap.size = g) {z : Array Value} (hz : z.size = 32)
    (X : List Int) (hx : a.eval x = .pointer (some ⟨g, 0, none⟩)) (hy : a.eval y = .agg (h8 X)) (hX : X.length = 32)
    (h : wpList Try.prog ops Q rest (a.put o.dst undef) (W.alloc (.cells (h8 X) 32))) : wpList Try.prog ops Q (o :: rest) a (W.alloc (.cells z 32)) := by
  subst hgW
  exact wpList_store_new W z 32 hgd 32 x y ho (h8 X) hx hy (s24h8 hX) (by rw [hz, h8_size, hX]) (h8_one X) h
/-- What is returned out of a block. -/
theorem res24 {f : Func} {w : World} {tmps : Array Value} {g t : Nat} {X : List Int} (hf : f.results = #[.cell t 32]) (hp : tmps.getD t undef = .pointer (some ⟨g, 0, none⟩)) (hX : X.length = 32) (hA : Arr w g 32 (h8 X)) :
    (results f tmps).run Try.prog w = .ok (.agg (h8 X)) w := results_cell_row hf _ _ g 32 _ (0, 0) _ hp hA Try.underlying32 rfl (s24h8 hX)
set_option maxRecDepth 100000 in
set_option maxHeartbeats 400000 in
theorem itself_any (X : List Int) (hX : X.length = 32) (w : World) : Calls Try.prog 107 #[.agg (h8 X)] w fun e w' => e = .returned (.agg (h8 X)) ∧ Below w.heap.size w w' := by
  have A0 := (Arr.new w 32 (h8 X)).alloc (.cells (h8 Z32) 32)
  have A1 := Arr.new (w.alloc (.cells (h8 X) 32)) 32 (h8 Z32)
  rw [World.size_alloc] at A1
  go_enter Try.func107, Try.ntmps107
  go_wp2_with (first
    | (refine ld24 (by rfl) _ (by rfl) w.heap.size 0 (by rfl) X hX A0.range ?_)
    | (refine st24 (by rfl) _ _ (by rfl) (w.heap.size + 1) X Z32 (by rfl) (by rfl) hX Z32_len A1 ?_))
  exact bodyPost_ret (v := .agg (h8 X)) (res24 Try.results107 rfl hX (A1.setRow _)) rfl ⟨rfl, below_setRow ((alloc_bel' w _).alloc (by simp) _) (by omega) _⟩
theorem resP {f : Func} {w : World} {tmps : Array Value} {g t k : Nat} {X : List Int} {v : Value} (hf : f.results = #[.cell t 32, .tmp k]) (hp : tmps.getD t undef = .pointer (some ⟨g, 0, none⟩)) (hk : tmps.getD k undef = v) (hX : X.length = 32) (hA : Arr w g 32 (h8 X)) :
    (results f tmps).run Try.prog w = .ok (.tuple #[.agg (h8 X), v]) w := by
  have hl := run_loadVar_mid (P := Try.prog) w g 0 32 (by8 X) _ hA.range Try.underlying32 rfl (by rw [by8_len, hX]; exact size24)
  have hp' : tmps[t]?.getD undef = .pointer (some ⟨g, 0, none⟩) := by simpa using hp
  have hk' : tmps[k]?.getD undef = v := by simpa using hk
  simp [results, hf, hp', hk', asAddr, hl, h8]
end Go.Proofs.Ytbfelelngoonjaa
/- Layer oracle: what the layers below give. -/
namespace Go.Proofs.Ytbfelelngoonjaa
open Go.RowKit
set_option maxRecDepth 100000
set_option linter.unusedVariables false
set_option linter.unusedSimpArgs false

/-- The array of halves that wait, in memory. -/
structure LV (w : World) (g : Nat) (W : Nat → List Int) : Prop where
  rg : ∀ k, k < 17 → w.rangeAt g (k * 32) (by8 (W k))
  l32 : ∀ k, (W k).length = 32
  th : w.there g 0 544
theorem LV.below {w w' : World} {g B : Nat} {W : Nat → List Int} (h : LV w g W) (hb : Below B w w') (hg : g < B) : LV w' g W :=
  ⟨fun k hk => range_below (h.rg k hk) hb hg, h.l32, there_below h.th hb hg⟩
theorem LV.lt {w : World} {g : Nat} {W : Nat → List Int} (h : LV w g W) : g < w.heap.size := by
  have := (h.th 0 (by omega)).1
  obtain ⟨v, hv⟩ := Option.isSome_iff_exists.1 this
  exact block_lt_of_cell hv
theorem LV.set {w : World} {g : Nat} {W : Nat → List Int} (h : LV w g W) {k : Nat} (hk : k < 17) {r : List Int} (hr : r.length = 32) : LV (w.setCells g (k * 32) (by8 r)) g (fun j => if j = k then r else W j) := by
  refine ⟨fun j hj => ?_, fun j => ?_, World.there_setCells h.th _ _ _⟩
  · show World.rangeAt _ _ _ (by8 (if j = k then r else W j))
    by_cases e : j = k
    · subst e
      rw [if_pos rfl]
      exact World.rangeAt_setCells_same _ _ _ _ (fun i hi => by
        rw [by8_len, hr] at hi
        have := h.th (j * 32 + i) (by omega)
        rwa [Nat.zero_add] at this)
    · rw [if_neg e]
      refine World.rangeAt_setCells_apart (h.rg j hj) _ _ _ (.inr ?_)
      rw [by8_len, by8_len, hr, h.l32]
      omega
  · show (if j = k then r else W j).length = 32
    split
    · exact hr
    · exact h.l32 j
theorem heap_setCells_other {k g : Nat} (hk : k ≠ g) : ∀ (vs : List Value) (o : Nat) (w : World), (w.setCells g o vs).heap[k]? = w.heap[k]?
  | [], _, _ => rfl
  | v :: r, o, w => by
    rw [World.setCells, heap_setCells_other hk r (o + 1)]
    exact Below.heap_setCell _ _ _ _ hk
theorem size_setCells (g : Nat) : ∀ (vs : List Value) (o : Nat) (w : World), (w.setCells g o vs).heap.size = w.heap.size
  | [], _, _ => rfl
  | v :: r, o, w => by rw [World.setCells, size_setCells g r (o + 1)]; simp [World.setCell]
theorem below_setCells {B : Nat} {a w : World} (h : Below B a w) {g : Nat} (hg : B ≤ g) : ∀ (vs : List Value) (o : Nat), Below B a (w.setCells g o vs) := by
  intro vs
  induction vs generalizing w with
  | nil => intro o; exact h
  | cons v r ih => intro o; rw [World.setCells]; exact ih (h.setCell (p := ⟨g, o, none⟩) hg v) (o + 1)
theorem Arr.setCellsOther {w : World} {g ty k : Nat} {C : Array Value} (h : Arr w g ty C) (hk : g ≠ k) (o : Nat) (vs : List Value) : Arr (w.setCells k o vs) g ty C := (heap_setCells_other hk vs o w).trans h
/-- What put does. -/
def PutPost (l : List (List Int)) (n : Nat) (W : Nat → List Int) (g : Nat) (w : World) (e : Ending) (w' : World) : Prop :=
  (∃ v, e = .returned v) ∧ ∃ w1 k r, Below w.heap.size w w1 ∧ k < 17 ∧ r.length = 32 ∧ w' = w1.setCells g (k * 32) (by8 r) ∧ Wt l (n + 1) (fun j => if j = k then r else W j)
theorem low_succ {n k : Nat} (h : n % 2 ^ k + 1 = 2 ^ k) (hb : (n / 2 ^ k) % 2 = 1) : n % 2 ^ (k + 1) + 1 = 2 ^ (k + 1) := by
  rw [Nat.mod_pow_succ, hb, Nat.mul_one, Nat.pow_succ]; omega
/-- A leaf of the first 2^16 comes up 16 levels at most. -/
theorem low_lt {n k : Nat} (h : n % 2 ^ k + 1 = 2 ^ k) (hn : n < 65536) : k ≤ 16 := by
  by_cases hk : k ≤ 16
  · exact hk
  · exfalso
    have h1 : n % 2 ^ k ≤ n := Nat.mod_le _ _
    have h2 : 2 ^ 17 ≤ 2 ^ k := Nat.pow_le_pow_right (by omega) (by omega)
    have h3 : (2 : Nat) ^ 17 = 131072 := by rfl
    omega
set_option maxRecDepth 100000 in
set_option maxHeartbeats 1000000 in
theorem put_any (l : List (List Int)) (n : Nat) (X : List Int) (W : Nat → List Int) (g : Nat) (w : World) (hX : X.length = 32) (hl : l[n]? = some X) (hn : n < 65536) (hL : LV w g W) (hW : Wt l n W) :
    Calls Try.prog 108 #[.pointer (some ⟨g, 0, none⟩), .int .i64 n, .agg (h8 X)] w (PutPost l n W g w) := by
  have A0 := Arr.new w 32 (h8 X)
  have hst := Hid.mk' (put_start hl)
  replace hW := Hid.mk' hW
  replace hl := Hid.mk' hl
  have hgl := hL.lt
  have hb1 := (alloc_bel' w (.cells (h8 X) 32)).alloc (by simp) (.cells (h8 X) 32)
  have A1 := Arr.new (w.alloc (.cells (h8 X) 32)) 32 (h8 X)
  rw [World.size_alloc] at A1
  go_enter Try.func108, Try.ntmps108
  go_wp2_with (first
    | (refine ld24 (by rfl) _ (by rfl) w.heap.size 0 (by rfl) X hX A0.range ?_)
    | (refine st24n (by rfl) _ _ (by rfl) (w.alloc (.cells (h8 X) 32)) (w.heap.size + 1) (by simp) (by rfl) X (by rfl) (by rfl) hX ?_))
  go_loopw [7] (fun d wr => ∃ (k : Nat) (r : List Int), d = .int .i64 (k : Int) ∧ Below w.heap.size w wr ∧ w.heap.size + 2 ≤ wr.heap.size ∧ Arr wr (w.heap.size + 1) 32 (h8 r) ∧ Hid (r.length = 32) ∧ Hid (n % 2 ^ k + 1 = 2 ^ k) ∧ Hid (r = tr k (l.drop ((n / 2 ^ k) * 2 ^ k))))
    (fun d _ => 20 - (intOf d).toNat)
  case atStart => exact ⟨0, X, rfl, hb1, by simp, A1, Hid.mk' hX, Hid.mk' (by simp [Nat.mod_one]), hst⟩
  case round =>
    obtain ⟨k, r, rfl, hbl, hsz, R1, hr, hlow, hrt⟩ := hrel
    clear A0 A1 hb1 hst
    have hk := low_lt hlow.out hn
    have hkI : (k : Int) < 17 := by omega
    have hsec := isSecond_any n k (by omega) (by omega)
    have hRk := range_below (hL.rg k (by omega)) hbl hgl
    cases hd : decide (n / 2 ^ k % 2 = 1) with
    | true =>
      rw [hd] at hsec
      have hd := Hid.mk' (of_decide_eq_true hd)
      go_wp2_with (first
        | (go_at_call 102; go_must (refine (hsec _).mono ?_; rintro e w2 ⟨rfl, rfl⟩)))
      refine wp_region_held_drew (S := fun _ => True) (by kernel_rfl) trivial (fun hHeld => ?_)
      refine wpAnyH_take (i := 0) (oi := ⟨_, _, _, _, _, _⟩) (v := ?_) rfl (by kernel_rfl) (by kernel_rfl) (by kernel_rfl) (fun _ _ _ h => h) (Or.inl ⟨by rfl, ?_⟩) (by assumption) ?_
      rotate_left
      · intro u hSw
        go_simp
        try (with_reducible rfl)
      try simp only [Act.put, List.setIfInBounds_toArray, List.set_cons_zero, List.set_cons_succ]
      refine wpAnyH_take (i := 1) (oi := ⟨_, _, _, _, _, _⟩) (v := ?_) rfl (by kernel_rfl) (by kernel_rfl) (by kernel_rfl) (fun _ _ _ h => h) (Or.inl ⟨by rfl, ?_⟩) (by assumption) ?_
      rotate_left
      · intro u hSw
        go_simp
        try (with_reducible rfl)
      try simp only [Act.put, List.setIfInBounds_toArray, List.set_cons_zero, List.set_cons_succ]
      refine wpAnyH_take (i := 2) (oi := ⟨_, _, _, _, _, _⟩) (v := ?_) rfl (by kernel_rfl) (by kernel_rfl) (by kernel_rfl) (fun _ _ _ h => h) (Or.inl ⟨by rfl, ?_⟩) (by assumption) ?_
      rotate_left
      · intro u hSw
        go_simp
        try (with_reducible rfl)
      try simp only [Act.put, List.setIfInBounds_toArray, List.set_cons_zero, List.set_cons_succ]
      refine wpAnyH_take (i := 3) (oi := ⟨_, _, _, _, _, _⟩) (v := ?_) rfl (by kernel_rfl) (by kernel_rfl) (by kernel_rfl) (fun _ _ _ h => h) (Or.inl ⟨by rfl, ?_⟩) (by assumption) ?_
      rotate_left
      · intro u hSw
        go_simp
        try (with_reducible rfl)
      try simp only [Act.put, List.setIfInBounds_toArray, List.set_cons_zero, List.set_cons_succ]
      refine wpAnyH_ready (rs := [4, 5]) (by kernel_rfl) (by simp) ?_
      refine AllReadyH.cons (o := ⟨_, _, _, _, _, _⟩) rfl (fun K hK => ?_) (AllReadyH.cons (o := ⟨_, _, _, _, _, _⟩) rfl (fun K hK => ?_) AllReadyH.nil)
      · refine step_want rfl (wp_load_mid 32 (.tmp 15) rfl g (k * 32) rfl (by8 (W k)) _ ((World.rangeAt_drew _ _ _ _).2 hRk) Try.underlying32 rfl (by rw [by8_len, hL.l32 k]; exact size24) ?_)
        refine hK.out _ _ trivial (fun hHeld => ?_)
        clear hK K
        try simp only [Act.put, List.setIfInBounds_toArray, List.set_cons_zero, List.set_cons_succ]
        refine wpAnyH_ready (rs := [5]) (by kernel_rfl) (by simp) ?_
        refine AllReadyH.cons (o := ⟨_, _, _, _, _, _⟩) rfl (fun K hK => ?_) AllReadyH.nil
        refine step_want rfl (wp_load_mid 32 (.tmp 6) rfl (w.heap.size + 1) 0 rfl (by8 r) _ R1.drew.range Try.underlying32 rfl (by rw [by8_len, hr.out]; exact size24) ?_)
        refine hK.out _ _ trivial (fun hHeld => ?_)
        clear hK K
        try simp only [Act.put, List.setIfInBounds_toArray, List.set_cons_zero, List.set_cons_succ]
        refine wpAnyH_ready (rs := [6]) (by kernel_rfl) (by simp) ?_
        refine AllReadyH.cons (o := ⟨_, _, _, _, _, _⟩) rfl (fun K hK => ?_) AllReadyH.nil
        go_simp
        refine (pair_h (W k) r _ (hL.l32 k) hr.out).mono ?_; rintro e w3 ⟨rfl, hb3⟩; have hs3 := hb3.size; simp at hs3; have S1 := R1.drew.below hb3 (by simp <;> omega)
        go_wp2_with fail
        refine hK.out _ _ trivial (fun hHeld => ?_)
        clear hK K
        try simp only [Act.put, List.setIfInBounds_toArray, List.set_cons_zero, List.set_cons_succ]
        refine wpAnyH_ready (rs := [7]) (by kernel_rfl) (by simp) ?_
        refine AllReadyH.cons (o := ⟨_, _, _, _, _, _⟩) rfl (fun K hK => ?_) AllReadyH.nil
        refine step_want rfl (wp_store_row 32 (.tmp 6) (.tmp 18) rfl (w.heap.size + 1) (h8 (pr (W k) r)) rfl rfl 32 _ S1 (s24h8 (pr_len _ _)) (by rw [h8_size, h8_size, hr.out, pr_len]) (h8_one _) ?_)
        refine hK.out _ _ trivial (fun hHeld => ?_)
        clear hK K
        try simp only [Act.put, List.setIfInBounds_toArray, List.set_cons_zero, List.set_cons_succ]
        refine wpAnyH_done (by kernel_rfl) ?_ _
        go_wp2_with fail
        go_roundw
        case rel => exact ⟨k + 1, pr (W k) r, by go_num, below_setRow (hbl.drew.trans (hb3.mono (by simp <;> omega))) (by omega) _, by simp <;> omega, S1.setRow _, Hid.mk' (pr_len _ _), Hid.mk' (low_succ hlow.out hd.out), Hid.mk' (wt_up hW.out hd.out hrt.out)⟩
        case measure => simp [intOf]; omega
      · refine step_want rfl (wp_load_mid 32 (.tmp 6) rfl (w.heap.size + 1) 0 rfl (by8 r) _ R1.drew.range Try.underlying32 rfl (by rw [by8_len, hr.out]; exact size24) ?_)
        refine hK.out _ _ trivial (fun hHeld => ?_)
        clear hK K
        try simp only [Act.put, List.setIfInBounds_toArray, List.set_cons_zero, List.set_cons_succ]
        refine wpAnyH_ready (rs := [4]) (by kernel_rfl) (by simp) ?_
        refine AllReadyH.cons (o := ⟨_, _, _, _, _, _⟩) rfl (fun K hK => ?_) AllReadyH.nil
        refine step_want rfl (wp_load_mid 32 (.tmp 15) rfl g (k * 32) rfl (by8 (W k)) _ ((World.rangeAt_drew _ _ _ _).2 hRk) Try.underlying32 rfl (by rw [by8_len, hL.l32 k]; exact size24) ?_)
        refine hK.out _ _ trivial (fun hHeld => ?_)
        clear hK K
        try simp only [Act.put, List.setIfInBounds_toArray, List.set_cons_zero, List.set_cons_succ]
        refine wpAnyH_ready (rs := [6]) (by kernel_rfl) (by simp) ?_
        refine AllReadyH.cons (o := ⟨_, _, _, _, _, _⟩) rfl (fun K hK => ?_) AllReadyH.nil
        go_simp
        refine (pair_h (W k) r _ (hL.l32 k) hr.out).mono ?_; rintro e w3 ⟨rfl, hb3⟩; have hs3 := hb3.size; simp at hs3; have S1 := R1.drew.below hb3 (by simp <;> omega)
        go_wp2_with fail
        refine hK.out _ _ trivial (fun hHeld => ?_)
        clear hK K
        try simp only [Act.put, List.setIfInBounds_toArray, List.set_cons_zero, List.set_cons_succ]
        refine wpAnyH_ready (rs := [7]) (by kernel_rfl) (by simp) ?_
        refine AllReadyH.cons (o := ⟨_, _, _, _, _, _⟩) rfl (fun K hK => ?_) AllReadyH.nil
        refine step_want rfl (wp_store_row 32 (.tmp 6) (.tmp 18) rfl (w.heap.size + 1) (h8 (pr (W k) r)) rfl rfl 32 _ S1 (s24h8 (pr_len _ _)) (by rw [h8_size, h8_size, hr.out, pr_len]) (h8_one _) ?_)
        refine hK.out _ _ trivial (fun hHeld => ?_)
        clear hK K
        try simp only [Act.put, List.setIfInBounds_toArray, List.set_cons_zero, List.set_cons_succ]
        refine wpAnyH_done (by kernel_rfl) ?_ _
        go_wp2_with fail
        go_roundw
        case rel => exact ⟨k + 1, pr (W k) r, by go_num, below_setRow (hbl.drew.trans (hb3.mono (by simp <;> omega))) (by omega) _, by simp <;> omega, S1.setRow _, Hid.mk' (pr_len _ _), Hid.mk' (low_succ hlow.out hd.out), Hid.mk' (wt_up hW.out hd.out hrt.out)⟩
        case measure => simp [intOf]; omega
    | false =>
      rw [hd] at hsec
      have hd : Hid ((n / 2 ^ k) % 2 = 0) := Hid.mk' (by have := of_decide_eq_false hd; omega)
      have hth : wr.there g (k * 32) 32 := fun j hj => by
        have := there_below hL.th hbl hgl (k * 32 + j) (by omega)
        rwa [Nat.zero_add] at this
      go_wp2_with (first
        | (go_at_call 102; go_must (refine (hsec _).mono ?_; rintro e w2 ⟨rfl, rfl⟩)))
      refine wp_region_held_drew (S := fun _ => True) (by kernel_rfl) trivial (fun hHeld => ?_)
      refine wpAnyH_take (i := 0) (oi := ⟨_, _, _, _, _, _⟩) (v := ?_) rfl (by kernel_rfl) (by kernel_rfl) (by kernel_rfl) (fun _ _ _ h => h) (Or.inl ⟨by rfl, ?_⟩) (by assumption) ?_
      rotate_left
      · intro u hSw
        go_simp
        try (with_reducible rfl)
      try simp only [Act.put, List.setIfInBounds_toArray, List.set_cons_zero, List.set_cons_succ]
      refine wpAnyH_take (i := 1) (oi := ⟨_, _, _, _, _, _⟩) (v := ?_) rfl (by kernel_rfl) (by kernel_rfl) (by kernel_rfl) (fun _ _ _ h => h) (Or.inl ⟨by rfl, ?_⟩) (by assumption) ?_
      rotate_left
      · intro u hSw
        go_simp
        try (with_reducible rfl)
      try simp only [Act.put, List.setIfInBounds_toArray, List.set_cons_zero, List.set_cons_succ]
      refine wpAnyH_take (i := 3) (oi := ⟨_, _, _, _, _, _⟩) (v := ?_) rfl (by kernel_rfl) (by kernel_rfl) (by kernel_rfl) (fun _ _ _ h => h) (Or.inl ⟨by rfl, ?_⟩) (by assumption) ?_
      rotate_left
      · intro u hSw
        go_simp
        try (with_reducible rfl)
      try simp only [Act.put, List.setIfInBounds_toArray, List.set_cons_zero, List.set_cons_succ]
      refine wpAnyH_ready (rs := [2]) (by kernel_rfl) (by simp) ?_
      refine AllReadyH.cons (o := ⟨_, _, _, _, _, _⟩) rfl (fun K hK => ?_) AllReadyH.nil
      refine step_want rfl (wp_load_mid 32 (.tmp 6) rfl (w.heap.size + 1) 0 rfl (by8 r) _ R1.drew.range Try.underlying32 rfl (by rw [by8_len, hr.out]; exact size24) ?_)
      refine hK.out _ _ trivial (fun hHeld => ?_)
      clear hK K
      try simp only [Act.put, List.setIfInBounds_toArray, List.set_cons_zero, List.set_cons_succ]
      refine wpAnyH_take (i := 4) (oi := ⟨_, _, _, _, _, _⟩) (v := ?_) rfl (by kernel_rfl) (by kernel_rfl) (by kernel_rfl) (fun _ _ _ h => h) (Or.inl ⟨by rfl, ?_⟩) (by assumption) ?_
      rotate_left
      · intro u hSw
        go_simp
        try (with_reducible rfl)
      try simp only [Act.put, List.setIfInBounds_toArray, List.set_cons_zero, List.set_cons_succ]
      refine wpAnyH_ready (rs := [5]) (by kernel_rfl) (by simp) ?_
      refine AllReadyH.cons (o := ⟨_, _, _, _, _, _⟩) rfl (fun K hK => ?_) AllReadyH.nil
      refine step_want rfl (wp_store_mid 32 (.tmp 25) (.tmp 23) rfl g (k * 32) (h8 r) rfl rfl (by rw [h8_size, hr.out]; exact (World.there_drew _ _ _ _).2 hth) (s24h8 hr.out) (h8_one _) ?_)
      refine hK.out _ _ trivial (fun hHeld => ?_)
      clear hK K
      refine wpAnyH_done (by kernel_rfl) ?_ _
      go_end0
      exact ⟨⟨_, rfl⟩, _, k, r, hbl.drew, by omega, hr.out, rfl, wt_stay hW.out hd.out hlow.out hrt.out⟩
end Go.Proofs.Ytbfelelngoonjaa
/- Layer oracle: what the layers below give. -/
namespace Go.Proofs.Ytbfelelngoonjaa
open Go.RowKit
set_option maxRecDepth 100000
set_option linter.unusedVariables false
set_option linter.unusedSimpArgs false

theorem conv_bytes (sp : Option Addr) (n cap : Nat) (L : List Int) (w : World) (hn : n = L.length) (hnil : sp = none → n = 0 ∧ cap = 0) (hS : SlL w sp L) :
    (convert 29 9 (.slice sp n cap)).run Try.prog w = .ok (.string (strOfNums L)) w := by
  subst hn
  cases sp with
  | none =>
    obtain ⟨h1, rfl⟩ := hnil rfl
    obtain rfl : L = [] := List.eq_nil_of_length_eq_zero h1
    exact run_convert_bytes_nil w 29 5 Try.underlying29 Try.underlying5 0 0 9 Try.underlying9
  | some ad =>
    by_cases h0 : 0 < L.length
    · obtain ⟨b, off, e, hB⟩ := hS h0
      obtain rfl := Option.some.inj e
      exact run_convert_bytes_arg w 29 5 Try.underlying29 Try.underlying5 b off L.length cap L rfl hB 9 Try.underlying9
    · obtain rfl : L = [] := List.eq_nil_of_length_eq_zero (by omega)
      rw [run_convert_bytes_string w 29 9 5 _ _ cap Try.underlying29 Try.underlying5 Try.underlying9]
      have hl : (loadCells ad 0).run Try.prog w = .ok ((([] : List Int).map (Value.int .u8)).toArray) w := by simp [loadCells, loadCellsFrom]
      have := run_bytesToString w ad 0 cap [] hl
      exact this
end Go.Proofs.Ytbfelelngoonjaa
