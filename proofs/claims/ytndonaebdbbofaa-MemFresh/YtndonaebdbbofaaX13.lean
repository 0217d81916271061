/- Tu, Tp, Mo, Cd, Mp, Mt. -/
import Derived.Test.YtndonaebdbbofaaX02
import Derived.Test.YtndonaebdbbofaaX03
import Derived.Test.YtndonaebdbbofaaX05
import Derived.Test.YtndonaebdbbofaaX06
import Derived.Test.YtndonaebdbbofaaX12
import Derived.BigQuiet
import Derived.BigRegion
import Derived.ChangeKeysEq
import Derived.Deep.DeepCutAuto
import Derived.Deep.DrawnRows
import Derived.Deep.QuietTactic
import Derived.Deep.RegionHeld3
import Derived.Deep.RegionLaw
import Derived.Deep.RegionWith
import Derived.Deep.WholeRow
import Derived.Laws.AppendOwnNone
import Derived.Laws.BytesArg
import Derived.Laws.CopyOwn
import Derived.Lib.SlBytesConst
import Derived.WalkKit
import Derived.WalkLawsBesides
import Derived.WalkSpells
import Derived.Test.YtndonaebdbbofaaX01
import Derived.ChangeOld
import Derived.OpenShut
import Derived.ProofKit
import Derived.ShutString
import Derived.SizedLaws
import Derived.Test.YtndonaebdbbofaaX07
import Derived.Test.YtndonaebdbbofaaX11
import Derived.Test.YtndonaebdbbofaaX10
import Derived.Deep.MidRow
import Derived.Great.BuildSlice
import Derived.Great.FillDense
import Derived.Laws.BitsLemmas
import Derived.Laws.OwnMore
import Derived.LoopIn
import Derived.LoopNIn
import Derived.OwnWalkIn
import Derived.RangeFuncBound
import Derived.RangeFuncCalls
import Derived.RangeFuncLeaves
import Derived.RangeFuncNested
import Derived.RangeFuncRecord
import Derived.Shelf.Abstract
import Derived.Shelf.RegionOpen
import Derived.TacticsInMore
import Derived.Test.YtndonaebdbbofaaRows
/- Layer mem: what the layers below give. -/
namespace Go.Proofs.Ytndonaebdbbofaa
open Go.RowKit
set_option maxRecDepth 100000
set_option linter.unusedVariables false
set_option linter.unusedSimpArgs false

/-- Sum of whatever slice. -/
theorem sum_sl (sp : Option Addr) (n cap : Nat) (L : List Int) (w : World) (hn : n = L.length) (hnil : sp = none → n = 0 ∧ cap = 0) (hS : SlL w sp L) (hcap : n ≤ cap) (hb : n ≤ 140737488355328) :
    Calls Try.prog 52 #[.slice sp n cap] w fun e w' => e = .returned (.agg (sha L)) ∧ Below w.heap.size w w' := by
  by_cases h0 : 0 < L.length
  · obtain ⟨b, off, rfl, hB⟩ := hS h0
    subst hn
    exact sum_list b off cap L w hB hcap hb
  · obtain rfl : L = [] := List.eq_nil_of_length_eq_zero (by omega)
    simp only [List.length_nil] at hn
    subst hn
    have key : ∀ (e : Ending) (w' : World), (∃ C : Array Value, e = .returned (.agg C) ∧ C.size = 32 ∧ (∀ t, t < 32 → C[t]? = some (.int .u8 (outB (shaSt (bat []) 0 0) t))) ∧ Below w.heap.size w w') → e = .returned (.agg (sha [])) ∧ Below w.heap.size w w' := by
      rintro e w' ⟨C, rfl, hs, hC, hb⟩
      exact ⟨by rw [arr_eq hs hC]; rfl, hb⟩
    cases sp with
    | none =>
      obtain ⟨-, rfl⟩ := hnil rfl
      exact (sum_none (bat []) w).mono fun e w' h => key e w' h
    | some ad =>
      by_cases hc : 0 < cap
      · exact (sum_ad ad cap hc (bat []) w).mono fun e w' h => key e w' h
      · obtain rfl : cap = 0 := by omega
        exact (sum_ad0 ad (bat []) w).mono fun e w' h => key e w' h
theorem Bytes.take {w : World} {b off : Nat} {L M : List Int} (h : Bytes w b off (L ++ M).length (bat (L ++ M))) : Bytes w b off L.length (bat L) := fun t ht => by
  rw [h t (by simp; omega)]; simp [bat, List.getElem?_append_left ht]
end Go.Proofs.Ytndonaebdbbofaa
/- Layer mem: what the layers below give. -/
namespace Go.Proofs.Ytndonaebdbbofaa
open Go.ChangeAt Go.ChangeShapes Go.RowKit Go.WideShapes
set_option maxRecDepth 100000
set_option linter.unusedVariables false
set_option linter.unusedSimpArgs false

theorem own : ownKnob Try.prog.godebug = none := by kernel_rfl
theorem laidOut : laidOutB Try.prog = true := by kernel_rfl
/-- AN ARRAY OF INTEGERS BY VALUE. -/
theorem open_arr {H : Type} {enc : TypeId × Value → H} {P : Program} {w : World} {base : Nat} {spare : Nat → Bool} {held : Bool} {r : Reach} {b0 : Nat} {t e n : Nat} {k : IntKind} {v : Value} {d : DataW H} {p : List MemPlace} (hu : P.underlying t = some (.array n e)) (he : P.underlying e = some (.int k)) (hc : P.cellsOf t = n) (hce : P.cellsOf e = 1)
    (hv : Value.okWide P w r b0 t v) (h : DataW.Trod enc P w base spare held t v d p) :
    ∃ X : List Int, X.length = n ∧ v = .agg (X.map (Value.int k)).toArray ∧ ∀ x ∈ X, (Lit.int k x).wf = true := by
  unfold Value.okWide at hv
  rw [hu] at hv
  obtain ⟨cs, rfl, hsz, -⟩ := hv
  obtain ⟨fuel, hf⟩ := h
  obtain ⟨xs, m, -, hx, hl, hxs, hi⟩ := DataW.trod_array hu hf
  have key : ∀ i, i < n → ∃ z, cs[i]? = some (.int k z) ∧ (Lit.int k z).wf = true := fun i hin => by
    have := hi i hin
    rw [List.getElem?_eq_getElem (by omega), hce] at this
    obtain ⟨z, hz, -, hwf⟩ := DataW.trod_int he this
    refine ⟨z, ?_, hwf⟩
    simp only [Value.cells, Nat.mul_one] at hz
    have h2 : (List.take 1 (List.drop i cs.toList))[0]? = some (.int k z) := by rw [hz]; rfl
    simpa using h2
  refine ⟨cs.toList.map fun v => match v with | .int _ z => z | _ => 0, by simp; omega, ?_, ?_⟩
  · congr 1
    apply Array.ext_getElem?
    intro i
    by_cases hin : i < n
    · obtain ⟨z, hz, -⟩ := key i hin
      simp [hz]
    · rw [Array.getElem?_eq_none (by omega), Array.getElem?_eq_none (by simp; omega)]
  · intro x hx
    obtain ⟨v, hv, rfl⟩ := List.mem_map.1 hx
    obtain ⟨i, hin, rfl⟩ := List.mem_iff_getElem.1 hv
    obtain ⟨z, hz, hwf⟩ := key i (by simp at hin; omega)
    have : cs.toList[i]? = some (.int k z) := by simpa using hz
    rw [List.getElem?_eq_getElem hin] at this
    rw [Option.some.inj this]; exact hwf
end Go.Proofs.Ytndonaebdbbofaa
/- Layer mem: what the layers below give. -/
namespace Go.Proofs.Ytndonaebdbbofaa
open Go.RowKit Go.Shelf
set_option maxRecDepth 100000
set_option linter.unusedVariables false
set_option linter.unusedSimpArgs false
attribute [local go_sem] Oper.semAt_some

theorem info24 : (Try.prog.info? 43).map (fun i => (i.zero, i.size, i.bytes)) = some (some (.agg (h8 Z32)), 32, 32) := by kernel_rfl
/-- Sums one behind the other. -/
def flat32 (ls : List (List Int)) : List Value := (ls.map by8).flatten
theorem flat32_app (ls : List (List Int)) (X : List Int) : flat32 (ls ++ [X]) = flat32 ls ++ by8 X := by simp [flat32]
theorem wp_bld1 {o : Oper} {a : Act} {w : World} {K : Act → World → Prop} {Q : Exit → Act → World → Prop} (x : Operand) (ho : o.op = .buildSlice 36 1 #[(0, x)]) (X : List Int) (hx : a.eval x = .agg (h8 X)) (hX : X.length = 32)
    (h : K (a.put o.dst (.slice (some ⟨w.heap.size, 0, none⟩) 1 1)) (w.alloc (.cells (h8 X) 43))) : o.wp Try.prog a w K Q := by
  obtain ⟨i0, hi0, hz0, hz1, hz2⟩ := info_parts info24
  refine wp_buildSlice 36 43 1 _ ho (h8 X) i0 (.agg (h8 Z32)) Try.underlying36 hi0 hz0 (by rw [hz1]; omega) (by rw [hz1]; omega) ?_ h
  have e : (#[(0, x)].map fun (p : Nat × Operand) => (p.1, a.eval p.2)).toList = ([Value.agg (h8 X)].zipIdx 0).map fun x => (x.2, x.1) := by simp [hx]
  rw [hz1]
  refine Eq.trans (congrArg _ e) ?_
  rw [Great.fill_whole (s := 32) (by omega) [.agg (h8 X)] _ (fun v hv => by simp only [List.mem_singleton] at hv; rw [hv]; show (h8 X).size = 32; rw [h8_size, hX]) (by simp)]
  simp [Value.cells, h8]
/-- Proof's variables, when k levels are done. -/
structure PI (i d n cap : Nat) (sp : Option Addr) (ls : List (List Int)) (B : Nat) (w : World) (k : Nat) (W : World) : Prop where
  bel : Below w.heap.size w W
  a0 : Arr W w.heap.size 36 #[.slice sp n cap]
  a1 : Arr W (w.heap.size + 1) 3 #[.int .i64 i]
  own : W.ownsRow (w.heap.size + 2) 43 32 (.slice (some ⟨w.heap.size + 1 + 1, 0, none⟩) k d) k (flat32 (pf k ls i))
  a2 : Arr W B 36 #[.slice (some ⟨w.heap.size + 1 + 1, 0, none⟩) k d]
  a3 : Arr W (B + 1) 3 #[.int .i64 d]
theorem PI.below {i d n cap : Nat} {sp : Option Addr} {ls : List (List Int)} {B : Nat} {w : World} {k : Nat} {W W' : World} (h : PI i d n cap sp ls B w k W) (hB : w.heap.size + 3 ≤ B) (hb : Below (B + 2) W W') : PI i d n cap sp ls B w k W' :=
  ⟨h.bel.trans (hb.mono (by omega)), h.a0.below hb (by omega), h.a1.below hb (by omega), own_same h.own (fun k hk => hb.block k (by simp [Value.ownBlock] at hk; omega)), h.a2.below hb (by omega), h.a3.below hb (by omega)⟩
end Go.Proofs.Ytndonaebdbbofaa
/- Layer mem: what the layers below give. -/
namespace Go.Proofs.Ytndonaebdbbofaa
open Go.RowKit
set_option maxRecDepth 100000
set_option linter.unusedVariables false
set_option linter.unusedSimpArgs false

theorem y24 {ops : Array Oper} {S : World → Prop} {op : Oper} {a : Act} (hw : Region.wanted op (yielded ops a.tmps) = true) (x : Operand) (ho : op.op = .load 43 x)
    (b o : Nat) (hx : a.eval x = .pointer (some ⟨b, o, none⟩)) (X : List Int) (hX : X.length = 32) (hS : ∀ w, S w → w.rangeAt b o (by8 X)) : YieldsIf Try.prog ops S op (.agg (h8 X)) a :=
  yieldsIf_load_mid hw 43 x ho b o hx (by8 X) _ hS Try.underlying43 rfl (by rw [by8_len, hX]; exact size24)
end Go.Proofs.Ytndonaebdbbofaa
/- Layer mem: what the layers below give. -/
namespace Go.Proofs.Ytndonaebdbbofaa
open Go.RowKit Go.Shelf
set_option maxRecDepth 100000
set_option linter.unusedVariables false
set_option linter.unusedSimpArgs false

theorem flat32_len {ls : List (List Int)} (h : ∀ x ∈ ls, x.length = 32) : (flat32 ls).length = ls.length * 32 := by
  induction ls with
  | nil => rfl
  | cons a r ih =>
    have := ih (fun x hx => h x (by simp [hx]))
    have ha := h a (by simp)
    simp only [flat32, List.map_cons, List.flatten_cons, List.length_append, by8_len, List.length_cons] at this ⊢
    omega
theorem flat32_at {ls : List (List Int)} (h : ∀ x ∈ ls, x.length = 32) {i : Nat} {X : List Int} (hX : ls[i]? = some X) {j : Nat} {v : Value} (hv : (by8 X)[j]? = some v) : (flat32 ls)[i * 32 + j]? = some v := by
  induction ls generalizing i with
  | nil => simp at hX
  | cons a r ih =>
    have ha := h a (by simp)
    have hj : j < 32 := by
      have := (List.getElem?_eq_some_iff.1 hv).1
      rw [by8_len, h X (List.mem_of_getElem? hX)] at this; exact this
    simp only [flat32, List.map_cons, List.flatten_cons]
    cases i with
    | zero =>
      simp at hX
      subst hX
      rw [List.getElem?_append_left (by rw [by8_len, ha]; omega)]
      simpa using hv
    | succ i =>
      have := ih (fun x hx => h x (by simp [hx])) (i := i) (by simpa using hX)
      rw [List.getElem?_append_right (by rw [by8_len, ha]; omega), by8_len, ha, show (i + 1) * 32 + j - 32 = i * 32 + j by omega]
      exact this
/-- A slice of the call's own, read. -/
theorem own_hs {w : World} {base n : Nat} {v : Value} {ls : List (List Int)} (h : w.ownsRow base 43 32 v n (flat32 ls)) (hl : ∀ x ∈ ls, x.length = 32) (hn : n = ls.length) (hsm : n ≤ 1000000) : ∃ sp cap, v = .slice sp n cap ∧ HS w.heap.size w sp n cap ls ∧ ∀ b off, sp = some ⟨b, off, none⟩ → base ≤ b := by
  obtain ⟨-, h | ⟨g, cap, cur, rfl, hg, hh, hnc, hcm, hc, ht⟩⟩ := h
  · obtain ⟨rfl, rfl⟩ := h
    obtain rfl : ls = [] := List.eq_nil_of_length_eq_zero hn.symm
    exact ⟨none, 0, rfl, HS.nil0 _ _, fun b off e => by cases e⟩
  · refine ⟨_, cap, rfl, ⟨hn, (fun e => by cases e), hnc, by unfold maxLen at hcm; omega, by omega, fun h0 => ⟨g, 0, rfl, (Array.getElem?_eq_some_iff.1 hh).1, fun i X hX j u hu => ?_⟩, hl⟩, fun b off e => by cases e; exact hg⟩
    have hi := (List.getElem?_eq_some_iff.1 hX).1
    have hj : j < 32 := by
      have := (List.getElem?_eq_some_iff.1 hu).1
      rw [by8_len, hl X (List.mem_of_getElem? hX)] at this; exact this
    rw [Nat.zero_add, cell_of_row w g _ cur 43 (0, 0) hh, ← Array.getElem?_toList, ← List.getElem?_take_of_lt (show i * 32 + j < n * 32 by omega), ht]
    exact flat32_at hl hX hu
theorem run_ne24 {X : List Int} (hX : X.length = 32) (w : World) : (binOp .neq 43 (.agg (h8 X)) (.agg (h8 X))).run Try.prog w = .ok (.bool false) w := by
  have h := run_eqIn24 hX hX w
  rw [decide_eq_true rfl] at h
  rw [run_neq_struct, h]
  rfl
set_option maxRecDepth 100000 in
set_option maxHeartbeats 1000000 in
theorem same_true (N N' : Nat) (sp sp' : Option Addr) (n cap cap' : Nat) (ls : List (List Int)) (w : World) (hS : HS N w sp n cap ls) (hS' : HS N' w sp' n cap' ls) :
    Calls Try.prog 16 #[.slice sp n cap, .slice sp' n cap'] w fun e w' => e = .returned (.bool true) ∧ Below w.heap.size w w' := by
  have hS0 := hS.here
  have hS0' := hS'.here
  have hl := hS.len
  have hsm := hS.small
  have hnn : ((n : Int) != n) = false := by simp
  go_enter Try.func16, Try.ntmps16
  go_wp2_with fail
  go_loopw [5] (fun q wr => ∃ j : Nat, q = .int .i64 (j : Int) ∧ j ≤ n ∧ Below w.heap.size w wr) (fun q _ => n - (intOf q).toNat)
  case atStart => exact ⟨0, rfl, by omega, Below.refl _ _⟩
  case round =>
    obtain ⟨j, rfl, hj, hbl⟩ := hrel
    have hS := hS0.below hbl
    have hS' := hS0'.below hbl
    by_cases hlt : j < n
    · have hI : (j : Int) < n := by omega
      obtain ⟨g, off, rfl, hgN, hR⟩ := hS.at0 (by omega)
      obtain ⟨g', off', rfl, hgN', hR'⟩ := hS'.at0 (by omega)
      obtain ⟨X, hX⟩ : ∃ X, ls[j]? = some X := ⟨ls[j]'(by rw [← hl.out]; exact hlt), List.getElem?_eq_getElem _⟩
      have hX32 := hS.l32 X (List.mem_of_getElem? hX)
      have h1 := hR j X hX
      have h2 := hR' j X hX
      have hne := run_ne24 hX32
      replace hX := Hid.mk' hX
      go_wp2_with fail
      refine wp_region_held_drew (S := fun u => u.rangeAt g (off + j * 32) (by8 X) ∧ u.rangeAt g' (off' + j * 32) (by8 X)) (by kernel_rfl) ⟨(World.rangeAt_drew _ _ _ _).2 h1, (World.rangeAt_drew _ _ _ _).2 h2⟩ (fun hHeld => ?_)
      refine wpAnyH_take (i := 0) (oi := ⟨_, _, _, _, _, _⟩) (v := ?_) rfl (by kernel_rfl) (by kernel_rfl) (by kernel_rfl) (fun _ _ _ h => h) (Or.inl ⟨by rfl, ?_⟩) (by assumption) ?_
      rotate_left
      · intro u hSw
        go_simp
        try (with_reducible rfl)
      try simp only [Act.put, List.setIfInBounds_toArray, List.set_cons_zero, List.set_cons_succ]
      refine wpAnyH_take (i := 1) (oi := ⟨_, _, _, _, _, _⟩) (v := ?_) rfl (by kernel_rfl) (by kernel_rfl) (by kernel_rfl) (fun _ _ _ h => h) (Or.inl ⟨by rfl, ?_⟩) (by assumption) ?_
      rotate_left
      · intro u hSw
        go_simp
        try (with_reducible rfl)
      try simp only [Act.put, List.setIfInBounds_toArray, List.set_cons_zero, List.set_cons_succ]
      refine wpAnyH_take (i := 2) (oi := ⟨_, _, _, _, _, _⟩) (v := ?_) rfl (by kernel_rfl) (by kernel_rfl) (by kernel_rfl) (fun _ _ _ h => h) (Or.inl ⟨by rfl, ?_⟩) (by assumption) ?_
      rotate_left
      · intro u hSw
        go_simp
        try (with_reducible rfl)
      try simp only [Act.put, List.setIfInBounds_toArray, List.set_cons_zero, List.set_cons_succ]
      refine wpAnyH_take (i := 3) (oi := ⟨_, _, _, _, _, _⟩) rfl (by kernel_rfl) (by kernel_rfl) (by kernel_rfl) (fun _ _ _ h => h) (y24 rfl (.tmp 19) rfl g (off + j * 32) rfl X hX32 (fun u hu => hu.1)) (by assumption) ?_
      try simp only [Act.put, List.setIfInBounds_toArray, List.set_cons_zero, List.set_cons_succ]
      refine wpAnyH_take (i := 4) (oi := ⟨_, _, _, _, _, _⟩) (v := ?_) rfl (by kernel_rfl) (by kernel_rfl) (by kernel_rfl) (fun _ _ _ h => h) (Or.inl ⟨by rfl, ?_⟩) (by assumption) ?_
      rotate_left
      · intro u hSw
        go_simp
        try (with_reducible rfl)
      try simp only [Act.put, List.setIfInBounds_toArray, List.set_cons_zero, List.set_cons_succ]
      refine wpAnyH_take (i := 5) (oi := ⟨_, _, _, _, _, _⟩) (v := ?_) rfl (by kernel_rfl) (by kernel_rfl) (by kernel_rfl) (fun _ _ _ h => h) (Or.inl ⟨by rfl, ?_⟩) (by assumption) ?_
      rotate_left
      · intro u hSw
        go_simp
        try (with_reducible rfl)
      try simp only [Act.put, List.setIfInBounds_toArray, List.set_cons_zero, List.set_cons_succ]
      refine wpAnyH_take (i := 6) (oi := ⟨_, _, _, _, _, _⟩) (v := ?_) rfl (by kernel_rfl) (by kernel_rfl) (by kernel_rfl) (fun _ _ _ h => h) (Or.inl ⟨by rfl, ?_⟩) (by assumption) ?_
      rotate_left
      · intro u hSw
        go_simp
        try (with_reducible rfl)
      try simp only [Act.put, List.setIfInBounds_toArray, List.set_cons_zero, List.set_cons_succ]
      refine wpAnyH_take (i := 7) (oi := ⟨_, _, _, _, _, _⟩) rfl (by kernel_rfl) (by kernel_rfl) (by kernel_rfl) (fun _ _ _ h => h) (y24 rfl (.tmp 23) rfl g' (off' + j * 32) rfl X hX32 (fun u hu => hu.2)) (by assumption) ?_
      try simp only [Act.put, List.setIfInBounds_toArray, List.set_cons_zero, List.set_cons_succ]
      refine wpAnyH_take (i := 8) (oi := ⟨_, _, _, _, _, _⟩) (v := ?_) rfl (by kernel_rfl) (by kernel_rfl) (by kernel_rfl) (fun _ _ _ h => h) (Or.inl ⟨by rfl, ?_⟩) (by assumption) ?_
      rotate_left
      · intro u hSw
        go_simp
        try (with_reducible rfl)
      try simp only [Act.put, List.setIfInBounds_toArray, List.set_cons_zero, List.set_cons_succ]
      refine wpAnyH_done (by kernel_rfl) ?_ _
      go_wp2_with fail
      go_roundw
      case rel => exact ⟨j + 1, by go_num, by omega, hbl.drew⟩
      case measure => simp [intOf]; omega
    · obtain rfl : j = n := by omega
      have hI : ¬ (j : Int) < j := by omega
      go_wp2
      go_ret
      exact ⟨rfl, hbl⟩
theorem wp_bld2 {o : Oper} {a : Act} {w : World} {K : Act → World → Prop} {Q : Exit → Act → World → Prop} (x y : Operand) (ho : o.op = .buildSlice 36 2 #[(0, x), (1, y)]) (X Y : List Int) (hx : a.eval x = .agg (h8 X)) (hy : a.eval y = .agg (h8 Y)) (hX : X.length = 32) (hY : Y.length = 32)
    (h : K (a.put o.dst (.slice (some ⟨w.heap.size, 0, none⟩) 2 2)) (w.alloc (.cells (flat32 [X, Y]).toArray 43))) : o.wp Try.prog a w K Q := by
  obtain ⟨i0, hi0, hz0, hz1, hz2⟩ := info_parts info24
  refine wp_buildSlice 36 43 2 _ ho (flat32 [X, Y]).toArray i0 (.agg (h8 Z32)) Try.underlying36 hi0 hz0 (by rw [hz1]; omega) (by rw [hz1]; omega) ?_ h
  have e : (#[(0, x), (1, y)].map fun (p : Nat × Operand) => (p.1, a.eval p.2)).toList = ([Value.agg (h8 X), Value.agg (h8 Y)].zipIdx 0).map fun x => (x.2, x.1) := by simp [hx, hy]
  rw [hz1]
  refine Eq.trans (congrArg _ e) ?_
  rw [Great.fill_whole (s := 32) (by omega) [.agg (h8 X), .agg (h8 Y)] _ (fun v hv => by
    simp only [List.mem_cons, List.not_mem_nil, or_false] at hv
    rcases hv with rfl | rfl
    · show (h8 X).size = 32; rw [h8_size, hX]
    · show (h8 Y).size = 32; rw [h8_size, hY]) (by simp)]
  simp [Value.cells, h8, flat32]
/-- A literal's slice. -/
theorem hs_lit {w : World} {g : Nat} {ls : List (List Int)} {m : Nat} (h : Arr w g 43 (flat32 ls).toArray) (hl : ∀ x ∈ ls, x.length = 32) (hm : m = ls.length) (hsm : m ≤ 1000) : HS w.heap.size w (some ⟨g, 0, none⟩) m m ls :=
  ⟨hm, (fun e => by cases e), Nat.le_refl _, by omega, by omega, fun h0 => ⟨g, 0, rfl, h.lt, fun i X hX j u hu => by
    rw [Nat.zero_add, h.cell]
    simpa using flat32_at hl hX hu⟩, hl⟩
theorem sum1 (b : Int) (w : World) (g : Nat) (hg : g = w.heap.size) : Calls Try.prog 54 #[.slice (some ⟨g, 0, none⟩) 1 1] (w.alloc (.cells #[.int .u8 b] 5)) fun e w' => e = .returned (.agg (h8 (shl [b]))) ∧ Below w.heap.size w w' := by
  subst hg
  refine (refSum_any (some ⟨w.heap.size, 0, none⟩) 1 1 [b] _ rfl (fun h => by cases h) (Arr.sl (Arr.new w 5 _)) (by omega)).mono ?_
  rintro e w' ⟨he, hb⟩
  rw [sha_h8] at he
  exact ⟨he, (alloc_bel' w _).trans (hb.mono (by simp))⟩
end Go.Proofs.Ytndonaebdbbofaa
/- Layer mem: what the layers below give. -/
namespace Go.Proofs.Ytndonaebdbbofaa
open Go.RowKit Go.Shelf
set_option maxRecDepth 100000
set_option linter.unusedVariables false
set_option linter.unusedSimpArgs false
attribute [local go_sem] Oper.semAt_some

/-- Why there is no proof. -/
def pE (d i : Int) (n : Nat) : Int := if (0 ≤ d ∧ d ≤ 16) ∧ 0 ≤ i ∧ i < (2 ^ d.toNat : Nat) then (if n ≤ 2 ^ d.toNat then 0 else 4) else 2
end Go.Proofs.Ytndonaebdbbofaa
