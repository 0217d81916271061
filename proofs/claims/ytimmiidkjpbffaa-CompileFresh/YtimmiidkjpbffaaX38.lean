/- S4, S5. -/
import Derived.Test.YtimmiidkjpbffaaX35
import Derived.Test.YtimmiidkjpbffaaX37
import Derived.Test.YtimmiidkjpbffaaX29
import Derived.Test.YtimmiidkjpbffaaX31
import Derived.Test.YtimmiidkjpbffaaX28
import Derived.BigQuiet
import Derived.BigRegion
import Derived.ChangeKeysEq
import Derived.Deep.DeepCutAuto
import Derived.Deep.DrawnRows
import Derived.Deep.MidRow
import Derived.Deep.QuietTactic
import Derived.Deep.RegionHeld3
import Derived.Deep.RegionLaw
import Derived.Deep.RegionWith
import Derived.Deep.WholeRow
import Derived.DeepKeys3
import Derived.Great.BuildSlice
import Derived.Handy
import Derived.Laws.AppendOwnNone
import Derived.Laws.BitsLemmas
import Derived.Laws.BytesArg
import Derived.Laws.CopyOwn
import Derived.Laws.ResultCell
import Derived.Laws.Tables
import Derived.Lib.SlBytesConst
import Derived.LoopIn
import Derived.LoopNIn
import Derived.LoopTactic
import Derived.Maps.AppendAt
import Derived.OwnWalkIn
import Derived.RangeFuncBound
import Derived.RangeFuncCalls
import Derived.RangeFuncLeaves
import Derived.RangeFuncNested
import Derived.RangeFuncRecord
import Derived.Shelf.Abstract
import Derived.Shelf.RegionOpen
import Derived.SizedLaws
import Derived.TacticsInMore
import Derived.WalkKit
import Derived.WalkLawsBesides
import Derived.WalkSpells
/- Layer compile: what a machine came to. -/
namespace Go.Proofs.Ytimmiidkjpbffaa
open Go.RowKit
set_option maxRecDepth 100000
set_option linter.unusedVariables false
set_option linter.unusedSimpArgs false

/-- Words somewhere. -/
structure DT (w : World) (sp : Option Addr) (n : Nat) (L : List Int) : Prop where
  len : Hid (n = L.length)
  few : n ≤ 4096
  at0 : 0 < n → ∃ g, sp = some ⟨g, 0, none⟩ ∧ g < w.heap.size ∧ ∀ (i : Nat) (x : Int), L[i]? = some x → w.cell? ⟨g, i, none⟩ = some (.int .u64 x)
theorem DT.bl {w w' : World} {sp : Option Addr} {n : Nat} {L : List Int} (h : DT w sp n L) (hb : Below w.heap.size w w') : DT w' sp n L :=
  ⟨h.len, h.few, fun h0 => let ⟨g, e, hg, hc⟩ := h.at0 h0; ⟨g, e, by have := hb.size; omega, fun i x hx => (hb.cell (p := ⟨g, i, none⟩) hg).trans (hc i x hx)⟩⟩
set_option maxHeartbeats 1000000 in
theorem sameT_any {s1 v1 k1 s2 v2 k2 : Int} {sp sq : Option Addr} {n m c1 c2 : Nat} {L M : List Int} (w : World) (h1 : DT w sp n L) (h2 : DT w sq m M) :
    Calls Try.prog 11 #[.agg (ouA s1 v1 sp n c1 k1), .agg (ouA s2 v2 sq m c2 k2)] w (BoP (decide (s1 = s2 ∧ v1 = v2 ∧ k1 = k2 ∧ L = M)) w) := by
  have b0 : Below w.heap.size w ((w.alloc (.cells (ouA s1 v1 sp n c1 k1) 36)).alloc (.cells (ouA s2 v2 sq m c2 k2) 36)) := (ab w _).alloc (by simp) _
  have hl1 := h1.len
  have hl2 := h2.len
  by_cases e1 : s1 = s2
  rotate_left
  · rw [decide_eq_false (fun h => e1 h.1)]
    have g1 : (s1 != s2) = true := by simpa using e1
    clear h1 h2 hl1 hl2 e1
    unfold ouA at *
    go_enter Try.func11, Try.ntmps11
    go_wp2_with fail
    go_ret
    exact ⟨rfl, b0⟩
  by_cases e2 : v1 = v2
  rotate_left
  · rw [decide_eq_false (fun h => e2 h.2.1)]
    have g2 : (v1 != v2) = true := by simpa using e2
    subst e1
    clear h1 h2 hl1 hl2 e2
    unfold ouA at *
    go_enter Try.func11, Try.ntmps11
    go_wp2_with fail
    go_ret
    exact ⟨rfl, b0⟩
  by_cases e3 : k1 = k2
  rotate_left
  · rw [decide_eq_false (fun h => e3 h.2.2.1)]
    have g3 : (k1 != k2) = true := by simpa using e3
    subst e1 e2
    clear h1 h2 hl1 hl2 e3
    unfold ouA at *
    go_enter Try.func11, Try.ntmps11
    go_wp2_with fail
    go_ret
    exact ⟨rfl, b0⟩
  by_cases e4 : n = m
  rotate_left
  · rw [decide_eq_false (fun h => e4 (by rw [hl1.out, hl2.out, h.2.2.2]))]
    have g4 : ((n : Int) != (m : Int)) = true := by simp; omega
    subst e1 e2 e3
    clear h1 h2 hl1 hl2 e4
    unfold ouA at *
    go_enter Try.func11, Try.ntmps11
    go_wp2_with fail
    go_ret
    exact ⟨rfl, b0⟩
  subst e1 e2 e3 e4
  obtain ⟨r, hr⟩ : ∃ r, r = decide (s1 = s1 ∧ v1 = v1 ∧ k1 = k1 ∧ L = M) := ⟨_, rfl⟩
  rw [← hr]
  replace hr : Hid (r = decide (L = M)) := hid (by rw [hr]; simp)
  have A1 := (Arr.new w 36 (ouA s1 v1 sp n c1 k1)).alloc (.cells (ouA s1 v1 sq n c2 k1) 36)
  have A2 := Arr.new (w.alloc (.cells (ouA s1 v1 sp n c1 k1) 36)) 36 (ouA s1 v1 sq n c2 k1)
  simp only [World.size_alloc] at A2
  have h1' := h1.bl b0
  have h2' := h2.bl b0
  have hn10 := h1.few
  have q1 := A1.cell 2
  have q2 := A2.cell 2
  unfold ouA at *
  go_enter Try.func11, Try.ntmps11
  go_upto_region 4 with fail
  generalize hU : (w.alloc (.cells #[.int .u8 s1, .int .u64 v1, .slice sp n c1, .int .i64 k1] 36)).alloc (.cells #[.int .u8 s1, .int .u64 v1, .slice sq n c2, .int .i64 k1] 36) = U at *
  go_loopw [5] (fun i wr => ∃ (j : Nat), i = .int .i64 (j : Int) ∧ j ≤ n ∧ Hid (∀ p, wr.cell? p = U.cell? p) ∧ Below w.heap.size w wr ∧ Hid (L.take j = M.take j))
    (fun i _ => n - (intOf i).toNat)
  case atStart => exact ⟨0, rfl, by omega, hid (fun _ => rfl), b0, hid (by simp)⟩
  case round =>
    obtain ⟨j, rfl, hj, hcl, b0', hf⟩ := hrel
    by_cases hlt : j < n
    · obtain ⟨g1, rfl, hg1, hc1⟩ := h1'.at0 (by omega)
      obtain ⟨g2, rfl, hg2, hc2⟩ := h2'.at0 (by omega)
      obtain ⟨x, hx⟩ : ∃ x, L[j]? = some x := ⟨L[j]'(by rw [← hl1.out]; exact hlt), List.getElem?_eq_getElem _⟩
      obtain ⟨y, hy⟩ : ∃ y, M[j]? = some y := ⟨M[j]'(by rw [← hl2.out]; exact hlt), List.getElem?_eq_getElem _⟩
      have d1 : wr.cell? ⟨g1, j, none⟩ = some (.int .u64 x) := (hcl.out _).trans (hc1 j x hx)
      have d2 : wr.cell? ⟨g2, j, none⟩ = some (.int .u64 y) := (hcl.out _).trans (hc2 j y hy)
      have d3 : wr.cell? ⟨w.heap.size, 2, none⟩ = some (.slice (some ⟨g1, 0, none⟩) n c1) := (hcl.out _).trans q1
      have d4 : wr.cell? ⟨w.heap.size + 1, 2, none⟩ = some (.slice (some ⟨g2, 0, none⟩) n c2) := (hcl.out _).trans q2
      have hlt' : (j : Int) < n := by omega
      have h0 : (0 : Int) ≤ j := by omega
      by_cases hxy : x = y
      · subst hxy
        have hf2 : Hid (L.take (j + 1) = M.take (j + 1)) := hid (by rw [List.take_add_one, List.take_add_one, hf.out, hx, hy])
        clear hx hy hc1 hc2 h1 h2 h1' h2' hl1 hl2 A1 A2 q1 q2
        go_upto_region 6 with fail
        go_quiet (fail)
        go_wp2_with fail
        go_roundw
        case rel => exact ⟨j + 1, by go_num, by omega, hid (fun p => hcl.out p), dwN b0' _, hf2⟩
        case measure => simp [intOf]; omega
      · have hrn : Hid (r = false) := hid (by
          rw [hr.out]
          refine decide_eq_false (fun e => hxy ?_)
          rw [e, hy] at hx
          exact (Option.some.inj hx).symm)
        have hxy' : (x != y) = true := by simpa using hxy
        clear hx hy hc1 hc2 h1 h2 h1' h2' hl1 hl2 A1 A2 q1 q2 hxy
        go_upto_region 6 with fail
        go_quiet (fail)
        go_wp2_with fail
        go_ret
        rw [hrn.out]
        exact ⟨rfl, dwN b0' _⟩
    · obtain rfl : j = n := by omega
      have hrn : Hid (r = true) := hid (by
        rw [hr.out]
        refine decide_eq_true ?_
        have h3 := hf.out
        rw [List.take_of_length_le (by rw [← hl1.out]; omega), List.take_of_length_le (by rw [← hl2.out]; omega)] at h3
        exact h3)
      have d3 : wr.cell? ⟨w.heap.size, 2, none⟩ = some (.slice sp j c1) := (hcl.out _).trans q1
      clear h1 h2 h1' h2' hl1 hl2 A1 A2
      go_wp2_with fail
      go_ret
      rw [hrn.out]
      exact ⟨rfl, b0'⟩

theorem wp_append_words {N : Nat} {o : Oper} {a : Act} {w : World} {K : Act → World → Prop} {Q : Exit → Act → World → Prop} (s x : Operand)
    (ho : o.op = .call { callee := .builtin .append, args := #[s, x], argTypes := #[22, 22] })
    (base : Nat) (v : Value) (hs : a.eval s = v) (hown : w.ownsRow base 25 1 v 0 (by64 []))
    (sp : Option Addr) (n c : Nat) (L : List Int) (hx : a.eval x = .slice sp n c) (hS : MS N w sp n c L) (hbase : base ≤ w.heap.size)
    (h : ∀ v' w', w'.ownsRow base 25 1 v' n (by64 L) → w.grownBy w' v.ownBlock → K (a.put o.dst v') w') : o.wp Try.prog a w K Q := by
  obtain ⟨i0, hi, hz0, hz1, hz2⟩ := info_parts info30
  have hl := hS.len.out
  cases sp with
  | none =>
    obtain ⟨rfl, rfl⟩ := hS.nil rfl
    obtain rfl : L = [] := List.eq_nil_of_length_eq_zero hl.symm
    have hrun := run_append_owned_none (P := Try.prog) (w := w) base 22 o.type 25 i0 1 Try.underlying22 hi v 0 _ hown
    unfold Oper.wp
    simp [execOp, ho, resolve, invoke, builtin, hs, hx, hrun, Result.andThen]
    exact h v w hown ⟨rfl, rfl, rfl, Nat.le_refl _, fun _ _ _ => rfl⟩
  | some ad =>
    have hsm := hS.small
    refine wp_append_own w s x 22 ho base 25 i0 (.int .u64 0) 1 8 Try.underlying22 hi hz0 hz1 hz2 rfl (by omega) v 0 _ hs hown ad n c (by64 L) hx (by rw [by64_len]; omega) ?_ (by64_one L) (by unfold maxLen; omega) (by omega) hbase ?_
    · intro j u hj
      have hjl : j < L.length := by have := (List.getElem?_eq_some_iff.1 hj).1; rwa [by64_len] at this
      obtain ⟨b, off, e, -, hB⟩ := hS.at0 (by omega)
      obtain rfl := Option.some.inj e
      rw [by64_get hjl] at hj
      rw [Addr.add_mid, hB j (by omega)]; exact hj
    · intro v' w' h1 h2 _
      exact h v' w' (by simpa [by64] using h1) h2
theorem dt_of_own {w : World} {base n : Nat} {v : Value} {L : List Int} (h : w.ownsRow base 25 1 v n (by64 L)) (hn : n ≤ 4096) (hl : n = L.length) : ∃ sp cap, v = .slice sp n cap ∧ DT w sp n L ∧ (0 < n → ∃ g, sp = some ⟨g, 0, none⟩ ∧ base ≤ g) ∧ n ≤ cap ∧ cap ≤ 9223372036854775807 := by
  by_cases h0 : 0 < n
  · obtain ⟨g, cap, rfl, hl, hb, hc, hc2, hM⟩ := own64 h h0
    refine ⟨some ⟨g, 0, none⟩, cap, rfl, ⟨hid hl, hn, fun _ => ⟨g, rfl, hM.lt, fun i x hx => ?_⟩⟩, fun _ => ⟨g, rfl, hb⟩, hc, hc2⟩
    have hi : i < L.length := (List.getElem?_eq_some_iff.1 hx).1
    rw [hM.cell hi, List.getD_eq_getElem?_getD, hx]; rfl
  · obtain rfl : n = 0 := by omega
    rcases h.2 with ⟨e, e2⟩ | ⟨g, c, cur, e, -, -, h2, h3, -⟩
    · exact ⟨none, 0, e, ⟨hid hl, by omega, fun h => by omega⟩, fun h => by omega, Nat.le_refl _, by omega⟩
    · unfold maxLen at h3
      exact ⟨_, c, e, ⟨hid hl, by omega, fun h => by omega⟩, fun h => by omega, h2, by omega⟩
/-- A part of words. -/
theorem MS.sub {N : Nat} {w : World} {a : Addr} {n cap : Nat} {L : List Int} (h : MS N w (some a) n cap L) {b d : Nat} (hbd : b + d ≤ n) :
    MS N w (if cap = b then some a else some (a.add b)) d (cap - b) ((L.drop b).take d) := by
  have hl := h.len.out
  have h1 := h.le
  have h2 := h.big
  have h3 := h.small
  refine ⟨hid (by rw [List.length_take, List.length_drop]; omega), fun e => (by split at e <;> cases e), by omega, by omega, by omega, fun h0 => ?_⟩
  obtain ⟨g, off, e, hg, hc⟩ := h.at0 (by omega)
  obtain rfl := Option.some.inj e
  rw [if_neg (by omega)]
  refine ⟨g, off + b, by rw [Addr.add_mid], hg, fun t ht => ?_⟩
  have := hc (b + t) (by omega)
  rw [← Nat.add_assoc] at this
  rw [this, List.getD_eq_getElem?_getD, List.getD_eq_getElem?_getD, List.getElem?_take, if_pos ht, List.getElem?_drop]
/-- Clone of words that are there, be they none. -/
theorem clone_dt {N : Nat} (P : Addr) (n cap : Nat) (L : List Int) (w : World) (hS : MS N w (some P) n cap L) (hn : n ≤ 4096) :
    Calls Try.prog 20 #[.slice (some P) n cap] w fun e w' => ∃ sp cap', e = .returned (.slice sp n cap') ∧ DT w' sp n L ∧ (0 < n → ∃ g, sp = some ⟨g, 0, none⟩ ∧ w.heap.size ≤ g) ∧ Below w.heap.size w w' := by
  have q22 : ∀ (w : World) (a : Option Addr) (n c n' c' : Nat), (binOp .eql 22 (.slice a n c) (.slice none n' c')).run Try.prog w = .ok (.bool a.isNone) w := fun w a n c n' c' => Lib.run_eql_slice_nil w _ _ a n c n' c' Try.underlying22
  have hlit : (w.alloc (.cells #[] 25)).ownsRow w.heap.size 25 1 (.slice (some ⟨w.heap.size, 0, none⟩) 0 0) 0 (by64 []) := World.ownsRow_lit _ _ _ (Nat.le_refl _) (by unfold maxLen; omega) rfl
  have hS' := hS.here.below (alloc_bel' w (.cells #[] 25))
  have hl := hid hS.len.out
  clear hS
  go_enter Try.func20, Try.ntmps20
  go_wp2_with (at_builtin; go_must (refine append_words (by rfl) (.tmp 5) (.tmp 6) (by rfl) w.heap.size _ (by rfl) hlit (some P) n cap L (by rfl) hS' (by simp) ?_; intro v1 w1 hown1 hg1))
  obtain ⟨sp, cap', rfl, hD, hg, hc⟩ := dt_of_own hown1 hn hl.out
  go_ret
  exact ⟨sp, cap', rfl, hD, hg, ((Below.refl _ _).alloc (Nat.le_refl _) _).grown hg1 (by simp) (fun k e => by simp [Value.ownBlock] at e; omega)⟩
/-- What an image's machine came to. -/
def rsOk (n : Nat) (b d : Int) (m : Mc) : Bool := imOk n b d && (mayM m && decide (m.me.length = n))
def rsS (n : Nat) (b d : Int) (m : Mc) : Int := if rsOk n b d m = true then m.st else 0
def rsV (n : Nat) (b d : Int) (m : Mc) : Int := if rsOk n b d m = true ∧ m.st = 1 then m.get 1 else 0
def rsL (n : Nat) (b d : Int) (m : Mc) : List Int := if rsOk n b d m = true then (m.me.drop b.toNat).take d.toNat else []
def rsE (n : Nat) (b d : Int) (m : Mc) : Int := if rsOk n b d m = true then 0 else 2
def RsP (n : Nat) (b d : Int) (m : Mc) (w : World) (e : Ending) (w' : World) : Prop :=
  ∃ sp k cap, e = .returned (.tuple #[.agg (ouA (rsS n b d m) (rsV n b d m) sp k cap 0), .int .i64 (rsE n b d m)]) ∧ DT w' sp k (rsL n b d m) ∧ Below w.heap.size w w'
theorem rsNo {n : Nat} {b d : Int} {m : Mc} {w w' : World} (h : rsOk n b d m = false) (hb : Below w.heap.size w w') : RsP n b d m w (.returned (.tuple #[.agg (ouA 0 0 none 0 0 0), .int .i64 2])) w' := by
  refine ⟨none, 0, 0, ?_, ?_, hb⟩
  · unfold rsS rsV rsE; simp [h]
  · unfold rsL; rw [if_neg (by simp [h])]; exact ⟨rfl, by omega, fun h => by omega⟩
theorem rsYes {n b d : Nat} {m : Mc} {w w' : World} {sp : Option Addr} {cap : Nat} (h : rsOk n b d m = true) (hb : Below w.heap.size w w') (hD : DT w' sp d ((m.me.drop b).take d)) :
    RsP n b d m w (.returned (.tuple #[.agg (ouA m.st (if m.st = 1 then m.get 1 else 0) sp d cap 0), .int .i64 0])) w' := by
  refine ⟨sp, d, cap, ?_, ?_, hb⟩
  · unfold rsS rsV rsE; simp [h]
  · unfold rsL; rw [if_pos h]; exact hD
end Go.Proofs.Ytimmiidkjpbffaa
/- Layer compile: Result, of the program, that says no. -/
namespace Go.Proofs.Ytimmiidkjpbffaa
open Go.RowKit
set_option maxRecDepth 100000
set_option linter.unusedVariables false
set_option linter.unusedSimpArgs false


theorem built36 (s : Int) (sp : Option Addr) (n cap : Nat) : Try.prog.built 36 [(0, .int .u8 s), (2, .slice sp n cap)] = some (ouA s 0 sp n cap 0) := by kernel_rfl
theorem size36 : (Try.prog.info? 36).map (·.size) = some 4 := by kernel_rfl
theorem ouA_one (s v : Int) (sp : Option Addr) (n cap : Nat) (k : Int) : (ouA s v sp n cap k).all (·.oneCell') = true := all_oneCell_toArray (by
  intro v hv
  simp only [List.mem_cons, List.not_mem_nil, or_false] at hv
  rcases hv with rfl | rfl | rfl | rfl <;> rfl)
theorem res36 {f : Func} {w : World} {tmps : Array Value} {g t k : Nat} {C : Array Value} {v : Value} (hf : f.results = #[.cell t 36, .tmp k]) (hp : tmps.getD t undef = .pointer (some ⟨g, 0, none⟩)) (hk : tmps.getD k undef = v) (hC : C.size = 4) (hA : Arr w g 36 C) :
    (results f tmps).run Try.prog w = .ok (.tuple #[.agg C, v]) w := by
  have hr := run_loadVar_mid (P := Try.prog) w g 0 36 C.toList _ (fun j v hv => by rw [Nat.zero_add, hA.cell]; simpa using hv) Try.underlying36 rfl (by rw [Array.length_toList, hC]; exact size36)
  have hp' : tmps[t]?.getD undef = .pointer (some ⟨g, 0, none⟩) := by simpa using hp
  have hk' : tmps[k]?.getD undef = v := by simpa using hk
  simp [results, hf, hp', hk', asAddr, hr]
set_option maxHeartbeats 2000000 in
theorem result8_no (b d : Int) (m : Mc) (sp : Option Addr) (n cap : Nat) (sq : Option Addr) (nd cd : Nat) (w : World) (hns : n ≤ 17592186044416) (hok : m.ok) (hl : Hid (nd = m.me.length)) (hnd : nd ≤ 17592186044416) (hb : -9223372036854775808 ≤ b ∧ b ≤ 9223372036854775807) (hd : -9223372036854775808 ≤ d ∧ d ≤ 9223372036854775807) (hno : rsOk n b d m = false) :
    Calls Try.prog 8 #[.agg #[.slice sp n cap, .int .i64 b, .int .i64 d], .agg (mcA m sq nd cd)] w (RsP n b d m w) := by
  have A0 := ((Arr.new w 24 #[.slice sp n cap, .int .i64 b, .int .i64 d]).alloc (.cells (mcA m sq nd cd) 29)).alloc (.cells (ouA 0 0 none 0 0 0) 36)
  have A1 := (Arr.new (w.alloc (.cells #[.slice sp n cap, .int .i64 b, .int .i64 d] 24)) 29 (mcA m sq nd cd)).alloc (.cells (ouA 0 0 none 0 0 0) 36)
  have A2 := Arr.new ((w.alloc (.cells #[.slice sp n cap, .int .i64 b, .int .i64 d] 24)).alloc (.cells (mcA m sq nd cd) 29)) 36 (ouA 0 0 none 0 0 0)
  simp only [World.size_alloc] at A1 A2
  have hb0 := ((alloc_bel' w (.cells #[.slice sp n cap, .int .i64 b, .int .i64 d] 24)).alloc (by simp) (.cells (mcA m sq nd cd) 29)).alloc (by simp; omega) (.cells (ouA 0 0 none 0 0 0) 36)
  have hmay : ∀ U, Calls Try.prog 19 #[.agg #[.slice sp n cap, .int .i64 b, .int .i64 d]] U fun e w' => e = .returned (.bool (imOk n b d)) ∧ Below U.heap.size U w' := fun U => may19_any sp n cap b d U hns hb hd
  have hmm : ∀ U, Calls Try.prog 21 #[.agg (mcA m sq nd cd)] U fun e w' => e = .returned (.bool (mayM m)) ∧ Below U.heap.size U w' := fun U => may_anyV m sq nd cd U hok hl hnd
  have hs0 := mcA_size hok.r16 sq nd cd
  have h18 := mcA_18 hok.r16 sq nd cd
  have hrs : ∀ w', Below w.heap.size w w' → RsP n b d m w (.returned (.tuple #[.agg (ouA 0 0 none 0 0 0), .int .i64 2])) w' := fun w' h => rsNo hno h
  replace hrs := hid hrs
  have a0 := A0.cell 0
  have a1 := A0.cell 1
  have a2 := A0.cell 2
  obtain ⟨Z, hZ⟩ : ∃ Z, Z = ouA 0 0 none 0 0 0 := ⟨_, rfl⟩
  have hz4 : Z.size = 4 := by rw [hZ]; rfl
  have hz1 : Z.all (·.oneCell') = true := by rw [hZ]; exact ouA_one _ _ _ _ _ _
  replace hZ := hid hZ
  generalize hC : mcA m sq nd cd = C at *
  clear hC
  unfold rsOk at hno
  cases him : imOk n b d with
  | false =>
    rw [him] at hmay
    clear him hl
    go_enter Try.func8, Try.ntmps8
    go_upto_region 2 with (go_at_call 19; go_must (refine (hmay _).mono ?_; rintro e w1 ⟨rfl, hb1⟩; have B1 := hb0.trans (hb1.mono (by simp; omega)); have A21 := A2.bl hb1; clear a0 a1 a2 hmay))
    go_wp2_with (refine wpList_store_arr (by rfl) 36 (.tmp 4) (.tmp 24) (by rfl) (w.heap.size + 1 + 1) (ouA 0 0 none 0 0 0) (by rfl) (by rfl) 36 _ A21 size36 rfl (ouA_one _ _ _ _ _ _) ?_)
    exact bodyPost_ret (v := .tuple #[.agg (ouA 0 0 none 0 0 0), .int .i64 2]) (res36 Try.results8 rfl rfl rfl (A21.setRow _)) rfl (hrs.out _ (below_setRow B1 (by omega) _))
  | true =>
    rw [him] at hmay hno
    cases hm2 : mayM m with
    | false =>
      rw [hm2] at hmm
      clear him hl hm2 hno
      go_enter Try.func8, Try.ntmps8
      go_upto_region 2 with (first
        | (go_at_call 19; go_must (refine (hmay _).mono ?_; rintro e w1 ⟨rfl, hb1⟩; have B1 := hb0.trans (hb1.mono (by simp; omega)); have A11 := A1.bl hb1; have A21 := A2.bl hb1; clear a0 a1 a2 hmay))
        | (refine lR (by rfl) 29 (.tmp 3) (by rfl) (w.heap.size + 1) (by rfl) C A11 Try.underlying29 rfl (by rw [hs0]; exact size45) ?_)
        | (go_at_call 21; go_must (refine (hmm _).mono ?_; rintro e w2 ⟨rfl, hb2⟩; have B2 := B1.trans (hb2.mono B1.size); have A22 := A21.bl hb2; clear hmm)))
      go_wp2_with (refine wpList_store_arr (by rfl) 36 (.tmp 4) (.tmp 24) (by rfl) (w.heap.size + 1 + 1) (ouA 0 0 none 0 0 0) (by rfl) (by rfl) 36 _ A22 size36 rfl (ouA_one _ _ _ _ _ _) ?_)
      exact bodyPost_ret (v := .tuple #[.agg (ouA 0 0 none 0 0 0), .int .i64 2]) (res36 Try.results8 rfl rfl rfl (A22.setRow _)) rfl (hrs.out _ (below_setRow B2 (by omega) _))
    | true =>
      rw [hm2] at hmm hno
      have hne : nd ≠ n := by
        intro e
        rw [Bool.true_and, Bool.true_and] at hno
        exact of_decide_eq_false hno (by rw [← e]; exact hl.out.symm)
      have hne' : ((nd : Int) != (n : Int)) = true := by simp; omega
      have hnn : ¬ (nd : Int) = (n : Int) := by omega
      clear him hl hm2 hno hne
      go_enter Try.func8, Try.ntmps8
      go_upto_region 2 with (first
        | (go_at_call 19; go_must (refine (hmay _).mono ?_; rintro e w1 ⟨rfl, hb1⟩; have B1 := hb0.trans (hb1.mono (by simp; omega)); have A01 := A0.bl hb1; have A11 := A1.bl hb1; have A21 := A2.bl hb1; clear a0 a1 a2 hmay))
        | (refine lR (by rfl) 29 (.tmp 3) (by rfl) (w.heap.size + 1) (by rfl) C A11 Try.underlying29 rfl (by rw [hs0]; exact size45) ?_)
        | (go_at_call 21; go_must (refine (hmm _).mono ?_; rintro e w2 ⟨rfl, hb2⟩; have B2 := B1.trans (hb2.mono B1.size); have A02 := A01.bl hb2; have A12 := A11.bl hb2; have A22 := A21.bl hb2; have c18 := (A12.cell 18).trans h18; have c0 := A02.cell 0; clear hmm)))
      go_wp2_with (refine wpList_store_arr (by rfl) 36 (.tmp 4) (.tmp 24) (by rfl) (w.heap.size + 1 + 1) (ouA 0 0 none 0 0 0) (by rfl) (by rfl) 36 _ A22 size36 rfl (ouA_one _ _ _ _ _ _) ?_)
      exact bodyPost_ret (v := .tuple #[.agg (ouA 0 0 none 0 0 0), .int .i64 2]) (res36 Try.results8 rfl rfl rfl (A22.setRow _)) rfl (hrs.out _ (below_setRow B2 (by omega) _))
end Go.Proofs.Ytimmiidkjpbffaa
