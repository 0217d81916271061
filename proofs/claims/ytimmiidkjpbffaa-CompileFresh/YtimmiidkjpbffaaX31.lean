/- RVs, RVt, RVu. -/
import Derived.Test.YtimmiidkjpbffaaX01
import Derived.Test.YtimmiidkjpbffaaX02
import Derived.Test.YtimmiidkjpbffaaX26
import Derived.Test.YtimmiidkjpbffaaX03
import Derived.Test.YtimmiidkjpbffaaX08
import Derived.Test.YtimmiidkjpbffaaX27
import Derived.Test.YtimmiidkjpbffaaX21
import Derived.Test.YtimmiidkjpbffaaX28
import Derived.Test.YtimmiidkjpbffaaX29
import Derived.Test.YtimmiidkjpbffaaX30
import Derived.BigQuiet
import Derived.BigRegion
import Derived.ChangeKeysEq
import Derived.Deep.DeepCutAuto
import Derived.Deep.DrawnRows
import Derived.Deep.MidRow
import Derived.Deep.QuietTactic
import Derived.Deep.RegionHeld3
import Derived.Deep.RegionLaw
import Derived.Deep.RegionWith
import Derived.Deep.WholeRow
import Derived.DeepKeys3
import Derived.Great.BuildSlice
import Derived.Laws.AppendOwnNone
import Derived.Laws.BitsLemmas
import Derived.Laws.BytesArg
import Derived.Laws.CopyOwn
import Derived.Laws.ResultCell
import Derived.Laws.Tables
import Derived.Lib.SlBytesConst
import Derived.LoopIn
import Derived.LoopNIn
import Derived.Maps.AppendAt
import Derived.OwnWalkIn
import Derived.RangeFuncBound
import Derived.RangeFuncCalls
import Derived.RangeFuncLeaves
import Derived.RangeFuncNested
import Derived.RangeFuncRecord
import Derived.Recover
import Derived.Shelf.Abstract
import Derived.Shelf.RegionOpen
import Derived.TacticsInMore
import Derived.WalkKit
import Derived.WalkLawsBesides
import Derived.WalkSpells
/- Layer compile: what the layers below give. -/
namespace Go.Proofs.Ytimmiidkjpbffaa
open Go.RowKit
set_option maxRecDepth 100000
set_option linter.unusedVariables false
set_option linter.unusedSimpArgs false

theorem MW.ms {w : World} {gm n cap : Nat} {L : List Int} (h : MW w gm L) (hl : n = L.length) (hn : n ≤ 17592186044416) (hc : n ≤ cap ∧ cap ≤ 9223372036854775807) : MS w.heap.size w (some ⟨gm, 0, none⟩) n cap L :=
  ⟨hl, (fun e => by cases e), hc.1, hc.2, hn, fun _ => ⟨gm, 0, rfl, h.lt, fun t ht => by rw [Nat.zero_add]; exact h.cell (by omega)⟩⟩
theorem mcA_one (m : Mc) (sp : Option Addr) (n cap : Nat) : (mcA m sp n cap).all (·.oneCell') = true := all_oneCell_toArray (by
  intro v hv
  simp only [mcL, by64, List.mem_cons, List.mem_append, List.mem_map, List.not_mem_nil, or_false] at hv
  rcases hv with rfl | ⟨x, -, rfl⟩ | rfl | rfl <;> rfl)
theorem mcA_0 (m : Mc) (sp : Option Addr) (n cap : Nat) : (mcA m sp n cap)[0]? = some (.int .u64 m.pc) := rfl
theorem mcA_r {m : Mc} (h : m.rg.length = 16) (sp : Option Addr) (n cap : Nat) {a : Nat} (ha : a < 16) : (mcA m sp n cap)[1 + a]? = some (.int .u64 (m.get a)) := by
  have := mcL_reg h (.slice sp n cap) [] ha
  rw [List.append_nil] at this
  simp only [mcA, List.getElem?_toArray]
  exact this
theorem mcA_17 {m : Mc} (h : m.rg.length = 16) (sp : Option Addr) (n cap : Nat) : (mcA m sp n cap)[17]? = some (.int .u8 m.st) := by
  have := mcL_st h (.slice sp n cap) []
  rw [List.append_nil] at this
  simpa [mcA] using this
theorem mcA_18 {m : Mc} (h : m.rg.length = 16) (sp : Option Addr) (n cap : Nat) : (mcA m sp n cap)[18]? = some (.slice sp n cap) := by
  have := mcL_me h (.slice sp n cap) []
  rw [List.append_nil] at this
  simpa [mcA] using this
theorem size45 : (Try.prog.info? 29).map (·.size) = some 19 := by kernel_rfl
theorem ld45 {ops : Array Oper} {rest : List Oper} {o : Oper} {a : Act} {w : World} {Q : Exit → Act → World → Prop} (hgd : o.guard = none) (x : Operand) (ho : o.op = .load 29 x)
    (g : Nat) (hx : a.eval x = .pointer (some ⟨g, 0, none⟩)) (C : Array Value) (hC : C.size = 19) (hA : Arr w g 29 C)
    (h : wpList Try.prog ops Q rest (a.put o.dst (.agg C)) w) : wpList Try.prog ops Q (o :: rest) a w :=
  wpList_load_row hgd 29 x ho g hx 29 C (0, 0) _ hA Try.underlying29 rfl (by rw [hC]; exact size45) h
theorem st45 {ops : Array Oper} {rest : List Oper} {o : Oper} {a : Act} {w : World} {Q : Exit → Act → World → Prop} (hgd : o.guard = none) (x y : Operand) (ho : o.op = .store 29 x y)
    (g : Nat) (C : Array Value) (hx : a.eval x = .pointer (some ⟨g, 0, none⟩)) (hy : a.eval y = .agg C) (hC : C.size = 19) (h1 : C.all (·.oneCell') = true) (D : Array Value) (hD : D.size = 19) (hA : Arr w g 29 D)
    (h : wpList Try.prog ops Q rest (a.put o.dst undef) (w.setRow g C)) : wpList Try.prog ops Q (o :: rest) a w :=
  wpList_store_arr hgd 29 x y ho g C hx hy 29 D hA (by rw [hC]; exact size45) (by rw [hC, hD]) h1 h
theorem st45n {ops : Array Oper} {rest : List Oper} {o : Oper} {a : Act} {Q : Exit → Act → World → Prop} (hgd : o.guard = none) (x y : Operand) (ho : o.op = .store 29 x y) (W : World) (g : Nat) (hgW : W.heap.size = g) {z : Array Value} (hz : z.size = 19)
    (C : Array Value) (hx : a.eval x = .pointer (some ⟨g, 0, none⟩)) (hy : a.eval y = .agg C) (hC : C.size = 19) (h1 : C.all (·.oneCell') = true)
    (h : wpList Try.prog ops Q rest (a.put o.dst undef) (W.alloc (.cells C 29))) : wpList Try.prog ops Q (o :: rest) a (W.alloc (.cells z 29)) := by
  subst hgW
  exact wpList_store_new W z 29 hgd 29 x y ho C hx hy (by rw [hC]; exact size45) (by rw [hz, hC]) h1 h
theorem res45 {f : Func} {w : World} {tmps : Array Value} {g t k l : Nat} {C : Array Value} {v u : Value} (hf : f.results = #[.cell t 29, .tmp k, .tmp l]) (hp : tmps.getD t undef = .pointer (some ⟨g, 0, none⟩)) (hk : tmps.getD k undef = v) (hl : tmps.getD l undef = u) (hC : C.size = 19) (hA : Arr w g 29 C) :
    (results f tmps).run Try.prog w = .ok (.tuple #[.agg C, v, u]) w := by
  have hr := run_loadVar_mid (P := Try.prog) w g 0 29 C.toList _ (fun j v hv => by rw [Nat.zero_add, hA.cell]; simpa using hv) Try.underlying29 rfl (by rw [Array.length_toList, hC]; exact size45)
  have hp' : tmps[t]?.getD undef = .pointer (some ⟨g, 0, none⟩) := by simpa using hp
  have hk' : tmps[k]?.getD undef = v := by simpa using hk
  have hl' : tmps[l]?.getD undef = u := by simpa using hl
  simp [results, hf, hp', hk', hl', asAddr, hr]
theorem res45b {f : Func} {w : World} {tmps : Array Value} {g t k : Nat} {C : Array Value} {v : Value} (hf : f.results = #[.cell t 29, .tmp k]) (hp : tmps.getD t undef = .pointer (some ⟨g, 0, none⟩)) (hk : tmps.getD k undef = v) (hC : C.size = 19) (hA : Arr w g 29 C) :
    (results f tmps).run Try.prog w = .ok (.tuple #[.agg C, v]) w := by
  have hr := run_loadVar_mid (P := Try.prog) w g 0 29 C.toList _ (fun j v hv => by rw [Nat.zero_add, hA.cell]; simpa using hv) Try.underlying29 rfl (by rw [Array.length_toList, hC]; exact size45)
  have hp' : tmps[t]?.getD undef = .pointer (some ⟨g, 0, none⟩) := by simpa using hp
  have hk' : tmps[k]?.getD undef = v := by simpa using hk
  simp [results, hf, hp', hk', asAddr, hr]
theorem res45c {f : Func} {w : World} {tmps : Array Value} {g t : Nat} {C : Array Value} (hf : f.results = #[.cell t 29]) (hp : tmps.getD t undef = .pointer (some ⟨g, 0, none⟩)) (hC : C.size = 19) (hA : Arr w g 29 C) :
    (results f tmps).run Try.prog w = .ok (.agg C) w := results_cell_row hf _ _ g 29 _ (0, 0) _ hp hA Try.underlying29 rfl (by rw [hC]; exact size45)
/-- A memory of so many words may be. -/
def szB (n : Nat) : Bool := (List.range 13).any (fun k => n == 2 ^ k)
theorem szB_all : ((List.range 4097).all fun n => (decide (1 ≤ n) && (n &&& (n - 1) == 0)) == szB n) = true := by decide +kernel
theorem szB_and {n : Nat} (h : n ≤ 4096) : (decide (1 ≤ n) && (n &&& (n - 1) == 0)) = szB n := by
  have := szB_all
  rw [List.all_eq_true] at this
  have h2 := this n (by simp; omega)
  simpa using h2
theorem szB_le {n : Nat} (h : szB n = true) : 1 ≤ n ∧ n ≤ 4096 := by
  unfold szB at h
  rw [List.any_eq_true] at h
  obtain ⟨k, hk, e⟩ := h
  simp at hk e
  subst e
  have h1 : 0 < 2 ^ k := Nat.pow_pos (by omega)
  have h2 : 2 ^ k ≤ 2 ^ 12 := Nat.pow_le_pow_right (by omega) (by omega)
  omega
theorem and_i64 {a b : Nat} (ha : a < 4611686018427387904) (hb : b < 4611686018427387904) : bits .and .i64 (a : Int) (b : Int) = ((a &&& b : Nat) : Int) := by
  have e1 : (BitVec.ofInt 64 (a : Int)).toNat = a := by rw [BitVec.ofInt_natCast, BitVec.toNat_ofNat]; exact Nat.mod_eq_of_lt (by omega)
  have e2 : (BitVec.ofInt 64 (b : Int)).toNat = b := by rw [BitVec.ofInt_natCast, BitVec.toNat_ofNat]; exact Nat.mod_eq_of_lt (by omega)
  show IntKind.i64.wrap ((BitVec.ofInt 64 (a : Int) &&& BitVec.ofInt 64 (b : Int)).toNat : Int) = _
  rw [BitVec.toNat_and, e1, e2, IntKind.wrap_i64]
  have := Nat.and_le_left (n := a) (m := b)
  omega
/-- May this number of words be? of whatever number. -/
def szI (x : Int) : Bool := decide (0 ≤ x) && szB x.toNat
theorem szI_nat (n : Nat) : szI (n : Int) = szB n := by simp [szI]
set_option maxHeartbeats 400000 in
theorem maySize_any (x : Int) (w : World) (hx : -9223372036854775808 ≤ x ∧ x ≤ 9223372036854775807) : Calls Try.prog 36 #[.int .i64 x] w fun e w' => e = .returned (.bool (szI x)) ∧ w' = w := by
  by_cases h1 : 1 ≤ x
  · by_cases h2 : x ≤ 4096
    · obtain ⟨n, rfl⟩ : ∃ n : Nat, x = n := ⟨x.toNat, by omega⟩
      have hb := and_i64 (a := n) (b := n - 1) (by omega) (by omega)
      rw [show ((n - 1 : Nat) : Int) = (n : Int) - 1 by omega] at hb
      have hs := szB_and (n := n) (by omega)
      have hf : ((((n &&& (n - 1) : Nat) : Int)) == 0) = szI (n : Int) := by
        rw [szI_nat, ← hs, Bool.eq_iff_iff]
        simp
        omega
      replace hf := Hid.mk' hf
      clear hs
      go_enter Try.func36, Try.ntmps36
      go_wp2
      go_ret
      exact ⟨by rw [← hf.out]; rfl, rfl⟩
    · have hf : szI x = false := by
        cases h : szI x with
        | false => rfl
        | true =>
          unfold szI at h
          have := szB_le (by simpa using (Bool.and_eq_true_iff.1 h).2)
          omega
      rw [hf]
      clear hf
      go_enter Try.func36, Try.ntmps36
      go_wp2
      go_ret
      exact ⟨rfl, rfl⟩
  · have hf : szI x = false := by
      cases h : szI x with
      | false => rfl
      | true =>
        unfold szI at h
        have := szB_le (by simpa using (Bool.and_eq_true_iff.1 h).2)
        omega
    rw [hf]
    clear hf
    go_enter Try.func36, Try.ntmps36
    go_wp2
    go_ret
    exact ⟨rfl, rfl⟩
/-- May this machine be? -/
def mayM (m : Mc) : Bool := szB m.me.length && decide (m.st ≤ 2)
set_option maxHeartbeats 400000 in
theorem may_anyV (m : Mc) (sp : Option Addr) (n cap : Nat) (w : World) (hok : m.ok) (hl : Hid (n = m.me.length)) (hn : n ≤ 17592186044416) :
    Calls Try.prog 21 #[.agg (mcA m sp n cap)] w fun e w' => e = .returned (.bool (mayM m)) ∧ Below w.heap.size w w' := by
  have A0 := Arr.new w 29 (mcA m sp n cap)
  have c17 := (A0.cell 17).trans (mcA_17 hok.r16 sp n cap)
  have c18 := (A0.cell 18).trans (mcA_18 hok.r16 sp n cap)
  have hz : szI (n : Int) = szB m.me.length := by rw [szI_nat, hl.out]
  have hz := Hid.mk' hz
  unfold mayM
  generalize szB m.me.length = b at *
  generalize mcA m sp n cap = C at *
  cases b
  · go_enter Try.func21, Try.ntmps21
    go_wp2_with (go_at_call 36; go_must (refine (maySize_any _ _ (by omega)).mono ?_; rintro e w1 ⟨rfl, h⟩; subst h; rw [hz.out]))
    go_ret
    exact ⟨rfl, alloc_bel' _ _⟩
  · go_enter Try.func21, Try.ntmps21
    go_wp2_with (go_at_call 36; go_must (refine (maySize_any _ _ (by omega)).mono ?_; rintro e w1 ⟨rfl, h⟩; subst h; rw [hz.out]))
    go_ret
    exact ⟨rfl, alloc_bel' _ _⟩
end Go.Proofs.Ytimmiidkjpbffaa
/- Layer compile: what the layers below give. -/
namespace Go.Proofs.Ytimmiidkjpbffaa
open Go.RowKit
set_option maxRecDepth 100000
set_option linter.unusedVariables false
set_option linter.unusedSimpArgs false

theorem info26 : (Try.prog.info? 25).map (fun i => (i.zero, i.size, i.bytes)) = some (some (.int .u64 0), 1, 8) := by kernel_rfl
theorem own64 {w : World} {base n : Nat} {v : Value} {L : List Int} (h : w.ownsRow base 25 1 v n (by64 L)) (h0 : 0 < n) :
    ∃ gm cap, v = .slice (some ⟨gm, 0, none⟩) n cap ∧ n = L.length ∧ base ≤ gm ∧ n ≤ cap ∧ cap ≤ 9223372036854775807 ∧ MW w gm L := by
  obtain ⟨hl, h | ⟨g, cap, cur, rfl, hg, hh, hn, hm, hc, ht⟩⟩ := h
  · omega
  · rw [by64_len, Nat.mul_one] at hl
    subst hl
    refine ⟨g, cap, rfl, rfl, hg, hn, by unfold maxLen at hm; omega, cur, hh, fun t htl => ?_⟩
    rw [← Array.getElem?_toList, ← List.getElem?_take_of_lt (show t < L.length * 1 by omega), ht, by64_getV htl]
set_option maxHeartbeats 400000 in
theorem clone64_any (sp : Option Addr) (n cap : Nat) (L : List Int) (N : Nat) (w : World) (hS : MS N w sp n cap L) (h0 : 0 < n) :
    Calls Try.prog 20 #[.slice sp n cap] w fun e w' => ∃ gm cap', e = .returned (.slice (some ⟨gm, 0, none⟩) n cap') ∧ w.heap.size ≤ gm ∧ n ≤ cap' ∧ cap' ≤ 9223372036854775807 ∧ MW w' gm L ∧ Below w.heap.size w w' := by
  have q22 : ∀ (w : World) (a : Option Addr) (n c n' c' : Nat), (binOp .eql 22 (.slice a n c) (.slice none n' c')).run Try.prog w = .ok (.bool a.isNone) w := fun w a n c n' c' => Lib.run_eql_slice_nil w _ _ a n c n' c' Try.underlying22
  obtain ⟨g, off, rfl, -⟩ := hS.at0 h0
  have hlit : (w.alloc (.cells #[] 25)).ownsRow w.heap.size 25 1 (.slice (some ⟨w.heap.size, 0, none⟩) 0 0) 0 (by64 []) := World.ownsRow_lit _ _ _ (Nat.le_refl _) (by unfold maxLen; omega) rfl
  have hS' := hS.here.below (alloc_bel' w (.cells #[] 25))
  go_enter Try.func20, Try.ntmps20
  go_wp2_with (at_builtin; go_must (refine append_words (by rfl) (.tmp 5) (.tmp 6) (by rfl) w.heap.size _ (by rfl) hlit (some ⟨g, off, none⟩) n cap L (by rfl) hS' (by simp) ?_; intro v1 w1 hown1 hg1))
  obtain ⟨gm, cap', rfl, -, hb, hc1, hc2, hM⟩ := own64 hown1 h0
  go_ret
  exact ⟨gm, cap', rfl, hb, hc1, hc2, hM, ((Below.refl _ _).alloc (Nat.le_refl _) _).grown hg1 (by simp) (fun k e => by simp [Value.ownBlock] at e; omega)⟩
end Go.Proofs.Ytimmiidkjpbffaa
/- Layer compile: what the layers below give. -/
namespace Go.Proofs.Ytimmiidkjpbffaa
open Go.RowKit
set_option maxRecDepth 100000
set_option linter.unusedVariables false
set_option linter.unusedSimpArgs false

theorem y45 {ops : Array Oper} {S : World → Prop} {op : Oper} {a : Act} (hw : Region.wanted op (yielded ops a.tmps) = true) (x : Operand) (ho : op.op = .load 29 x)
    (g : Nat) (hx : a.eval x = .pointer (some ⟨g, 0, none⟩)) (C : Array Value) (hC : C.size = 19) (hS : ∀ u, S u → Arr u g 29 C) : YieldsIf Try.prog ops S op (.agg C) a := by
  have := yieldsIf_load_mid (P := Try.prog) (S := S) hw 29 x ho g 0 hx C.toList _ (fun u hu => (fun j v hv => by rw [Nat.zero_add, (hS u hu).cell]; simpa using hv)) Try.underlying29 rfl (by rw [Array.length_toList, hC]; exact size45)
  simpa using this
theorem y_bd {ops : Array Oper} {S : World → Prop} {op : Oper} {a : Act} (hw : Region.wanted op (yielded ops a.tmps) = true) (t : TypeId) (parts : Array (Nat × Operand)) (ho : op.op = .build t parts) {ps : List (Nat × Value)} (hp : parts.toList.map (fun p => (p.1, a.eval p.2)) = ps) {C : Array Value} (hb : Try.prog.built t ps = some C) : YieldsIf Try.prog ops S op (.agg C) a :=
  .inl ⟨hw, fun w _ => by
    have e : (parts.map fun (i, x) => (i, a.eval x)).toList = ps := by rw [Array.toList_map]; exact hp
    unfold execOp
    simp only [ho, Sem.run_bind, run_build w t _ C (by rw [e]; exact hb), Result.andThen_ok, Sem.run_pure]⟩
theorem step_want {P : Program} {ops : Array Oper} {o : Oper} {a : Act} {w : World} {K : Act → World → Prop} {Q : Exit → Act → World → Prop} {E : Prop} (hw : Region.wanted o (yielded ops a.tmps) = true) (h : o.wp P a w K Q) : if Region.wanted o (yielded ops a.tmps) = true then o.wp P a w K Q else E := by
  rw [if_pos hw]; exact h
/-- No machine. -/
def zM : Mc := ⟨0, [0, 0, 0, 0, 0, 0, 0, 0, 0, 0, 0, 0, 0, 0, 0, 0], 0, []⟩
theorem zM_rg : ∀ k, k < 16 → zM.rg.getD k 0 = 0 := by decide
theorem zM_ok : zM.ok := ⟨by show (0 : Int) ≤ 0 ∧ (0 : Int) < 18446744073709551616; omega, rfl, fun k => by
  have : zM.rg.getD k 0 = 0 := by
    by_cases h : k < 16
    · exact zM_rg k h
    · rw [List.getD_eq_getElem?_getD, List.getElem?_eq_none (by show 16 ≤ k; omega)]; rfl
  rw [this]; unfold U64; omega, by show (0 : Int) ≤ 0 ∧ (0 : Int) < 256; omega, fun k => by show U64 (([] : List Int).getD k 0); simp [U64]⟩
/-- What Run comes to. -/
def rO (es : List En) (m : Mc) (x : Int) : Mc × Int × Int :=
  if mayM m = false ∨ x < 0 then (zM, 0, 2) else if 4194304 < x then (zM, 0, 4) else ((rn es x.toNat m).1, (rn es x.toNat m).2, 0)
def RnPost (es : List En) (m : Mc) (x : Int) (w : World) (e : Ending) (w' : World) : Prop :=
  ∃ sp n cap, e = .returned (.tuple #[.agg (mcA (rO es m x).1 sp n cap), .int .i64 (rO es m x).2.1, .int .i64 (rO es m x).2.2]) ∧ (rO es m x).1.ok ∧ MS w'.heap.size w' sp n cap (rO es m x).1.me ∧ Below w.heap.size w w' ∧ (0 < n → ∃ gm, sp = some ⟨gm, 0, none⟩ ∧ w.heap.size ≤ gm ∧ MW w' gm (rO es m x).1.me)
theorem rnNo {es : List En} {m : Mc} {x : Int} {w w' : World} {er : Int} (hr : rO es m x = (zM, 0, er)) (hb : Below w.heap.size w w') : RnPost es m x w (.returned (.tuple #[.agg (mcA zM none 0 0), .int .i64 0, .int .i64 er])) w' := by
  refine ⟨none, 0, 0, by rw [hr], by rw [hr]; exact zM_ok, by rw [hr]; exact MS.nil0 _ _, hb, fun h => absurd h (by omega)⟩
end Go.Proofs.Ytimmiidkjpbffaa
