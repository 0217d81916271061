/- ZVs, W2, ZWe, Pa, Aa, Ac, Ts, Tu, Ag0. -/
import Derived.Test.YtneihkegipcakaaGreatX01
import Derived.Test.YtneihkegipcakaaGreatX02
import Derived.Test.YtneihkegipcakaaGreatX03
import Derived.Test.YtneihkegipcakaaGreatX04
import Derived.Test.YtneihkegipcakaaGreatX05
import Derived.BigQuiet
import Derived.BigRegion
import Derived.ChangeKeysEq
import Derived.ChangeOld
import Derived.Deep.DeepCutAuto
import Derived.Deep.DrawnRows
import Derived.Deep.MidRow
import Derived.Deep.QuietTactic
import Derived.Deep.RegionHeld3
import Derived.Deep.RegionLaw
import Derived.Deep.RegionWith
import Derived.Deep.WholeRow
import Derived.DeepKeys3
import Derived.Great.BuildSlice
import Derived.Great.FillDense
import Derived.Laws.AppendOwnNone
import Derived.Laws.BitsLemmas
import Derived.Laws.BytesArg
import Derived.Laws.CopyOwn
import Derived.Laws.OwnMore
import Derived.Laws.ResultCell
import Derived.Laws.Tables
import Derived.Lib.SlBytesConst
import Derived.LoopIn
import Derived.LoopNIn
import Derived.Maps.AppendAt
import Derived.OpenShut
import Derived.OwnWalkIn
import Derived.ProofKit
import Derived.RangeFuncBound
import Derived.RangeFuncCalls
import Derived.RangeFuncLeaves
import Derived.RangeFuncNested
import Derived.RangeFuncRecord
import Derived.Recover
import Derived.Shelf.Abstract
import Derived.Shelf.RegionOpen
import Derived.ShutString
import Derived.SizedLaws
import Derived.TacticsInMore
import Derived.WalkKit
import Derived.WalkLawsBesides
import Derived.WalkSpells
import Derived.Deep.OwnRows
import Derived.Laws.CopyRow
import Derived.Laws.MakeOwn
import Derived.Laws.DeepBits32
import Derived.Lib.AppendZeros
/- Layer trace: what the layers below give. -/
namespace Go.Proofs.YtneihkegipcakaaGreat
open Go.RowKit
set_option maxRecDepth 100000
set_option linter.unusedVariables false
set_option linter.unusedSimpArgs false

/-- Words in memory, wherever. -/
structure MS (N : Nat) (w : World) (sp : Option Addr) (n cap : Nat) (L : List Int) : Prop where
  len : Hid (n = L.length)
  nil : sp = none → n = 0 ∧ cap = 0
  le : n ≤ cap
  big : cap ≤ 9223372036854775807
  small : n ≤ 17592186044416
  at0 : 0 < n → ∃ g off, sp = some ⟨g, off, none⟩ ∧ g < N ∧ ∀ t, t < n → w.cell? ⟨g, off + t, none⟩ = some (.int .u64 (L.getD t 0))
theorem MS.mono {N N' : Nat} {w : World} {sp : Option Addr} {n cap : Nat} {L : List Int} (h : MS N w sp n cap L) (hN : N ≤ N') : MS N' w sp n cap L :=
  ⟨h.len, h.nil, h.le, h.big, h.small, fun h0 => let ⟨b, off, e, hb, hB⟩ := h.at0 h0; ⟨b, off, e, by omega, hB⟩⟩
theorem MS.below {N : Nat} {w w' : World} {sp : Option Addr} {n cap : Nat} {L : List Int} (h : MS N w sp n cap L) (hb : Below N w w') : MS N w' sp n cap L :=
  ⟨h.len, h.nil, h.le, h.big, h.small, fun h0 => let ⟨b, off, e, hbN, hB⟩ := h.at0 h0; ⟨b, off, e, hbN, fun t ht => (hb.cell (p := ⟨b, off + t, none⟩) hbN).trans (hB t ht)⟩⟩
theorem MS.here {N : Nat} {w : World} {sp : Option Addr} {n cap : Nat} {L : List Int} (h : MS N w sp n cap L) : MS w.heap.size w sp n cap L :=
  ⟨h.len, h.nil, h.le, h.big, h.small, fun h0 => let ⟨b, off, e, hb, hB⟩ := h.at0 h0; ⟨b, off, e, block_lt_of_cell (hB 0 h0), hB⟩⟩
theorem MS.nil0 (N : Nat) (w : World) : MS N w none 0 0 [] := ⟨rfl, fun _ => ⟨rfl, rfl⟩, Nat.le_refl _, by omega, by omega, fun h => absurd h (by omega)⟩
theorem MW.ms {w : World} {gm n cap : Nat} {L : List Int} (h : MW w gm L) (hl : n = L.length) (hn : n ≤ 17592186044416) (hc : n ≤ cap ∧ cap ≤ 9223372036854775807) : MS w.heap.size w (some ⟨gm, 0, none⟩) n cap L :=
  ⟨hl, (fun e => by cases e), hc.1, hc.2, hn, fun _ => ⟨gm, 0, rfl, h.lt, fun t ht => by rw [Nat.zero_add]; exact h.cell (by omega)⟩⟩
/-- A machine by value. -/
def mcA (m : Mc) (sp : Option Addr) (n cap : Nat) : Array Value := (mcL m (.slice sp n cap)).toArray
theorem mcA_size {m : Mc} (h : m.rg.length = 16) (sp : Option Addr) (n cap : Nat) : (mcA m sp n cap).size = 19 := by simp [mcA, mcL_len h]
theorem mcA_one (m : Mc) (sp : Option Addr) (n cap : Nat) : (mcA m sp n cap).all (·.oneCell') = true := all_oneCell_toArray (by
  intro v hv
  simp only [mcL, by64, List.mem_cons, List.mem_append, List.mem_map, List.not_mem_nil, or_false] at hv
  rcases hv with rfl | ⟨x, -, rfl⟩ | rfl | rfl <;> rfl)
theorem mcA_0 (m : Mc) (sp : Option Addr) (n cap : Nat) : (mcA m sp n cap)[0]? = some (.int .u64 m.pc) := rfl
theorem mcA_r {m : Mc} (h : m.rg.length = 16) (sp : Option Addr) (n cap : Nat) {a : Nat} (ha : a < 16) : (mcA m sp n cap)[1 + a]? = some (.int .u64 (m.get a)) := by
  have := mcL_reg h (.slice sp n cap) [] ha
  rw [List.append_nil] at this
  simp only [mcA, List.getElem?_toArray]
  exact this
theorem mcA_17 {m : Mc} (h : m.rg.length = 16) (sp : Option Addr) (n cap : Nat) : (mcA m sp n cap)[17]? = some (.int .u8 m.st) := by
  have := mcL_st h (.slice sp n cap) []
  rw [List.append_nil] at this
  simpa [mcA] using this
theorem mcA_18 {m : Mc} (h : m.rg.length = 16) (sp : Option Addr) (n cap : Nat) : (mcA m sp n cap)[18]? = some (.slice sp n cap) := by
  have := mcL_me h (.slice sp n cap) []
  rw [List.append_nil] at this
  simpa [mcA] using this
theorem size45 : (Tryz.prog.info? 27).map (·.size) = some 19 := by kernel_rfl
theorem ld45 {ops : Array Oper} {rest : List Oper} {o : Oper} {a : Act} {w : World} {Q : Exit → Act → World → Prop} (hgd : o.guard = none) (x : Operand) (ho : o.op = .load 27 x)
    (g : Nat) (hx : a.eval x = .pointer (some ⟨g, 0, none⟩)) (C : Array Value) (hC : C.size = 19) (hA : Arr w g 27 C)
    (h : wpList Tryz.prog ops Q rest (a.put o.dst (.agg C)) w) : wpList Tryz.prog ops Q (o :: rest) a w :=
  wpList_load_row hgd 27 x ho g hx 27 C (0, 0) _ hA Tryz.underlying27 rfl (by rw [hC]; exact size45) h
theorem st45 {ops : Array Oper} {rest : List Oper} {o : Oper} {a : Act} {w : World} {Q : Exit → Act → World → Prop} (hgd : o.guard = none) (x y : Operand) (ho : o.op = .store 27 x y)
    (g : Nat) (C : Array Value) (hx : a.eval x = .pointer (some ⟨g, 0, none⟩)) (hy : a.eval y = .agg C) (hC : C.size = 19) (h1 : C.all (·.oneCell') = true) (D : Array Value) (hD : D.size = 19) (hA : Arr w g 27 D)
    (h : wpList Tryz.prog ops Q rest (a.put o.dst undef) (w.setRow g C)) : wpList Tryz.prog ops Q (o :: rest) a w :=
  wpList_store_arr hgd 27 x y ho g C hx hy 27 D hA (by rw [hC]; exact size45) (by rw [hC, hD]) h1 h
theorem st45n {ops : Array Oper} {rest : List Oper} {o : Oper} {a : Act} {Q : Exit → Act → World → Prop} (hgd : o.guard = none) (x y : Operand) (ho : o.op = .store 27 x y) (W : World) (g : Nat) (hgW : W.heap.size = g) {z : Array Value} (hz : z.size = 19)
    (C : Array Value) (hx : a.eval x = .pointer (some ⟨g, 0, none⟩)) (hy : a.eval y = .agg C) (hC : C.size = 19) (h1 : C.all (·.oneCell') = true)
    (h : wpList Tryz.prog ops Q rest (a.put o.dst undef) (W.alloc (.cells C 27))) : wpList Tryz.prog ops Q (o :: rest) a (W.alloc (.cells z 27)) := by
  subst hgW
  exact wpList_store_new W z 27 hgd 27 x y ho C hx hy (by rw [hC]; exact size45) (by rw [hz, hC]) h1 h
theorem res45 {f : Func} {w : World} {tmps : Array Value} {g t k l : Nat} {C : Array Value} {v u : Value} (hf : f.results = #[.cell t 27, .tmp k, .tmp l]) (hp : tmps.getD t undef = .pointer (some ⟨g, 0, none⟩)) (hk : tmps.getD k undef = v) (hl : tmps.getD l undef = u) (hC : C.size = 19) (hA : Arr w g 27 C) :
    (results f tmps).run Tryz.prog w = .ok (.tuple #[.agg C, v, u]) w := by
  have hr := run_loadVar_mid (P := Tryz.prog) w g 0 27 C.toList _ (fun j v hv => by rw [Nat.zero_add, hA.cell]; simpa using hv) Tryz.underlying27 rfl (by rw [Array.length_toList, hC]; exact size45)
  have hp' : tmps[t]?.getD undef = .pointer (some ⟨g, 0, none⟩) := by simpa using hp
  have hk' : tmps[k]?.getD undef = v := by simpa using hk
  have hl' : tmps[l]?.getD undef = u := by simpa using hl
  simp [results, hf, hp', hk', hl', asAddr, hr]
theorem res45b {f : Func} {w : World} {tmps : Array Value} {g t k : Nat} {C : Array Value} {v : Value} (hf : f.results = #[.cell t 27, .tmp k]) (hp : tmps.getD t undef = .pointer (some ⟨g, 0, none⟩)) (hk : tmps.getD k undef = v) (hC : C.size = 19) (hA : Arr w g 27 C) :
    (results f tmps).run Tryz.prog w = .ok (.tuple #[.agg C, v]) w := by
  have hr := run_loadVar_mid (P := Tryz.prog) w g 0 27 C.toList _ (fun j v hv => by rw [Nat.zero_add, hA.cell]; simpa using hv) Tryz.underlying27 rfl (by rw [Array.length_toList, hC]; exact size45)
  have hp' : tmps[t]?.getD undef = .pointer (some ⟨g, 0, none⟩) := by simpa using hp
  have hk' : tmps[k]?.getD undef = v := by simpa using hk
  simp [results, hf, hp', hk', asAddr, hr]
/-- A memory of so many words may be. -/
def szB (n : Nat) : Bool := (List.range 13).any (fun k => n == 2 ^ k)
theorem szB_all : ((List.range 4097).all fun n => (decide (1 ≤ n) && (n &&& (n - 1) == 0)) == szB n) = true := by decide +kernel
theorem szB_and {n : Nat} (h : n ≤ 4096) : (decide (1 ≤ n) && (n &&& (n - 1) == 0)) = szB n := by
  have := szB_all
  rw [List.all_eq_true] at this
  have h2 := this n (by simp; omega)
  simpa using h2
theorem szB_le {n : Nat} (h : szB n = true) : 1 ≤ n ∧ n ≤ 4096 := by
  unfold szB at h
  rw [List.any_eq_true] at h
  obtain ⟨k, hk, e⟩ := h
  simp at hk e
  subst e
  have h1 : 0 < 2 ^ k := Nat.pow_pos (by omega)
  have h2 : 2 ^ k ≤ 2 ^ 12 := Nat.pow_le_pow_right (by omega) (by omega)
  omega
theorem and_i64 {a b : Nat} (ha : a < 4611686018427387904) (hb : b < 4611686018427387904) : bits .and .i64 (a : Int) (b : Int) = ((a &&& b : Nat) : Int) := by
  have e1 : (BitVec.ofInt 64 (a : Int)).toNat = a := by rw [BitVec.ofInt_natCast, BitVec.toNat_ofNat]; exact Nat.mod_eq_of_lt (by omega)
  have e2 : (BitVec.ofInt 64 (b : Int)).toNat = b := by rw [BitVec.ofInt_natCast, BitVec.toNat_ofNat]; exact Nat.mod_eq_of_lt (by omega)
  show IntKind.i64.wrap ((BitVec.ofInt 64 (a : Int) &&& BitVec.ofInt 64 (b : Int)).toNat : Int) = _
  rw [BitVec.toNat_and, e1, e2, IntKind.wrap_i64]
  have := Nat.and_le_left (n := a) (m := b)
  omega
/-- May this number of words be? of whatever number. -/
def szI (x : Int) : Bool := decide (0 ≤ x) && szB x.toNat
theorem szI_nat (n : Nat) : szI (n : Int) = szB n := by simp [szI]
set_option maxHeartbeats 400000 in
theorem maySize_any (x : Int) (w : World) (hx : -9223372036854775808 ≤ x ∧ x ≤ 9223372036854775807) : Calls Tryz.prog 48 #[.int .i64 x] w fun e w' => e = .returned (.bool (szI x)) ∧ w' = w := by
  by_cases h1 : 1 ≤ x
  · by_cases h2 : x ≤ 4096
    · obtain ⟨n, rfl⟩ : ∃ n : Nat, x = n := ⟨x.toNat, by omega⟩
      have hb := and_i64 (a := n) (b := n - 1) (by omega) (by omega)
      rw [show ((n - 1 : Nat) : Int) = (n : Int) - 1 by omega] at hb
      have hs := szB_and (n := n) (by omega)
      have hf : ((((n &&& (n - 1) : Nat) : Int)) == 0) = szI (n : Int) := by
        rw [szI_nat, ← hs, Bool.eq_iff_iff]
        simp
        omega
      replace hf := Hid.mk' hf
      clear hs
      go_enter Tryz.func48, Tryz.ntmps48
      go_wp2
      go_ret
      exact ⟨by rw [← hf.out]; rfl, rfl⟩
    · have hf : szI x = false := by
        cases h : szI x with
        | false => rfl
        | true =>
          unfold szI at h
          have := szB_le (by simpa using (Bool.and_eq_true_iff.1 h).2)
          omega
      rw [hf]
      clear hf
      go_enter Tryz.func48, Tryz.ntmps48
      go_wp2
      go_ret
      exact ⟨rfl, rfl⟩
  · have hf : szI x = false := by
      cases h : szI x with
      | false => rfl
      | true =>
        unfold szI at h
        have := szB_le (by simpa using (Bool.and_eq_true_iff.1 h).2)
        omega
    rw [hf]
    clear hf
    go_enter Tryz.func48, Tryz.ntmps48
    go_wp2
    go_ret
    exact ⟨rfl, rfl⟩
/-- May this machine be? -/
def mayM (m : Mc) : Bool := szB m.me.length && decide (m.st ≤ 2)
set_option maxHeartbeats 400000 in
theorem may_anyV (m : Mc) (sp : Option Addr) (n cap : Nat) (w : World) (hok : m.ok) (hl : Hid (n = m.me.length)) (hn : n ≤ 17592186044416) :
    Calls Tryz.prog 26 #[.agg (mcA m sp n cap)] w fun e w' => e = .returned (.bool (mayM m)) ∧ Below w.heap.size w w' := by
  have A0 := Arr.new w 27 (mcA m sp n cap)
  have c17 := (A0.cell 17).trans (mcA_17 hok.r16 sp n cap)
  have c18 := (A0.cell 18).trans (mcA_18 hok.r16 sp n cap)
  have hz : szI (n : Int) = szB m.me.length := by rw [szI_nat, hl.out]
  have hz := Hid.mk' hz
  unfold mayM
  generalize szB m.me.length = b at *
  generalize mcA m sp n cap = C at *
  cases b
  · go_enter Tryz.func26, Tryz.ntmps26
    go_wp2_with (go_at_call 48; go_must (refine (maySize_any _ _ (by omega)).mono ?_; rintro e w1 ⟨rfl, h⟩; subst h; rw [hz.out]))
    go_ret
    exact ⟨rfl, alloc_bel' _ _⟩
  · go_enter Tryz.func26, Tryz.ntmps26
    go_wp2_with (go_at_call 48; go_must (refine (maySize_any _ _ (by omega)).mono ?_; rintro e w1 ⟨rfl, h⟩; subst h; rw [hz.out]))
    go_ret
    exact ⟨rfl, alloc_bel' _ _⟩
end Go.Proofs.YtneihkegipcakaaGreat
/- Layer trace: upTo. -/
namespace Go.Proofs.YtneihkegipcakaaGreat
open Go.RowKit
set_option maxRecDepth 100000
set_option linter.unusedVariables false
set_option linter.unusedSimpArgs false


/-- A machine out of a row of machines. -/
theorem yM {ops : Array Oper} {S : World → Prop} {op : Oper} {a : Act} (hw : Region.wanted op (yielded ops a.tmps) = true) (x : Operand) (ho : op.op = .load 27 x)
    (g off : Nat) (hx : a.eval x = .pointer (some ⟨g, off, none⟩)) (C : Array Value) (hC : C.size = 19) (hS : ∀ u, S u → u.rangeAt g off C.toList) : YieldsIf Tryz.prog ops S op (.agg C) a := by
  have := yieldsIf_load_mid (P := Tryz.prog) (S := S) hw 27 x ho g off hx C.toList _ hS Tryz.underlying27 rfl (by rw [Array.length_toList, hC]; exact size45)
  simpa using this
theorem resM2 {f : Func} {w : World} {tmps : Array Value} {g t k : Nat} {C : Array Value} {v : Value} (hf : f.results = #[.cell t 27, .tmp k]) (hp : tmps.getD t undef = .pointer (some ⟨g, 0, none⟩)) (hk : tmps.getD k undef = v) (hC : C.size = 19) (hA : Arr w g 27 C) :
    (results f tmps).run Tryz.prog w = .ok (.tuple #[.agg C, v]) w := by
  have hr := run_loadVar_mid (P := Tryz.prog) w g 0 27 C.toList _ (fun j v hv => by rw [Nat.zero_add, hA.cell]; simpa using hv) Tryz.underlying27 rfl (by rw [Array.length_toList, hC]; exact size45)
  have hp' : tmps[t]?.getD undef = .pointer (some ⟨g, 0, none⟩) := by simpa using hp
  have hk' : tmps[k]?.getD undef = v := by simpa using hk
  simp [results, hf, hp', hk', asAddr, hr]
set_option maxHeartbeats 2000000 in
theorem upTo_any {w : World} {g gt gm c : Nat} {most len : Int} {m : Mc} {sp : Option Addr} {n cap : Nat} (A : Arr w g 84 (tcA most len gt gm c)) (hr : m.rg.length = 16) (hM : w.rangeAt gt 0 (mcA m sp n cap).toList) (hgt : gt < w.heap.size) (k : Int) (h0 : 0 ≤ k) (h1 : k < 1024) (hc : 1 ≤ c) :
    Calls Tryz.prog 54 #[.pointer (some ⟨g, 3, none⟩), .int .i64 k] w fun e w' => e = .returned (.tuple #[.agg (mcA m sp n cap), .int .i64 k]) ∧ Below w.heap.size w w' := by
  have hsz := mcA_size hr sp n cap
  have hone := mcA_one m sp n cap
  have c3 := A.cell 3
  have c4 := A.cell 4
  have hlt := A.lt
  unfold tcA at c3 c4
  clear A
  generalize mcA m sp n cap = C at *
  have hq : Int.tdiv k 1024 = 0 := by rw [Int.tdiv_eq_ediv_of_nonneg h0]; omega
  have hm : Int.tmod k 1024 = k := by rw [Int.tmod_eq_emod_of_nonneg h0]; omega
  have hw0 : IntKind.i64.wrap 0 = 0 := by decide
  have hwk : IntKind.i64.wrap k = k := (IntKind.wrap_i64 _).trans (by omega)
  go_enter Tryz.func54, Tryz.ntmps54
  go_upto_region 1 with fail
  have hS0 : ∀ u, Below w.heap.size w u → u.cell? ⟨g, 3, none⟩ = some (.int .i64 1024) ∧ u.cell? ⟨g, 4, none⟩ = some (.slice (some ⟨gt, 0, none⟩) 1 c) ∧ u.rangeAt gt 0 C.toList := fun u hb => ⟨(hb.cell (p := ⟨g, 3, none⟩) hlt).trans c3, (hb.cell (p := ⟨g, 4, none⟩) hlt).trans c4, fun j v hv => (hb.cell (p := ⟨gt, 0 + j, none⟩) hgt).trans (hM j v hv)⟩
  have hb0 := (alloc_bel' w (.cells #[.int .u64 0, .int .u64 0, .int .u64 0, .int .u64 0, .int .u64 0, .int .u64 0, .int .u64 0, .int .u64 0, .int .u64 0, .int .u64 0, .int .u64 0, .int .u64 0, .int .u64 0, .int .u64 0, .int .u64 0, .int .u64 0, .int .u64 0, .int .u8 0, .slice none 0 0] 27)).drew
  refine rgn (fun u => u.cell? ⟨g, 3, none⟩ = some (.int .i64 1024) ∧ u.cell? ⟨g, 4, none⟩ = some (.slice (some ⟨gt, 0, none⟩) 1 c) ∧ u.rangeAt gt 0 C.toList) (hS0 _ hb0) (fun hSw => ?_)
  refine tk3 0 rfl ?_
  refine tk3 1 rfl ?_
  refine tk3 2 rfl ?_
  refine tk3 3 rfl ?_
  refine tk3 4 rfl ?_
  refine tk3 5 rfl ?_
  refine tk3 6 rfl ?_
  refine tk3 7 rfl ?_
  refine tk3 8 rfl ?_
  refine tk3 9 rfl ?_
  refine tk3 10 rfl ?_
  refine tl 11 rfl (yM rfl (.tmp 16) rfl gt 0 rfl C hsz (fun u h => h.2.2)) ?_
  refine tk3 12 rfl ?_
  refine tk3 13 rfl ?_
  refine tk3 14 rfl ?_
  refine tk3 15 rfl ?_
  refine tk3 16 rfl ?_
  refine tk3 17 rfl ?_
  refine rd 18 rfl (fun K hK => ?_)
  refine step_want rfl (wp_store_row 27 (.tmp 4) (.tmp 17) rfl w.heap.size C rfl rfl 27 _ (Arr.new w 27 #[.int .u64 0, .int .u64 0, .int .u64 0, .int .u64 0, .int .u64 0, .int .u64 0, .int .u64 0, .int .u64 0, .int .u64 0, .int .u64 0, .int .u64 0, .int .u64 0, .int .u64 0, .int .u64 0, .int .u64 0, .int .u64 0, .int .u64 0, .int .u8 0, .slice none 0 0]).drew (by rw [hsz]; exact size45) (by rw [hsz]; rfl) hone ?_)
  refine hK.out _ _ (hS0 _ (below_setRow hb0 (Nat.le_refl _) C)) (fun hSv => ?_)
  clear hK K
  try simp only [Act.put, List.setIfInBounds_toArray, List.set_cons_zero, List.set_cons_succ]
  refine tk3 19 rfl ?_
  refine dn ?_
  go_wp2_with fail
  exact bodyPost_ret (v := .tuple #[.agg C, .int .i64 k]) (resM2 Tryz.results54 rfl rfl hsz ((Arr.new w 27 #[.int .u64 0, .int .u64 0, .int .u64 0, .int .u64 0, .int .u64 0, .int .u64 0, .int .u64 0, .int .u64 0, .int .u64 0, .int .u64 0, .int .u64 0, .int .u64 0, .int .u64 0, .int .u64 0, .int .u64 0, .int .u64 0, .int .u64 0, .int .u8 0, .slice none 0 0]).drew.setRow C)) rfl ⟨rfl, below_setRow hb0 (Nat.le_refl _) C⟩
end Go.Proofs.YtneihkegipcakaaGreat
/- Layer trace: what the layers below give. -/
namespace Go.Proofs.YtneihkegipcakaaGreat
open Go.RowKit
set_option maxRecDepth 100000
set_option linter.unusedVariables false
set_option linter.unusedSimpArgs false

/-- A machine by value, and its memory. -/
structure MVV (w : World) (m : Mc) (C : Array Value) : Prop where
  ex : ∃ sp n cap, C = mcA m sp n cap ∧ MS w.heap.size w sp n cap m.me
  ok : m.ok
theorem MVV.size {w : World} {m : Mc} {C : Array Value} (h : MVV w m C) : C.size = 19 := by
  obtain ⟨sp, n, cap, rfl, -⟩ := h.ex
  exact mcA_size h.ok.r16 _ _ _
end Go.Proofs.YtneihkegipcakaaGreat
/- Layer trace: what the layers below give. -/
namespace Go.Proofs.YtneihkegipcakaaGreat
open Go.RowKit
set_option maxRecDepth 100000
set_option linter.unusedVariables false
set_option linter.unusedSimpArgs false

/-- A number in eight bytes. -/
def e8 (n : Int) : List Int := (List.range 8).map fun j => n / 2 ^ (56 - 8 * j) % 256
theorem e8_len (n : Int) : (e8 n).length = 8 := by simp [e8]
/-- A leaf. -/
def lf (b : List Int) : List Int := shl (0 :: b)
end Go.Proofs.YtneihkegipcakaaGreat
/- Layer trace: what the layers below give. -/
namespace Go.Proofs.YtneihkegipcakaaGreat
open Go.RowKit
set_option maxRecDepth 100000
set_option linter.unusedVariables false
set_option linter.unusedSimpArgs false

/-- A word's leaf. -/
def lw (x : Int) : List Int := lf (e8 x)
theorem lw_len (x : Int) : (lw x).length = 32 := shl_len _
/-- The leaves of words. -/
def lvs (L : List Int) : List (List Int) := L.map lw
theorem lvs_len (L : List Int) : (lvs L).length = L.length := by simp [lvs]
theorem lvs_l32 (L : List Int) : ∀ x ∈ lvs L, x.length = 32 := by
  intro x hx
  obtain ⟨y, -, rfl⟩ := List.mem_map.1 hx
  exact lw_len y
/-- What stands at a place. -/
def tat (T : List (List Int)) (i : Nat) : List Int := T.getD i []
theorem tat_get {T : List (List Int)} {i : Nat} (h : i < T.length) : T[i]? = some (tat T i) := by simp [tat, List.getD_eq_getElem?_getD, List.getElem?_eq_getElem h]
theorem tat_l32 {T : List (List Int)} {i : Nat} (hT : ∀ x ∈ T, x.length = 32) (h : i < T.length) : (tat T i).length = 32 := hT _ (List.mem_of_getElem? (tat_get h))
theorem tat_lvs {L : List Int} {i : Nat} (h : i < L.length) : tat (lvs L) i = lw (L.getD i 0) := by
  simp [tat, lvs, List.getD_eq_getElem?_getD, List.getElem?_eq_getElem h]
/-- A tree's levels in one list, where P holds. -/
structure TI (n : Nat) (l T : List (List Int)) (P : Nat → Prop) : Prop where
  leaf : ∀ i, i < n → i < T.length → tat T i = tat l i
  node : ∀ k, n + k < T.length → P k → tat T (n + k) = pr (tat T (2 * k)) (tat T (2 * k + 1))
  l32 : ∀ x ∈ T, x.length = 32
theorem TI.nil (n : Nat) (l : List (List Int)) (P : Nat → Prop) : TI n l [] P := ⟨fun i _ h => by simp at h, fun k h => by simp at h, fun x h => by cases h⟩
theorem mem_set_or {T : List (List Int)} {i : Nat} {X x : List Int} (h : x ∈ T.set i X) : x = X ∨ x ∈ T := by
  rcases List.mem_or_eq_of_mem_set h with h | h
  · exact Or.inr h
  · exact Or.inl h
theorem szB_pow {n : Nat} (h : szB n = true) : ∃ d, d ≤ 12 ∧ n = 2 ^ d := by
  unfold szB at h
  rw [List.any_eq_true] at h
  obtain ⟨k, hk, e⟩ := h
  simp at hk e
  exact ⟨k, by omega, e⟩
theorem pow_szB {d : Nat} (h : d ≤ 12) : szB (2 ^ d) = true := by
  unfold szB
  rw [List.any_eq_true]
  exact ⟨d, by simp; omega, by simp⟩
/-- The root of words: what is answered where they may be. -/
def rW (L : List Int) : List Int := if szB L.length = true then tr (Nat.log2 L.length) (lvs L) else Z32
def eW (L : List Int) : Int := if szB L.length = true then 0 else 2
theorem rW_pow {L : List Int} {d : Nat} (hd : d ≤ 12) (h : L.length = 2 ^ d) : rW L = tr d (lvs L) ∧ eW L = 0 := by
  unfold rW eW
  rw [h, pow_szB hd, Nat.log2_two_pow]; simp
theorem rW_no {L : List Int} (h : szB L.length = false) : rW L = Z32 ∧ eW L = 2 := by
  unfold rW eW
  rw [h]; simp
theorem rW_len (L : List Int) : (rW L).length = 32 := by
  unfold rW; split
  · exact tr_len _ _ (lvs_l32 L)
  · exact Z32_len
end Go.Proofs.YtneihkegipcakaaGreat
/- Layer trace: what the layers below give. -/
namespace Go.Proofs.YtneihkegipcakaaGreat
open Go.RowKit
set_option maxRecDepth 100000
set_option linter.unusedVariables false
set_option linter.unusedSimpArgs false

/-- Sums in block g, from its head on. -/
structure HB (w : World) (g : Nat) (T : List (List Int)) : Prop where
  arr : ∃ C, Arr w g 40 C
  sum : ∀ i X, T[i]? = some X → w.rangeAt g (i * 32) (by8 X)
  l32 : ∀ X ∈ T, X.length = 32
theorem HB.below {w w' : World} {g B : Nat} {T : List (List Int)} (h : HB w g T) (hb : Below B w w') (hg : g < B) : HB w' g T :=
  ⟨let ⟨C, hC⟩ := h.arr; ⟨C, hC.below hb hg⟩, fun i X hX => range_below (h.sum i X hX) hb hg, h.l32⟩
theorem HB.lt {w : World} {g : Nat} {T : List (List Int)} (h : HB w g T) : g < w.heap.size := let ⟨_, hC⟩ := h.arr; hC.lt
theorem HB.at {w : World} {g i : Nat} {T : List (List Int)} (h : HB w g T) (hi : i < T.length) : w.rangeAt g (i * 32) (by8 (tat T i)) := h.sum i _ (tat_get hi)
theorem HB.block {w w' : World} {g : Nat} {T : List (List Int)} (h : HB w g T) (hb : w'.heap[g]? = w.heap[g]?) : HB w' g T :=
  ⟨let ⟨C, hC⟩ := h.arr; ⟨C, hb.trans hC⟩, fun i X hX j v hv => (World.cell?_of_block (a := ⟨g, i * 32 + j, none⟩) hb).trans (h.sum i X hX j v hv), h.l32⟩
theorem MW.block' {w w' : World} {g : Nat} {L : List Int} (h : MW w g L) (hb : w'.heap[g]? = w.heap[g]?) : MW w' g L :=
  let ⟨C, hC, h2⟩ := h; ⟨C, hb.trans hC, h2⟩
theorem HB.there {w : World} {g i : Nat} {T : List (List Int)} (h : HB w g T) (hi : i < T.length) : w.there g (i * 32) 32 := fun j hj => by
  obtain ⟨C, hC⟩ := h.arr
  have hX := h.at hi
  have hl := tat_l32 h.l32 hi
  exact ⟨by rw [hX j _ (by8_get (by omega))]; rfl, hC.frozen _⟩
theorem arr_setCells {g ty : Nat} : ∀ (vs : List Value) (o : Nat) (w : World), (∃ C, Arr w g ty C) → ∃ C, Arr (w.setCells g o vs) g ty C
  | [], _, _, h => h
  | v :: r, o, w, ⟨C, h⟩ => by rw [World.setCells]; exact arr_setCells r (o + 1) _ ⟨_, h.set o v⟩
/-- A sum is set. -/
theorem HB.set {w : World} {g i : Nat} {T : List (List Int)} (h : HB w g T) (hi : i < T.length) {X : List Int} (hX : X.length = 32) : HB (w.setCells g (i * 32) (by8 X)) g (T.set i X) := by
  have hth := h.there hi
  refine ⟨arr_setCells _ _ _ h.arr, fun j Y hY => ?_, fun Y hY => ?_⟩
  · by_cases e : i = j
    · subst e
      rw [List.getElem?_set_self hi] at hY
      cases hY
      exact World.rangeAt_setCells_same _ _ _ _ (by rw [by8_len, hX]; exact hth)
    · rw [List.getElem?_set_ne e] at hY
      refine World.rangeAt_setCells_apart (h.sum j Y hY) _ _ _ (.inr ?_)
      rw [by8_len, by8_len, hX, h.l32 Y (List.mem_of_getElem? hY)]
      omega
  · rcases mem_set_or hY with rfl | hY
    · exact hX
    · exact h.l32 Y hY
/-- A word is set. -/
theorem MW.set {w : World} {g i : Nat} {L : List Int} (h : MW w g L) (hi : i < L.length) (x : Int) : MW (w.setCell ⟨g, i, none⟩ (.int .u64 x)) g (L.set i x) := by
  obtain ⟨C, hA, hC⟩ := h
  refine ⟨_, hA.set i _, fun t ht => ?_⟩
  rw [List.length_set] at ht
  have hs : i < C.size := (Array.getElem?_eq_some_iff.1 (hC i hi)).1
  by_cases e : i = t
  · subst e
    rw [Array.getElem?_setIfInBounds_self_of_lt hs]
    simp [List.getD_eq_getElem?_getD, hi]
  · rw [Array.getElem?_setIfInBounds_ne e, hC t ht]
    simp [List.getD_eq_getElem?_getD, List.getElem?_set_ne e]
/-- The function that a tree sums by. -/
def fL : Value := .func (Fn.func 90) #[] #[]
/-- A tree in memory: its three parts, its words, its sums. -/
structure MF (w : World) (g n m : Nat) (L : List Int) (T : List (List Int)) (gt ct gl cl : Nat) : Prop where
  c0 : w.cell? ⟨g, 0, none⟩ = some fL
  c1 : w.cell? ⟨g, 1, none⟩ = some (.slice (some ⟨gt, 0, none⟩) n ct)
  c2 : w.cell? ⟨g, 2, none⟩ = some (.slice (some ⟨gl, 0, none⟩) m cl)
  words : MW w gt L
  sums : HB w gl T
  hL : Hid (L.length = n)
  hT : Hid (T.length = m)
  hm : Hid (m + 1 = 2 * n)
  n0 : 0 < n
  n4 : n ≤ 4096
  ct1 : n ≤ ct
  ct2 : ct ≤ 9223372036854775807
  cl1 : m ≤ cl
  cl2 : cl ≤ 9223372036854775807
  ne1 : g ≠ gt
  ne2 : g ≠ gl
  ne3 : gt ≠ gl
theorem MF.lt {w : World} {g n m : Nat} {L : List Int} {T : List (List Int)} {gt ct gl cl : Nat} (h : MF w g n m L T gt ct gl cl) : g < w.heap.size ∧ gt < w.heap.size ∧ gl < w.heap.size :=
  ⟨block_lt_of_cell h.c0, h.words.lt, h.sums.lt⟩
theorem MF.block {w w' : World} {g n m : Nat} {L : List Int} {T : List (List Int)} {gt ct gl cl : Nat} (h : MF w g n m L T gt ct gl cl) (hb : ∀ k, k = g ∨ k = gt ∨ k = gl → w'.heap[k]? = w.heap[k]?) : MF w' g n m L T gt ct gl cl :=
  { h with
    c0 := (World.cell?_of_block (a := ⟨g, 0, none⟩) (hb g (.inl rfl))).trans h.c0
    c1 := (World.cell?_of_block (a := ⟨g, 1, none⟩) (hb g (.inl rfl))).trans h.c1
    c2 := (World.cell?_of_block (a := ⟨g, 2, none⟩) (hb g (.inl rfl))).trans h.c2
    words := h.words.block' (hb gt (.inr (.inl rfl)))
    sums := h.sums.block (hb gl (.inr (.inr rfl))) }
theorem MF.below {w w' : World} {B g n m : Nat} {L : List Int} {T : List (List Int)} {gt ct gl cl : Nat} (h : MF w g n m L T gt ct gl cl) (hb : Below B w w') (h1 : g < B) (h2 : gt < B) (h3 : gl < B) : MF w' g n m L T gt ct gl cl :=
  h.block (fun k hk => hb.block k (by rcases hk with rfl | rfl | rfl <;> assumption))
end Go.Proofs.YtneihkegipcakaaGreat
/- Layer trace: what the layers below give. -/
namespace Go.Proofs.YtneihkegipcakaaGreat
open Go.RowKit
set_option maxRecDepth 100000
set_option linter.unusedVariables false
set_option linter.unusedSimpArgs false

set_option maxRecDepth 100000 in
set_option maxHeartbeats 2000000 in
theorem sum_none (B : Nat → Int) (w : World) :
    Calls Tryz.prog 114 #[.slice none 0 0] w fun e w' => ∃ C : Array Value, e = .returned (.agg C) ∧ C.size = 32 ∧ (∀ t, t < 32 → C[t]? = some (.int .u8 (outB (shaSt B 0 0) t))) ∧ Below w.heap.size w w' := by
  have hS0 : ∀ (u : World) (q : Option Addr), Sl u q 0 B := fun _ _ h0 => absurd h0 (by omega)
  have E1 : shaSt B 0 0 = absorbN kOf (padB B 0 0 64) h0St 1 := by rw [shaSt_one (by omega), show (fun t => B (64 * 0 + t)) = B from funext fun t => by rw [Nat.mul_zero, Nat.zero_add]]; rfl
  have E1 := Hid.mk' E1
  go_enter Tryz.func114, Tryz.ntmps114
  go_upto_region 4 with (first
    | (go_at_call 142; go_must (refine (roundNumbers_any _).mono ?_; rintro e w1 ⟨rfl, hb1⟩))
    | (refine wpList_store_new w1 _ 205 (by rfl) 205 (.tmp 3) (.tmp 6) (by rfl) kCells (by rfl) (by rfl) (Eq.trans size46 (by rfl)) (by rfl) (one_ints kCells_size kCells_get) ?_)
    | (go_at_call 143; go_must (refine (firstWords_any _).mono ?_; rintro e w2 ⟨rfl, hb2⟩))
    | (refine wpList_store_new w2 _ 186 (by rfl) 186 (.tmp 4) (.tmp 7) (by rfl) h0St.cells (by rfl) (by rfl) (s48 _) (by rfl) (St.one _) ?_))
  have hA4 : Arr (w2.alloc (.cells h0St.cells 186)) w2.heap.size 186 h0St.cells := Arr.new _ _ _
  have hK3 : Arr (w2.alloc (.cells h0St.cells 186)) w1.heap.size 205 kCells := ((Arr.new w1 205 kCells).below hb2 (by simp)).alloc _
  have hg34 : w.heap.size < w1.heap.size := by have := hb1.size; simp at this; omega
  have hg45 : w1.heap.size < w2.heap.size := by have := hb2.size; simp at this; omega
  have hbl : Below w.heap.size w (w2.alloc (.cells h0St.cells 186)) :=
    ((((((Below.refl _ _).alloc (Nat.le_refl _) _).trans (hb1.mono (by simp))).alloc (by omega) _).trans (hb2.mono (by simp; omega))).alloc (by omega) _)
  have hR : ∃ Z : Array Value, Z.size = 32 ∧ Arr (w2.alloc (.cells h0St.cells 186)) w.heap.size 40 Z :=
    ⟨_, by rfl, ((((Arr.new w 40 _).below hb1 (by simp)).alloc _).below hb2 (by simp; omega)).alloc _⟩
  obtain ⟨Z, hZs, hZ⟩ := hR
  clear hb1 hb2
  generalize w2.alloc (.cells h0St.cells 186) = W at *
  generalize w2.heap.size = g4 at *
  generalize w1.heap.size = g3 at *
  go_cut [] from 6 (fun wc => Arr wc g4 186 h0St.cells ∧ Arr wc g3 205 kCells ∧ Arr wc w.heap.size 40 Z ∧ Below w.heap.size w wc)
  case first =>
    obtain ⟨c0, c1, c2, c3, c4, c5, c6, c7⟩ := hA4.cells8
    go_region_with (first
      | (go_at_call 144; go_must (refine (absorb_zero h0St _ _ g3 _).mono ?_; rintro e w3 ⟨rfl, hb3⟩; have hA5 := hA4.drew.below hb3 hA4.lt; have hst := hA5.store8 h0St)))
    all_goals
      go_wp2_with fail
      go_meet
      exact ⟨hA5.setRow _, (hK3.drew.below hb3 hK3.lt).setRowOther _ (by omega), (hZ.drew.below hb3 hZ.lt).setRowOther _ (by omega), below_setRow (hbl.drew.trans (hb3.mono hbl.size)) (by omega) _⟩
  case rest =>
    clear hA4 hK3 hbl hZ
    obtain ⟨hA4, hK3, hZ, hbl⟩ := hcut
    go_upto_region 5 with fail
    obtain ⟨c0, c1, c2, c3, c4, c5, c6, c7⟩ := hA4.cells8
    go_cut [] from 6 (fun wc => Arr wc g4 186 (shaSt B 0 0).cells ∧ Arr wc w.heap.size 40 Z ∧ Below w.heap.size w wc)
    case first =>
      go_region_with (first
        | (go_at_call 145; go_must (refine (lastBlocks_any _ 0 _ 64 0 B wc.drew (hS0 _ _) (Or.inr ⟨by omega, rfl⟩) (by omega) (by omega) (by omega)).mono ?_; rintro e w4 ⟨C, rfl, hC, hCs, hCw, hb4⟩; have hA6 := hA4.drew.below hb4 hA4.lt; have hK6 := (hK3.drew.below hb4 hK3.lt).row kCells_get; have hg3 := (hK3.drew.below hb4 hK3.lt).lt; have hBy : Bytes w4 wc.heap.size 0 (64 * 1) (padB B 0 0 64) := (fun t ht => by rw [Nat.zero_add]; exact (hC.cell t).trans (hCw t ht)); obtain ⟨c0, c1, c2, c3, c4, c5, c6, c7⟩ := hA6.cells8; clear hCw))
        | (go_at_call 144; go_must (refine (absorb_any h0St wc.heap.size 0 64 1 g3 kOf _ w4 hBy (by omega) (by omega) hg3 hK6).mono ?_; rintro e w5 ⟨rfl, hb5⟩; have hA7 := hA6.below hb5 hA6.lt; have hst := hA7.store8 (absorbN kOf (padB B 0 0 64) h0St 1))))
      all_goals
        go_wp2_with fail
        go_meet
        rw [E1.out]
        exact ⟨hA7.setRow _, (((hZ.drew.below hb4 hZ.lt).below hb5 (hZ.drew.below hb4 hZ.lt).lt)).setRowOther _ (by omega), below_setRow ((hbl.drew.trans (hb4.mono hbl.size)).trans (hb5.mono (Nat.le_trans hbl.size hb4.size))) (by omega) _⟩
    case rest =>
      clear hA4 hK3 hbl hZ c0 c1 c2 c3 c4 c5 c6 c7
      obtain ⟨hA4, hZ, hbl⟩ := hcut
      go_wp2_with (first
        | (refine wpList_load_row rfl 186 (.tmp 4) rfl g4 rfl 186 (shaSt B 0 0).cells (0, 0) _ hA4 Tryz.underlying186 rfl (s48 _) ?_)
        | (go_at_call 146; go_must (refine (fromWords_any (shaSt B 0 0) _).mono ?_; rintro e w6 ⟨C, rfl, hCs, hCw, hb6⟩; have hZ6 := hZ.below hb6 hZ.lt))
        | (refine wpList_store_arr rfl 40 (.tmp 2) (.tmp 29) rfl w.heap.size C rfl rfl 40 Z hZ6 (by rw [hCs]; exact size24) (by rw [hCs]; exact hZs) (one_ints hCs hCw) ?_))
      exact bodyPost_ret (v := .agg C) (results_cell_row Tryz.results114 _ _ w.heap.size 40 C (0, 0) _ rfl (hZ6.setRow C) Tryz.underlying40 rfl (by rw [hCs]; exact size24)) rfl ⟨C, rfl, hCs, hCw, below_setRow (hbl.trans (hb6.mono hbl.size)) (Nat.le_refl _) C⟩
set_option maxRecDepth 100000 in
set_option maxHeartbeats 2000000 in
theorem sum_ad0 (ad : Addr) (B : Nat → Int) (w : World) :
    Calls Tryz.prog 114 #[.slice (some ad) 0 0] w fun e w' => ∃ C : Array Value, e = .returned (.agg C) ∧ C.size = 32 ∧ (∀ t, t < 32 → C[t]? = some (.int .u8 (outB (shaSt B 0 0) t))) ∧ Below w.heap.size w w' := by
  have hS0 : ∀ (u : World) (q : Option Addr), Sl u q 0 B := fun _ _ h0 => absurd h0 (by omega)
  have E1 : shaSt B 0 0 = absorbN kOf (padB B 0 0 64) h0St 1 := by rw [shaSt_one (by omega), show (fun t => B (64 * 0 + t)) = B from funext fun t => by rw [Nat.mul_zero, Nat.zero_add]]; rfl
  have E1 := Hid.mk' E1
  go_enter Tryz.func114, Tryz.ntmps114
  go_upto_region 4 with (first
    | (go_at_call 142; go_must (refine (roundNumbers_any _).mono ?_; rintro e w1 ⟨rfl, hb1⟩))
    | (refine wpList_store_new w1 _ 205 (by rfl) 205 (.tmp 3) (.tmp 6) (by rfl) kCells (by rfl) (by rfl) (Eq.trans size46 (by rfl)) (by rfl) (one_ints kCells_size kCells_get) ?_)
    | (go_at_call 143; go_must (refine (firstWords_any _).mono ?_; rintro e w2 ⟨rfl, hb2⟩))
    | (refine wpList_store_new w2 _ 186 (by rfl) 186 (.tmp 4) (.tmp 7) (by rfl) h0St.cells (by rfl) (by rfl) (s48 _) (by rfl) (St.one _) ?_))
  have hA4 : Arr (w2.alloc (.cells h0St.cells 186)) w2.heap.size 186 h0St.cells := Arr.new _ _ _
  have hK3 : Arr (w2.alloc (.cells h0St.cells 186)) w1.heap.size 205 kCells := ((Arr.new w1 205 kCells).below hb2 (by simp)).alloc _
  have hg34 : w.heap.size < w1.heap.size := by have := hb1.size; simp at this; omega
  have hg45 : w1.heap.size < w2.heap.size := by have := hb2.size; simp at this; omega
  have hbl : Below w.heap.size w (w2.alloc (.cells h0St.cells 186)) :=
    ((((((Below.refl _ _).alloc (Nat.le_refl _) _).trans (hb1.mono (by simp))).alloc (by omega) _).trans (hb2.mono (by simp; omega))).alloc (by omega) _)
  have hR : ∃ Z : Array Value, Z.size = 32 ∧ Arr (w2.alloc (.cells h0St.cells 186)) w.heap.size 40 Z :=
    ⟨_, by rfl, ((((Arr.new w 40 _).below hb1 (by simp)).alloc _).below hb2 (by simp; omega)).alloc _⟩
  obtain ⟨Z, hZs, hZ⟩ := hR
  clear hb1 hb2
  generalize w2.alloc (.cells h0St.cells 186) = W at *
  generalize w2.heap.size = g4 at *
  generalize w1.heap.size = g3 at *
  go_cut [] from 6 (fun wc => Arr wc g4 186 h0St.cells ∧ Arr wc g3 205 kCells ∧ Arr wc w.heap.size 40 Z ∧ Below w.heap.size w wc)
  case first =>
    obtain ⟨c0, c1, c2, c3, c4, c5, c6, c7⟩ := hA4.cells8
    go_region_with (first
      | (go_at_call 144; go_must (refine (absorb_zero h0St _ _ g3 _).mono ?_; rintro e w3 ⟨rfl, hb3⟩; have hA5 := hA4.drew.below hb3 hA4.lt; have hst := hA5.store8 h0St)))
    all_goals
      go_wp2_with fail
      go_meet
      exact ⟨hA5.setRow _, (hK3.drew.below hb3 hK3.lt).setRowOther _ (by omega), (hZ.drew.below hb3 hZ.lt).setRowOther _ (by omega), below_setRow (hbl.drew.trans (hb3.mono hbl.size)) (by omega) _⟩
  case rest =>
    clear hA4 hK3 hbl hZ
    obtain ⟨hA4, hK3, hZ, hbl⟩ := hcut
    go_upto_region 5 with fail
    obtain ⟨c0, c1, c2, c3, c4, c5, c6, c7⟩ := hA4.cells8
    go_cut [] from 6 (fun wc => Arr wc g4 186 (shaSt B 0 0).cells ∧ Arr wc w.heap.size 40 Z ∧ Below w.heap.size w wc)
    case first =>
      go_region_with (first
        | (go_at_call 145; go_must (refine (lastBlocks_any _ 0 _ 64 0 B wc.drew (hS0 _ _) (Or.inr ⟨by omega, rfl⟩) (by omega) (by omega) (by omega)).mono ?_; rintro e w4 ⟨C, rfl, hC, hCs, hCw, hb4⟩; have hA6 := hA4.drew.below hb4 hA4.lt; have hK6 := (hK3.drew.below hb4 hK3.lt).row kCells_get; have hg3 := (hK3.drew.below hb4 hK3.lt).lt; have hBy : Bytes w4 wc.heap.size 0 (64 * 1) (padB B 0 0 64) := (fun t ht => by rw [Nat.zero_add]; exact (hC.cell t).trans (hCw t ht)); obtain ⟨c0, c1, c2, c3, c4, c5, c6, c7⟩ := hA6.cells8; clear hCw))
        | (go_at_call 144; go_must (refine (absorb_any h0St wc.heap.size 0 64 1 g3 kOf _ w4 hBy (by omega) (by omega) hg3 hK6).mono ?_; rintro e w5 ⟨rfl, hb5⟩; have hA7 := hA6.below hb5 hA6.lt; have hst := hA7.store8 (absorbN kOf (padB B 0 0 64) h0St 1))))
      all_goals
        go_wp2_with fail
        go_meet
        rw [E1.out]
        exact ⟨hA7.setRow _, (((hZ.drew.below hb4 hZ.lt).below hb5 (hZ.drew.below hb4 hZ.lt).lt)).setRowOther _ (by omega), below_setRow ((hbl.drew.trans (hb4.mono hbl.size)).trans (hb5.mono (Nat.le_trans hbl.size hb4.size))) (by omega) _⟩
    case rest =>
      clear hA4 hK3 hbl hZ c0 c1 c2 c3 c4 c5 c6 c7
      obtain ⟨hA4, hZ, hbl⟩ := hcut
      go_wp2_with (first
        | (refine wpList_load_row rfl 186 (.tmp 4) rfl g4 rfl 186 (shaSt B 0 0).cells (0, 0) _ hA4 Tryz.underlying186 rfl (s48 _) ?_)
        | (go_at_call 146; go_must (refine (fromWords_any (shaSt B 0 0) _).mono ?_; rintro e w6 ⟨C, rfl, hCs, hCw, hb6⟩; have hZ6 := hZ.below hb6 hZ.lt))
        | (refine wpList_store_arr rfl 40 (.tmp 2) (.tmp 29) rfl w.heap.size C rfl rfl 40 Z hZ6 (by rw [hCs]; exact size24) (by rw [hCs]; exact hZs) (one_ints hCs hCw) ?_))
      exact bodyPost_ret (v := .agg C) (results_cell_row Tryz.results114 _ _ w.heap.size 40 C (0, 0) _ rfl (hZ6.setRow C) Tryz.underlying40 rfl (by rw [hCs]; exact size24)) rfl ⟨C, rfl, hCs, hCw, below_setRow (hbl.trans (hb6.mono hbl.size)) (Nat.le_refl _) C⟩
set_option maxRecDepth 100000 in
set_option maxHeartbeats 2000000 in
theorem sum_ad (ad : Addr) (cap : Nat) (hc : 0 < cap) (B : Nat → Int) (w : World) :
    Calls Tryz.prog 114 #[.slice (some ad) 0 cap] w fun e w' => ∃ C : Array Value, e = .returned (.agg C) ∧ C.size = 32 ∧ (∀ t, t < 32 → C[t]? = some (.int .u8 (outB (shaSt B 0 0) t))) ∧ Below w.heap.size w w' := by
  have hS0 : ∀ (u : World) (q : Option Addr), Sl u q 0 B := fun _ _ h0 => absurd h0 (by omega)
  have E1 : shaSt B 0 0 = absorbN kOf (padB B 0 0 64) h0St 1 := by rw [shaSt_one (by omega), show (fun t => B (64 * 0 + t)) = B from funext fun t => by rw [Nat.mul_zero, Nat.zero_add]]; rfl
  have E1 := Hid.mk' E1
  have hcI : (0 : Int) < cap := by omega
  go_enter Tryz.func114, Tryz.ntmps114
  go_upto_region 4 with (first
    | (go_at_call 142; go_must (refine (roundNumbers_any _).mono ?_; rintro e w1 ⟨rfl, hb1⟩))
    | (refine wpList_store_new w1 _ 205 (by rfl) 205 (.tmp 3) (.tmp 6) (by rfl) kCells (by rfl) (by rfl) (Eq.trans size46 (by rfl)) (by rfl) (one_ints kCells_size kCells_get) ?_)
    | (go_at_call 143; go_must (refine (firstWords_any _).mono ?_; rintro e w2 ⟨rfl, hb2⟩))
    | (refine wpList_store_new w2 _ 186 (by rfl) 186 (.tmp 4) (.tmp 7) (by rfl) h0St.cells (by rfl) (by rfl) (s48 _) (by rfl) (St.one _) ?_))
  have hA4 : Arr (w2.alloc (.cells h0St.cells 186)) w2.heap.size 186 h0St.cells := Arr.new _ _ _
  have hK3 : Arr (w2.alloc (.cells h0St.cells 186)) w1.heap.size 205 kCells := ((Arr.new w1 205 kCells).below hb2 (by simp)).alloc _
  have hg34 : w.heap.size < w1.heap.size := by have := hb1.size; simp at this; omega
  have hg45 : w1.heap.size < w2.heap.size := by have := hb2.size; simp at this; omega
  have hbl : Below w.heap.size w (w2.alloc (.cells h0St.cells 186)) :=
    ((((((Below.refl _ _).alloc (Nat.le_refl _) _).trans (hb1.mono (by simp))).alloc (by omega) _).trans (hb2.mono (by simp; omega))).alloc (by omega) _)
  have hR : ∃ Z : Array Value, Z.size = 32 ∧ Arr (w2.alloc (.cells h0St.cells 186)) w.heap.size 40 Z :=
    ⟨_, by rfl, ((((Arr.new w 40 _).below hb1 (by simp)).alloc _).below hb2 (by simp; omega)).alloc _⟩
  obtain ⟨Z, hZs, hZ⟩ := hR
  clear hb1 hb2
  generalize w2.alloc (.cells h0St.cells 186) = W at *
  generalize w2.heap.size = g4 at *
  generalize w1.heap.size = g3 at *
  go_cut [] from 6 (fun wc => Arr wc g4 186 h0St.cells ∧ Arr wc g3 205 kCells ∧ Arr wc w.heap.size 40 Z ∧ Below w.heap.size w wc)
  case first =>
    obtain ⟨c0, c1, c2, c3, c4, c5, c6, c7⟩ := hA4.cells8
    go_region_with (first
      | (go_at_call 144; go_must (refine (absorb_zero h0St _ _ g3 _).mono ?_; rintro e w3 ⟨rfl, hb3⟩; have hA5 := hA4.drew.below hb3 hA4.lt; have hst := hA5.store8 h0St)))
    all_goals
      go_wp2_with fail
      go_meet
      exact ⟨hA5.setRow _, (hK3.drew.below hb3 hK3.lt).setRowOther _ (by omega), (hZ.drew.below hb3 hZ.lt).setRowOther _ (by omega), below_setRow (hbl.drew.trans (hb3.mono hbl.size)) (by omega) _⟩
  case rest =>
    clear hA4 hK3 hbl hZ
    obtain ⟨hA4, hK3, hZ, hbl⟩ := hcut
    go_upto_region 5 with fail
    obtain ⟨c0, c1, c2, c3, c4, c5, c6, c7⟩ := hA4.cells8
    go_cut [] from 6 (fun wc => Arr wc g4 186 (shaSt B 0 0).cells ∧ Arr wc w.heap.size 40 Z ∧ Below w.heap.size w wc)
    case first =>
      go_region_with (first
        | (go_at_call 145; go_must (refine (lastBlocks_any _ 0 _ 64 0 B wc.drew (hS0 _ _) (Or.inr ⟨by omega, rfl⟩) (by omega) (by omega) (by omega)).mono ?_; rintro e w4 ⟨C, rfl, hC, hCs, hCw, hb4⟩; have hA6 := hA4.drew.below hb4 hA4.lt; have hK6 := (hK3.drew.below hb4 hK3.lt).row kCells_get; have hg3 := (hK3.drew.below hb4 hK3.lt).lt; have hBy : Bytes w4 wc.heap.size 0 (64 * 1) (padB B 0 0 64) := (fun t ht => by rw [Nat.zero_add]; exact (hC.cell t).trans (hCw t ht)); obtain ⟨c0, c1, c2, c3, c4, c5, c6, c7⟩ := hA6.cells8; clear hCw))
        | (go_at_call 144; go_must (refine (absorb_any h0St wc.heap.size 0 64 1 g3 kOf _ w4 hBy (by omega) (by omega) hg3 hK6).mono ?_; rintro e w5 ⟨rfl, hb5⟩; have hA7 := hA6.below hb5 hA6.lt; have hst := hA7.store8 (absorbN kOf (padB B 0 0 64) h0St 1))))
      all_goals
        go_wp2_with fail
        go_meet
        rw [E1.out]
        exact ⟨hA7.setRow _, (((hZ.drew.below hb4 hZ.lt).below hb5 (hZ.drew.below hb4 hZ.lt).lt)).setRowOther _ (by omega), below_setRow ((hbl.drew.trans (hb4.mono hbl.size)).trans (hb5.mono (Nat.le_trans hbl.size hb4.size))) (by omega) _⟩
    case rest =>
      clear hA4 hK3 hbl hZ c0 c1 c2 c3 c4 c5 c6 c7
      obtain ⟨hA4, hZ, hbl⟩ := hcut
      go_wp2_with (first
        | (refine wpList_load_row rfl 186 (.tmp 4) rfl g4 rfl 186 (shaSt B 0 0).cells (0, 0) _ hA4 Tryz.underlying186 rfl (s48 _) ?_)
        | (go_at_call 146; go_must (refine (fromWords_any (shaSt B 0 0) _).mono ?_; rintro e w6 ⟨C, rfl, hCs, hCw, hb6⟩; have hZ6 := hZ.below hb6 hZ.lt))
        | (refine wpList_store_arr rfl 40 (.tmp 2) (.tmp 29) rfl w.heap.size C rfl rfl 40 Z hZ6 (by rw [hCs]; exact size24) (by rw [hCs]; exact hZs) (one_ints hCs hCw) ?_))
      exact bodyPost_ret (v := .agg C) (results_cell_row Tryz.results114 _ _ w.heap.size 40 C (0, 0) _ rfl (hZ6.setRow C) Tryz.underlying40 rfl (by rw [hCs]; exact size24)) rfl ⟨C, rfl, hCs, hCw, below_setRow (hbl.trans (hb6.mono hbl.size)) (Nat.le_refl _) C⟩
end Go.Proofs.YtneihkegipcakaaGreat
/- Layer trace: what the layers below give. -/
namespace Go.Proofs.YtneihkegipcakaaGreat
open Go.RowKit
set_option maxRecDepth 100000
set_option linter.unusedVariables false
set_option linter.unusedSimpArgs false

/-- Sum of whatever slice. -/
theorem sum_sl (sp : Option Addr) (n cap : Nat) (L : List Int) (w : World) (hn : n = L.length) (hnil : sp = none → n = 0 ∧ cap = 0) (hS : SlL w sp L) (hcap : n ≤ cap) (hb : n ≤ 140737488355328) :
    Calls Tryz.prog 114 #[.slice sp n cap] w fun e w' => e = .returned (.agg (sha L)) ∧ Below w.heap.size w w' := by
  by_cases h0 : 0 < L.length
  · obtain ⟨b, off, rfl, hB⟩ := hS h0
    subst hn
    exact sum_list b off cap L w hB hcap hb
  · obtain rfl : L = [] := List.eq_nil_of_length_eq_zero (by omega)
    simp only [List.length_nil] at hn
    subst hn
    have key : ∀ (e : Ending) (w' : World), (∃ C : Array Value, e = .returned (.agg C) ∧ C.size = 32 ∧ (∀ t, t < 32 → C[t]? = some (.int .u8 (outB (shaSt (bat []) 0 0) t))) ∧ Below w.heap.size w w') → e = .returned (.agg (sha [])) ∧ Below w.heap.size w w' := by
      rintro e w' ⟨C, rfl, hs, hC, hb⟩
      exact ⟨by rw [arr_eq hs hC]; rfl, hb⟩
    cases sp with
    | none =>
      obtain ⟨-, rfl⟩ := hnil rfl
      exact (sum_none (bat []) w).mono fun e w' h => key e w' h
    | some ad =>
      by_cases hc : 0 < cap
      · exact (sum_ad ad cap hc (bat []) w).mono fun e w' h => key e w' h
      · obtain rfl : cap = 0 := by omega
        exact (sum_ad0 ad (bat []) w).mono fun e w' h => key e w' h
theorem Bytes.take {w : World} {b off : Nat} {L M : List Int} (h : Bytes w b off (L ++ M).length (bat (L ++ M))) : Bytes w b off L.length (bat L) := fun t ht => by
  rw [h t (by simp; omega)]; simp [bat, List.getElem?_append_left ht]
end Go.Proofs.YtneihkegipcakaaGreat
/- Layer trace: what the layers below give. -/
namespace Go.Proofs.YtneihkegipcakaaGreat
open Go.RowKit
set_option maxRecDepth 100000
set_option linter.unusedVariables false
set_option linter.unusedSimpArgs false

/-- A tree, by value. -/
def tA (v u : Value) : Array Value := #[fL, v, u]
theorem own_ne {w : World} {base e s n g ty : Nat} {v : Value} {xs : List Value} {C : Array Value} (h : w.ownsRow base e s v n xs) (hA : Arr w g ty C) (hne : ty ≠ e) : some g ≠ v.ownBlock := by
  intro hv
  obtain ⟨-, ⟨rfl, -⟩ | ⟨b, cap, cur, rfl, -, hh, -⟩⟩ := h
  · cases hv
  · simp [Value.ownBlock] at hv
    subst hv
    unfold Arr at hA
    rw [hh] at hA
    simp at hA
    exact hne hA.2.symm
theorem take_snoc {ls : List (List Int)} {j : Nat} (h : j < ls.length) : ls.take (j + 1) = ls.take j ++ [tat ls j] := by
  rw [List.take_add_one, tat_get h]; rfl
/-- What stays while a tree grows. -/
structure GI (w : World) (b0 gT : Nat) (v u : Value) (j : Nat) (T : List (List Int)) (wr : World) : Prop where
  a0 : Arr wr b0 165 #[.nilFunc, .slice none 0 0, .slice none 0 0]
  aT : Arr wr gT 165 (tA v u)
  own : wr.ownsRow (b0 + 1) 40 32 u j (flat32 T)
  bel : Below w.heap.size w wr
theorem GI.below {w : World} {b0 gT : Nat} {v u : Value} {j : Nat} {T : List (List Int)} {wr w' : World} (h : GI w b0 gT v u j T wr) (hb : Below wr.heap.size wr w') : GI w b0 gT v u j T w' :=
  ⟨h.a0.below hb h.a0.lt, h.aT.below hb h.aT.lt, own_same h.own (fun k hk => hb.block k (own_lt h.own hk)), h.bel.trans (hb.mono h.bel.size)⟩
/-- One sum more: appended, and stored. -/
theorem GI.app {w : World} {b0 gT : Nat} {v u u' : Value} {j : Nat} {T : List (List Int)} {wr w' : World} {X : List Int} {o : Obj} (h : GI w b0 gT v u j T wr) (hb0 : b0 = w.heap.size) (hne : b0 < gT) (h1 : w'.ownsRow (b0 + 1) 40 32 u' (j + 1) (flat32 (T ++ [X]))) (hg : (wr.alloc o).grownBy w' u.ownBlock) :
    w'.cell? ⟨gT, 2, none⟩ = some u ∧ w'.frozen? ⟨gT, 2, none⟩ = false ∧ GI w b0 gT v u' (j + 1) (T ++ [X]) (w'.setCell ⟨gT, 2, none⟩ u') := by
  have e : ∀ k, k < wr.heap.size → some k ≠ u.ownBlock → w'.heap[k]? = wr.heap[k]? := fun k hk hn => (hg.block k (by simp; omega) hn).trans ((alloc_bel' wr o).block k hk)
  have aT' : Arr w' gT 165 (tA v u) := (e gT h.aT.lt (own_ne h.own h.aT (by decide))).trans h.aT
  have a0' : Arr w' b0 165 #[.nilFunc, .slice none 0 0, .slice none 0 0] := (e b0 h.a0.lt (own_ne h.own h.a0 (by decide))).trans h.a0
  have hsz := h.bel.size
  refine ⟨aT'.cell 2, aT'.frozen 2, a0'.setOther _ (show b0 ≠ gT by omega), ?_, ?_, ?_⟩
  · have := aT'.set 2 u'
    exact this
  · refine own_same h1 (fun k hk => Below.heap_setCell _ _ _ _ ?_)
    intro ek
    subst ek
    exact own_ne h1 aT' (by decide) hk.symm
  · have hb := (h.bel.alloc hsz o).grown hg (by simp; omega) (fun k e => by have := own_ge h.own k e; omega)
    have hgT : w.heap.size ≤ gT := by omega
    exact hb.setCell (p := ⟨gT, 2, none⟩) hgT _
end Go.Proofs.YtneihkegipcakaaGreat
