/- QVe, QVf, Aj, Mm, Mn, Cd, QVg, QVi, QTi, QZTn. -/
import Derived.Test.YtneihkegipcakaaGreatX01
import Derived.Test.YtneihkegipcakaaGreatX04
import Derived.Test.YtneihkegipcakaaGreatX05
import Derived.Test.YtneihkegipcakaaGreatX06
import Derived.Test.YtneihkegipcakaaGreatX07
import Derived.BigQuiet
import Derived.BigRegion
import Derived.ChangeKeysEq
import Derived.Deep.DeepCutAuto
import Derived.Deep.DrawnRows
import Derived.Deep.MidRow
import Derived.Deep.QuietTactic
import Derived.Deep.RegionHeld3
import Derived.Deep.RegionLaw
import Derived.Deep.RegionWith
import Derived.Deep.WholeRow
import Derived.DeepKeys3
import Derived.Great.BuildSlice
import Derived.Laws.AppendOwnNone
import Derived.Laws.BitsLemmas
import Derived.Laws.BytesArg
import Derived.Laws.CopyOwn
import Derived.Laws.ResultCell
import Derived.Laws.Tables
import Derived.Lib.SlBytesConst
import Derived.LoopIn
import Derived.LoopNIn
import Derived.Maps.AppendAt
import Derived.OwnWalkIn
import Derived.RangeFuncBound
import Derived.RangeFuncCalls
import Derived.RangeFuncLeaves
import Derived.RangeFuncNested
import Derived.RangeFuncRecord
import Derived.Shelf.Abstract
import Derived.Shelf.RegionOpen
import Derived.TacticsInMore
import Derived.WalkKit
import Derived.WalkLawsBesides
import Derived.WalkSpells
import Derived.Test.YtneihkegipcakaaGreatX02
import Derived.Test.YtneihkegipcakaaGreatX03
import Derived.Test.YtneihkegipcakaaGreatRows
import Derived.ChangeOld
import Derived.Deep.OwnRows
import Derived.Great.FillDense
import Derived.Laws.CopyRow
import Derived.Laws.DeepBits32
import Derived.Laws.MakeOwn
import Derived.Laws.OwnMore
import Derived.Lib.AppendZeros
import Derived.OpenShut
import Derived.ProofKit
import Derived.Recover
import Derived.ShutString
import Derived.SizedLaws
/- Layer trace: what the layers below give. -/
namespace Go.Proofs.YtneihkegipcakaaGreat
open Go.RowKit
set_option maxRecDepth 100000
set_option linter.unusedVariables false
set_option linter.unusedSimpArgs false

/-- A bool and the words beside it. -/
def dV (x : Int) : Array Value := if dOk x = true then cdA (dOp x) (dA x) (dB x) (dC x) (dI x) else cdA 0 0 0 0 0
theorem dV_yes {x : Int} (h : dOk x = true) : dV x = cdA (dOp x) (dA x) (dB x) (dC x) (dI x) := if_pos h
theorem dV_no {x : Int} (h : dOk x = false) : dV x = cdA 0 0 0 0 0 := if_neg (by rw [h]; simp)
theorem dOk_no1 {x : Int} (h : x / 72057594037927936 < 1) : dOk x = false := by
  unfold dOk dOp; simp; omega
theorem dOk_no2 {x : Int} (h : 25 < x / 72057594037927936) : dOk x = false := by
  unfold dOk dOp; simp; omega
theorem dOk_gap {x : Int} (h : ¬ x / 72057594037927936 < 1) (h2 : ¬ 25 < x / 72057594037927936) : dOk x = decide (x / 4294967296 % 4096 = 0) := by
  unfold dOk dOp
  rw [Bool.eq_iff_iff]
  simp
  omega
theorem dRg {x : Int} (hx : U64 x) : (0 ≤ dOp x ∧ dOp x < 256) ∧ (0 ≤ dA x ∧ dA x < 16) ∧ (0 ≤ dB x ∧ dB x < 16) ∧ (0 ≤ dC x ∧ dC x < 16) ∧ (0 ≤ dI x ∧ dI x < 4294967296) := by
  have h1 := hx.1
  have h2 := hx.2
  unfold dOp dA dB dC dI
  omega
/-- What Decode answers. -/
def DPost (x : Int) (w : World) (e : Ending) (w' : World) : Prop := e = .returned (.tuple #[.agg (dV x), .bool (dOk x)]) ∧ Below w.heap.size w w'
theorem DPost.mk' {x : Int} {w w' : World} {e : Ending} (b : Bool) (C : Array Value) (hb : dOk x = b) (hC : C = dV x) (he : e = .returned (.tuple #[.agg C, .bool b])) (hl : Below w.heap.size w w') : DPost x w e w' := by
  subst hb hC; exact ⟨he, hl⟩
theorem wrap8_of {x : Int} (h : 0 ≤ x) (h2 : x < 256) : IntKind.u8.wrap x = x := by
  simp only [IntKind.wrap, IntKind.bits, IntKind.signed]; simp; omega
theorem a8 (x : Int) : bits .and .u8 (IntKind.u8.wrap x) 15 = x % 16 := by
  have e : IntKind.u8.wrap x = x % 256 := by simp only [IntKind.wrap, IntKind.bits, IntKind.signed]; simp
  rw [e, and15_8 (by omega)]
  omega
theorem w32 (x : Int) : IntKind.u32.wrap x = x % 4294967296 := by simp only [IntKind.wrap, IntKind.bits, IntKind.signed]; simp
theorem size25 : (Tryz.prog.info? 75).map (·.size) = some 5 := by kernel_rfl
/-- An instruction, and a word beside it. -/
theorem resC {f : Func} {w : World} {tmps : Array Value} {g t k : Nat} {o a b c i : Int} {v : Value} (hf : f.results = #[.cell t 75, .tmp k]) (hp : tmps.getD t undef = .pointer (some ⟨g, 0, none⟩)) (hk : tmps.getD k undef = v) (hA : Arr w g 75 (cdA o a b c i)) :
    (results f tmps).run Tryz.prog w = .ok (.tuple #[.agg (cdA o a b c i), v]) w := by
  have hl := run_loadVar_mid (P := Tryz.prog) w g 0 75 (cdA o a b c i).toList _ (fun j v hv => by rw [Nat.zero_add, hA.cell]; simpa using hv) Tryz.underlying75 rfl size25
  have hp' : tmps[t]?.getD undef = .pointer (some ⟨g, 0, none⟩) := by simpa using hp
  have hk' : tmps[k]?.getD undef = v := by simpa using hk
  simp [results, hf, hp', hk', asAddr, hl]
theorem one25 (o a b c i : Int) : (cdA o a b c i).all (·.oneCell') = true := all_oneCell_toArray (cs := [.int .u8 o, .int .u8 a, .int .u8 b, .int .u8 c, .int .u32 i]) (by simp [Value.oneCell'])
/-- An instruction out of a block of its own, and into one. -/
theorem ldA25 {ops : Array Oper} {rest : List Oper} {o : Oper} {a : Act} {w : World} {Q : Exit → Act → World → Prop} (hgd : o.guard = none) (x : Operand) (ho : o.op = .load 75 x)
    (g : Nat) (hx : a.eval x = .pointer (some ⟨g, 0, none⟩)) (C : Array Value) (hC : C.size = 5) (hA : Arr w g 75 C)
    (h : wpList Tryz.prog ops Q rest (a.put o.dst (.agg C)) w) : wpList Tryz.prog ops Q (o :: rest) a w :=
  wpList_load_row hgd 75 x ho g hx 75 C (0, 0) _ hA Tryz.underlying75 rfl (by rw [hC]; exact size25) h
set_option maxHeartbeats 1000000 in
theorem decode_any {x : Int} (w : World) (hx : U64 x) :
    Calls Tryz.prog 119 #[.int .u64 x] w (DPost x w) := by
  have hx1 := hx.1
  have hx2 := hx.2
  by_cases h1 : x / 72057594037927936 < 1
  · have hd := dOk_no1 h1
    have hv := dV_no hd
    replace hd := Hid.mk' hd
    replace hv := Hid.mk' hv
    go_enter Tryz.func119, Tryz.ntmps119
    go_wp2
    exact bodyPost_ret (resC Tryz.results119 rfl rfl (o := 0) (a := 0) (b := 0) (c := 0) (i := 0) (Arr.new _ _ _)) rfl (DPost.mk' false _ hd.out hv.out.symm rfl ((Below.refl _ _).alloc (Nat.le_refl _) _))
  by_cases h2 : 25 < x / 72057594037927936
  · have hd := dOk_no2 h2
    have hv := dV_no hd
    replace hd := Hid.mk' hd
    replace hv := Hid.mk' hv
    go_enter Tryz.func119, Tryz.ntmps119
    go_wp2
    exact bodyPost_ret (resC Tryz.results119 rfl rfl (o := 0) (a := 0) (b := 0) (c := 0) (i := 0) (Arr.new _ _ _)) rfl (DPost.mk' false _ hd.out hv.out.symm rfl ((Below.refl _ _).alloc (Nat.le_refl _) _))
  have hg := and_gap hx
  have hd := dOk_gap h1 h2
  by_cases h3 : x / 4294967296 % 4096 = 0
  · rw [h3] at hg
    simp only [Int.zero_mul] at hg
    replace hd : dOk x = true := by rw [hd, h3]; rfl
    have hv := dV_yes hd
    have hcd : cdA (x / 72057594037927936) (x / 4503599627370496 % 16) (x / 281474976710656 % 16) (x / 17592186044416 % 16) (x % 4294967296) = dV x := by rw [hv]; rfl
    replace hd := Hid.mk' hd
    replace hcd := Hid.mk' hcd
    clear hv
    go_enter Tryz.func119, Tryz.ntmps119
    go_wp2
    exact bodyPost_ret (resC Tryz.results119 rfl rfl (Arr.new _ _ _)) rfl (DPost.mk' true _ hd.out hcd.out rfl ((Below.refl _ _).alloc (Nat.le_refl _) _))
  · have hne : (bits .and .u64 x 17587891077120 != 0) = true := by rw [hg]; simp; omega
    replace hd : dOk x = false := by rw [hd]; simpa using h3
    have hv := dV_no hd
    replace hd := Hid.mk' hd
    replace hv := Hid.mk' hv
    clear hg
    go_enter Tryz.func119, Tryz.ntmps119
    go_wp2
    exact bodyPost_ret (resC Tryz.results119 rfl rfl (o := 0) (a := 0) (b := 0) (c := 0) (i := 0) (Arr.new _ _ _)) rfl (DPost.mk' false _ hd.out hv.out.symm rfl ((Below.refl _ _).alloc (Nat.le_refl _) _))
end Go.Proofs.YtneihkegipcakaaGreat
/- Layer trace: what the layers below give. -/
namespace Go.Proofs.YtneihkegipcakaaGreat
open Go.RowKit
set_option maxRecDepth 100000
set_option linter.unusedVariables false
set_option linter.unusedSimpArgs false

theorem by64_set (L : List Int) (t : Nat) (x : Int) : (by64 L).set t (.int .u64 x) = by64 (L.set t x) := by
  simp [by64, List.map_set]
theorem mcL_x {m : Mc} (h : m.rg.length = 16) (v : Value) (X : List Value) (j : Nat) : (mcL m v ++ X)[19 + j]? = X[j]? := by
  rw [List.getElem?_append_right (by rw [mcL_len h]; omega), mcL_len h, Nat.add_sub_cancel_left]
theorem mcL_setPc (m : Mc) (v : Value) (X : List Value) (x : Int) : (mcL m v ++ X).set 0 (.int .u64 x) = mcL { m with pc := x } v ++ X := rfl
theorem mcL_setReg {m : Mc} (h : m.rg.length = 16) (v : Value) (X : List Value) {a : Nat} (ha : a < 16) (x : Int) : (mcL m v ++ X).set (1 + a) (.int .u64 x) = mcL { m with rg := m.rg.set a x } v ++ X := by
  rw [List.set_append_left _ _ (by rw [mcL_len h]; omega), mcL, Nat.add_comm, List.set_cons_succ, List.set_append_left _ _ (by rw [by64_len, h]; exact ha), by64_set]
  rfl
theorem mcL_setSt {m : Mc} (h : m.rg.length = 16) (v : Value) (X : List Value) (x : Int) : (mcL m v ++ X).set 17 (.int .u8 x) = mcL { m with st := x } v ++ X := by
  rw [List.set_append_left _ _ (by rw [mcL_len h]; omega), mcL, List.set_cons_succ, List.set_append_right _ _ (by rw [by64_len, h]; omega), by64_len, h]
  rfl
theorem MW.frozen {w : World} {gm : Nat} {L : List Int} (h : MW w gm L) (t : Nat) : w.frozen? ⟨gm, t, none⟩ = false := by
  obtain ⟨C, hA, hC⟩ := h
  exact hA.frozen t
theorem getD_set (L : List Int) (k t : Nat) (x : Int) (hk : k < L.length) : (L.set k x).getD t 0 = if t = k then x else L.getD t 0 := by
  simp only [List.getD_eq_getElem?_getD, List.getElem?_set]
  by_cases h : k = t
  · subst h; simp [hk]
  · simp [h, Ne.symm h]
theorem MW.setOther {w : World} {gm : Nat} {L : List Int} (h : MW w gm L) {a : Addr} (v : Value) (ha : gm ≠ a.block) : MW (w.setCell a v) gm L := by
  obtain ⟨C, hA, hC⟩ := h
  exact ⟨C, hA.setOther v ha, hC⟩
theorem MW.block {w w' : World} {gm : Nat} {L : List Int} (h : MW w gm L) (he : w'.heap[gm]? = w.heap[gm]?) : MW w' gm L := by
  obtain ⟨C, hA, hC⟩ := h
  exact ⟨C, he.trans hA, hC⟩
/-- A machine in block g, its words in block gm. -/
structure EN (w : World) (g : Nat) (ty : TypeId) (X : List Value) (gm n cap : Nat) (m : Mc) : Prop where
  eng : Arr w g ty (mcL m (.slice (some ⟨gm, 0, none⟩) n cap) ++ X).toArray
  mem : MW w gm m.me
  ne : g ≠ gm
  len : Hid (n = m.me.length)
  small : n ≤ 4096
  cap : n ≤ cap ∧ cap ≤ 9223372036854775807
  ok : m.ok
section
variable {w w' : World} {g gm n cap : Nat} {ty : TypeId} {X : List Value} {m : Mc}
theorem EN.c0 (h : EN w g ty X gm n cap m) : w.cell? ⟨g, 0, none⟩ = some (.int .u64 m.pc) := by
  rw [h.eng.cell]; rfl
theorem EN.cr (h : EN w g ty X gm n cap m) {a : Nat} (ha : a < 16) : w.cell? ⟨g, 1 + a, none⟩ = some (.int .u64 (m.rg.getD a 0)) := by
  rw [h.eng.cell]; simpa using mcL_reg h.ok.r16 _ X ha
theorem EN.c17 (h : EN w g ty X gm n cap m) : w.cell? ⟨g, 17, none⟩ = some (.int .u8 m.st) := by
  rw [h.eng.cell]; simpa using mcL_st h.ok.r16 _ X
theorem EN.c18 (h : EN w g ty X gm n cap m) : w.cell? ⟨g, 18, none⟩ = some (.slice (some ⟨gm, 0, none⟩) n cap) := by
  rw [h.eng.cell]; simpa using mcL_me h.ok.r16 _ X
theorem EN.cx (h : EN w g ty X gm n cap m) (j : Nat) : w.cell? ⟨g, 19 + j, none⟩ = X[j]? := by
  rw [h.eng.cell]; simpa using mcL_x h.ok.r16 _ X j
theorem EN.fz (h : EN w g ty X gm n cap m) (j : Nat) : w.frozen? ⟨g, j, none⟩ = false := h.eng.frozen j
theorem EN.cm (h : EN w g ty X gm n cap m) {t : Nat} (ht : t < n) : w.cell? ⟨gm, t, none⟩ = some (.int .u64 (m.me.getD t 0)) := h.mem.cell (by rw [← h.len.out]; exact ht)
theorem EN.fm (h : EN w g ty X gm n cap m) (j : Nat) : w.frozen? ⟨gm, j, none⟩ = false := h.mem.frozen j
theorem EN.lt (h : EN w g ty X gm n cap m) : g < w.heap.size := h.eng.lt
theorem EN.ltm (h : EN w g ty X gm n cap m) : gm < w.heap.size := h.mem.lt
theorem EN.below {B : Nat} (h : EN w g ty X gm n cap m) (hb : Below B w w') (hg : g < B) (hm : gm < B) : EN w' g ty X gm n cap m :=
  ⟨h.eng.below hb hg, h.mem.below hb hm, h.ne, h.len, h.small, h.cap, h.ok⟩
theorem EN.bel (h : EN w g ty X gm n cap m) (hb : Below w.heap.size w w') : EN w' g ty X gm n cap m := h.below hb h.lt h.ltm
theorem EN.block (h : EN w g ty X gm n cap m) (h1 : w'.heap[g]? = w.heap[g]?) (h2 : w'.heap[gm]? = w.heap[gm]?) : EN w' g ty X gm n cap m :=
  ⟨h1.trans h.eng, h.mem.block h2, h.ne, h.len, h.small, h.cap, h.ok⟩
theorem EN.setPc (h : EN w g ty X gm n cap m) {x : Int} (hx : U64 x) : EN (w.setCell ⟨g, 0, none⟩ (.int .u64 x)) g ty X gm n cap { m with pc := x } :=
  ⟨by have := h.eng.set 0 (.int .u64 x); rw [List.setIfInBounds_toArray, mcL_setPc] at this; exact this, h.mem.setOther _ (Ne.symm h.ne), h.ne, h.len, h.small, h.cap, ⟨hx, h.ok.r16, h.ok.rg, h.ok.st, h.ok.me⟩⟩
theorem EN.setSt (h : EN w g ty X gm n cap m) {x : Int} (hx : 0 ≤ x ∧ x < 256) : EN (w.setCell ⟨g, 17, none⟩ (.int .u8 x)) g ty X gm n cap { m with st := x } :=
  ⟨by have := h.eng.set 17 (.int .u8 x); rw [List.setIfInBounds_toArray, mcL_setSt h.ok.r16] at this; exact this, h.mem.setOther _ (Ne.symm h.ne), h.ne, h.len, h.small, h.cap, ⟨h.ok.pc, h.ok.r16, h.ok.rg, hx, h.ok.me⟩⟩
theorem EN.setReg (h : EN w g ty X gm n cap m) {a : Nat} (ha : a < 16) {x : Int} (hx : U64 x) : EN (w.setCell ⟨g, 1 + a, none⟩ (.int .u64 x)) g ty X gm n cap { m with rg := m.rg.set a x } :=
  ⟨by have := h.eng.set (1 + a) (.int .u64 x); rw [List.setIfInBounds_toArray, mcL_setReg h.ok.r16 _ _ ha] at this; exact this, h.mem.setOther _ (Ne.symm h.ne), h.ne, h.len, h.small, h.cap,
    ⟨h.ok.pc, by simpa using h.ok.r16, fun k => by rw [getD_set _ _ _ _ (by rw [h.ok.r16]; exact ha)]; split; exact hx; exact h.ok.rg k, h.ok.st, h.ok.me⟩⟩
theorem EN.setMem (h : EN w g ty X gm n cap m) {k : Nat} (hk : k < n) {x : Int} (hx : U64 x) : EN (w.setCell ⟨gm, k, none⟩ (.int .u64 x)) g ty X gm n cap { m with me := m.me.set k x } :=
  ⟨h.eng.setOther _ h.ne, h.mem.set (by rw [← h.len.out]; exact hk) x, h.ne, by show n = _; rw [List.length_set]; exact h.len.out, h.small, h.cap,
    ⟨h.ok.pc, h.ok.r16, h.ok.rg, h.ok.st, fun t => by rw [getD_set _ _ _ _ (by rw [← h.len.out]; exact hk)]; split; exact hx; exact h.ok.me t⟩⟩
end
end Go.Proofs.YtneihkegipcakaaGreat
/- Layer trace: what the layers below give. -/
namespace Go.Proofs.YtneihkegipcakaaGreat
open Go.RowKit
set_option maxRecDepth 100000
set_option linter.unusedVariables false
set_option linter.unusedSimpArgs false

theorem getD_none {L : List Int} {k : Nat} (h : L.length ≤ k) : L.getD k 0 = 0 := by rw [List.getD_eq_getElem?_getD, List.getElem?_eq_none h]; rfl
end Go.Proofs.YtneihkegipcakaaGreat
/- Layer trace: what the layers below give. -/
namespace Go.Proofs.YtneihkegipcakaaGreat
open Go.RowKit Go.Shelf
set_option maxRecDepth 100000
set_option linter.unusedVariables false
set_option linter.unusedSimpArgs false

/-- Levels that nothing waits at. -/
def zz : Array Value := arr 544 fun _ => .int .u8 0
theorem zz_get {t : Nat} (h : t < 544) : zz[t]? = some (.int .u8 0) := arr_get h
theorem bat_Z (j : Nat) : bat Z32 j = 0 := by
  unfold bat Z32
  rw [List.getD_eq_getElem?_getD, List.getElem?_replicate]
  split <;> rfl
theorem lv_new {w : World} {g ty : Nat} (h : Arr w g ty zz) : LV w g (fun _ => Z32) := by
  refine ⟨fun k hk j v hv => ?_, fun _ => Z32_len, fun j hj => ⟨?_, h.frozen _⟩⟩
  · have hj : j < 32 := by
      have := (List.getElem?_eq_some_iff.1 hv).1
      rw [by8_len, Z32_len] at this; exact this
    rw [h.cell, zz_get (by omega), ← hv, by8_get (by rw [Z32_len]; exact hj), bat_Z]
  · rw [h.cell, zz_get (by omega)]; rfl
theorem zero72 : (Tryz.prog.info? 228).map (·.zero) = some (some (.agg zz)) := by kernel_rfl
theorem zeroValue72 (w : World) : (zeroValue 228).run Tryz.prog w = .ok (.agg zz) w := by
  have h := zero72
  cases hq : Tryz.prog.info? 228 with
  | none => rw [hq] at h; cases h
  | some i =>
    rw [hq] at h
    have hz : i.zero = some (.agg zz) := by simpa using h
    simp [zeroValue, typeInfo, hq, hz]
set_option maxRecDepth 100000 in
set_option maxHeartbeats 1000000 in
theorem build_any (d N : Nat) (sp : Option Addr) (n cap : Nat) (ls : List (List Int)) (w : World) (hd : d ≤ 16) (hS : HS N w sp n cap ls) (hn : n ≤ 2 ^ d) :
    Calls Tryz.prog 140 #[.int .i64 d, .slice sp n cap, .func (Fn.func 141) #[] #[]] w fun e w' => e = .returned (.agg (h8 (tr d ls))) ∧ Below w.heap.size w w' := by
  have hS := hS.here
  have hl := hS.len
  have hsm := hS.small
  have h16 := pow16 hd
  have hn16 : n ≤ 65536 := by omega
  clear h16
  have hwd := width_any d hd
  obtain ⟨p, hp⟩ : ∃ p : Nat, p = 2 ^ d := ⟨_, rfl⟩
  rw [← hp] at hwd hn
  replace hp := Hid.mk' hp
  have hz72 := zeroValue72
  have A0 := (Arr.new w 40 (h8 Z32)).alloc (.cells zz 228)
  have A1 := Arr.new (w.alloc (.cells (h8 Z32) 40)) 228 zz
  rw [World.size_alloc] at A1
  have hb0 : Below w.heap.size w ((w.alloc (.cells (h8 Z32) 40)).alloc (.cells zz 228)) := (alloc_bel' w _).alloc (by simp) _
  have L0 := lv_new A1
  have hl32 := hS.l32
  go_enter Tryz.func140, Tryz.ntmps140
  go_wp2_with fail

  go_loopw [12] (fun q wr => ∃ (j : Nat) (W : Nat → List Int), q = .int .i64 (j : Int) ∧ j ≤ n ∧ Below w.heap.size w wr ∧ w.heap.size + 2 ≤ wr.heap.size ∧ Arr wr w.heap.size 40 (h8 Z32) ∧ LV wr (w.heap.size + 1) W ∧ Hid (Wt ls j W))
    (fun q _ => n - (intOf q).toNat)
  case atStart => exact ⟨0, fun _ => Z32, rfl, by omega, hb0, by simp, A0, L0, Hid.mk' (wt_zero ls _)⟩
  case round =>
    clear A0 A1 hb0 L0 hz72
    obtain ⟨j, W, rfl, hj, hbl, hsz, R0, R1, hW⟩ := hrel
    by_cases hlt : j < n
    · have hI : (j : Int) < n := by omega
      have hSr := hS.below hbl
      obtain ⟨g, off, rfl, hgN, hR⟩ := hSr.at0 (by omega)
      obtain ⟨X, hX⟩ : ∃ X, ls[j]? = some X := ⟨ls[j]'(by rw [← hl.out]; exact hlt), List.getElem?_eq_getElem _⟩
      have hX32 := hl32 X (List.mem_of_getElem? hX)
      have hRX := hR j X hX
      have X1 := Arr.new wr 40 (h8 X)
      have R0' := R0.alloc (.cells (h8 X) 40)
      have hbX := hbl.alloc (by omega) (.cells (h8 X) 40)
      have R1' := R1.below (alloc_bel' wr (.cells (h8 X) 40)) (by omega)
      replace hX := Hid.mk' hX
      go_wp2_with (first
        | (refine ld24 (by rfl) _ (by rfl) g (off + j * 32) (by rfl) X hX32 hRX ?_)
        | (refine st24n (by rfl) _ _ (by rfl) wr wr.heap.size rfl (by rfl) X (by rfl) (by rfl) hX32 ?_)
        | (refine ld24 (by rfl) _ (by rfl) wr.heap.size 0 (by rfl) X hX32 X1.range ?_)
        | (go_at_call 141; go_must (refine (itself_any X hX32 _).mono ?_; rintro e w2 ⟨rfl, hb2⟩; have hs2 := hb2.size; simp at hs2; have S0 := R0'.below hb2 (by simp <;> omega); have S1 := R1'.below hb2 (by simp <;> omega); have hb2w := hbX.trans (hb2.mono (by simp <;> omega))))
        | (go_at_call 157; go_must (refine (put_any ls j X W (w.heap.size + 1) _ hX32 hX.out (by omega) S1 hW.out).mono ?_; rintro e w3 ⟨⟨v3, rfl⟩, w4, k, r, hb4, hk, hr, rfl, hW4⟩; have hs4 := hb4.size)))
      go_roundw
      case rel =>
        have T1 := (S1.below hb4 (by omega)).set hk hr
        exact ⟨j + 1, _, by go_num, by omega, below_setCells (hb2w.trans (hb4.mono (by omega))) (by omega) _ _, by rw [size_setCells]; omega, (S0.below hb4 (by omega)).setCellsOther (by omega) _ _, T1, Hid.mk' hW4⟩
      case measure => simp [intOf]; omega
    · obtain rfl : j = n := by omega
      have hI : ¬ (j : Int) < j := by omega
      by_cases hall : j = p
      · have hallI : ((j : Int) == p) = true := by rw [beq_iff_eq]; omega
        have hW1 : W d = tr d ls := by
          have h := hW.out
          rw [hall, hp.out] at h
          exact wt_all h
        have hRd := R1.rg d (by omega)
        have hd32 := R1.l32 d
        have hdI : (d : Int) < 17 := by omega
        have hd0 : (0 : Int) ≤ d := by omega
        replace hW1 := Hid.mk' hW1
        replace hall := Hid.mk' hall
        go_wp2_with (first
          | (go_at_call 139; go_must (refine (hwd _).mono ?_; rintro e w2 ⟨rfl, rfl⟩))
          | (refine ld24 (by rfl) _ (by rfl) (w.heap.size + 1) (d * 32) (by rfl) (W d) hd32 hRd ?_)
          | (refine st24 (by rfl) _ _ (by rfl) w.heap.size (W d) Z32 (by rfl) (by rfl) hd32 Z32_len R0 ?_))
        exact bodyPost_ret (v := .agg (h8 (W d))) (res24 Tryz.results140 rfl hd32 (R0.setRow _)) rfl ⟨by rw [hW1.out], below_setRow hbl (Nat.le_refl _) _⟩
      · have hallI : ((j : Int) == p) = false := by rw [beq_eq_false_iff_ne]; omega
        have hlt2 : j < 2 ^ d := by rw [← hp.out]; omega
        have hfill := fill_any ls W (w.heap.size + 1) d j _ hl32 hd R1 hl.out hW.out hlt2
        have ht32 := tr_len d ls hl32
        replace hlt2 := Hid.mk' hlt2
        replace hall := Hid.mk' hall
        go_wp2_with (first
          | (go_at_call 139; go_must (refine (hwd _).mono ?_; rintro e w2 ⟨rfl, rfl⟩))
          | (go_at_call 158; go_must (refine hfill.mono ?_; rintro e w3 ⟨rfl, hb3⟩; have S0 := R0.below hb3 (by omega)))
          | (refine st24 (by rfl) _ _ (by rfl) w.heap.size (tr d ls) Z32 (by rfl) (by rfl) ht32 Z32_len S0 ?_))
        exact bodyPost_ret (v := .agg (h8 (tr d ls))) (res24 Tryz.results140 rfl ht32 (S0.setRow _)) rfl ⟨rfl, below_setRow (hbl.trans (hb3.mono (by omega))) (Nat.le_refl _) _⟩
end Go.Proofs.YtneihkegipcakaaGreat
/- Layer trace: what the layers below give. -/
namespace Go.Proofs.YtneihkegipcakaaGreat
open Go.RowKit Go.Shelf
set_option maxRecDepth 100000
set_option linter.unusedVariables false
set_option linter.unusedSimpArgs false

/-- Why a tree may not be. -/
def rE (d : Int) (n : Nat) : Int := if 0 ≤ d ∧ d ≤ 16 then (if n ≤ 2 ^ d.toNat then 0 else 4) else 2
/-- A root, or the zero sum. -/
def rR (d : Int) (ls : List (List Int)) : List Int := if rE d ls.length = 0 then tr d.toNat ls else Z32
theorem rR_len {d : Int} {ls : List (List Int)} (h : ∀ x ∈ ls, x.length = 32) : (rR d ls).length = 32 := by
  unfold rR; split
  · exact tr_len _ _ h
  · exact Z32_len
set_option maxRecDepth 100000 in
set_option maxHeartbeats 1000000 in
theorem root_any (d : Int) (N : Nat) (sp : Option Addr) (n cap : Nat) (ls : List (List Int)) (w : World) (hS : HS N w sp n cap ls) :
    Calls Tryz.prog 111 #[.int .i64 d, .slice sp n cap] w fun e w' => e = .returned (.tuple #[.agg (h8 (rR d ls)), .int .i64 (rE d ls.length)]) ∧ Below w.heap.size w w' := by
  have A0 := Arr.new w 40 (h8 Z32)
  have hb0 := alloc_bel' w (.cells (h8 Z32) 40)
  have hS0 := hS.here.below hb0
  have hsm := hS.small
  have hln := hS.len
  have hmd := mayDepth_any d
  unfold rR rE
  by_cases h1 : 0 ≤ d ∧ d ≤ 16
  · rw [decide_eq_true h1] at hmd
    simp only [if_pos h1]
    obtain ⟨m, rfl⟩ : ∃ m : Nat, d = m := ⟨d.toNat, by omega⟩
    have hm : m ≤ 16 := by omega
    simp only [Int.toNat_natCast]
    have hwd := width_any m hm
    rw [← hln.out]
    by_cases h2 : n ≤ 2 ^ m
    · simp only [if_pos h2, if_true]
      have hbd := fun w hS => build_any m w.heap.size sp n cap ls w hm hS h2
      obtain ⟨p, hp⟩ : ∃ p : Nat, p = 2 ^ m := ⟨_, rfl⟩
      rw [← hp] at hwd h2
      have h3 : ¬ (p : Int) < n := by omega
      have ht32 := tr_len m ls hS.l32
      clear hp
      go_enter Tryz.func111, Tryz.ntmps111
      go_wp2_with (first
        | (go_at_call 138; go_must (refine (hmd _).mono ?_; rintro e w2 ⟨rfl, rfl⟩))
        | (go_at_call 139; go_must (refine (hwd _).mono ?_; rintro e w2 ⟨rfl, rfl⟩))
        | (go_at_call 140; go_must (refine (hbd _ (hS0.mono (by simp))).mono ?_; rintro e w3 ⟨rfl, hb3⟩; have S0 := A0.below hb3 (by simp)))
        | (refine st24 (by rfl) _ _ (by rfl) w.heap.size (tr m ls) Z32 (by rfl) (by rfl) ht32 Z32_len S0 ?_))
      exact bodyPost_ret (v := .tuple #[.agg (h8 (tr m ls)), .int .i64 0]) (resP Tryz.results111 rfl rfl ht32 (S0.setRow _)) rfl ⟨rfl, below_setRow (hb0.trans (hb3.mono (by simp))) (Nat.le_refl _) _⟩
    · simp only [if_neg h2]
      obtain ⟨p, hp⟩ : ∃ p : Nat, p = 2 ^ m := ⟨_, rfl⟩
      rw [← hp] at hwd h2
      have h3 : (p : Int) < n := by omega
      clear hp
      go_enter Tryz.func111, Tryz.ntmps111
      go_wp2_with (first
        | (go_at_call 138; go_must (refine (hmd _).mono ?_; rintro e w2 ⟨rfl, rfl⟩))
        | (go_at_call 139; go_must (refine (hwd _).mono ?_; rintro e w2 ⟨rfl, rfl⟩))
        | (refine st24 (by rfl) _ _ (by rfl) w.heap.size Z32 Z32 (by rfl) (by rfl) Z32_len Z32_len A0 ?_))
      exact bodyPost_ret (v := .tuple #[.agg (h8 Z32), .int .i64 4]) (resP Tryz.results111 rfl rfl Z32_len (A0.setRow _)) rfl ⟨rfl, below_setRow hb0 (Nat.le_refl _) _⟩
  · rw [decide_eq_false h1] at hmd
    simp only [if_neg h1]
    go_enter Tryz.func111, Tryz.ntmps111
    go_wp2_with (first
      | (go_at_call 138; go_must (refine (hmd _).mono ?_; rintro e w2 ⟨rfl, rfl⟩))
      | (refine st24 (by rfl) _ _ (by rfl) w.heap.size Z32 Z32 (by rfl) (by rfl) Z32_len Z32_len A0 ?_))
    exact bodyPost_ret (v := .tuple #[.agg (h8 Z32), .int .i64 2]) (resP Tryz.results111 rfl rfl Z32_len (A0.setRow _)) rfl ⟨rfl, below_setRow hb0 (Nat.le_refl _) _⟩
end Go.Proofs.YtneihkegipcakaaGreat
/- Layer trace: what the layers below give. -/
namespace Go.Proofs.YtneihkegipcakaaGreat
open Go.RowKit
set_option maxRecDepth 100000
set_option linter.unusedVariables false
set_option linter.unusedSimpArgs false

theorem y24 {ops : Array Oper} {S : World → Prop} {op : Oper} {a : Act} (hw : Region.wanted op (yielded ops a.tmps) = true) (x : Operand) (ho : op.op = .load 40 x)
    (b o : Nat) (hx : a.eval x = .pointer (some ⟨b, o, none⟩)) (X : List Int) (hX : X.length = 32) (hS : ∀ w, S w → w.rangeAt b o (by8 X)) : YieldsIf Tryz.prog ops S op (.agg (h8 X)) a :=
  yieldsIf_load_mid hw 40 x ho b o hx (by8 X) _ hS Tryz.underlying40 rfl (by rw [by8_len, hX]; exact size24)
end Go.Proofs.YtneihkegipcakaaGreat
/- Layer trace: what the layers below give. -/
namespace Go.Proofs.YtneihkegipcakaaGreat
open Go.RowKit
set_option maxRecDepth 100000
set_option linter.unusedVariables false
set_option linter.unusedSimpArgs false

/-- The first entry that says to be a sum's. -/
structure Fst (es : List En) (X : List Int) (i : Nat) (e : En) : Prop where
  here : es[i]? = some e
  sm : e.sm = X
  first : ∀ (j : Nat) (f : En), j < i → es[j]? = some f → f.sm ≠ X
def pre (es : List En) (X : List Int) : Option En := match es.find? (fun e => decide (e.sm = X)) with
  | some e => if shl e.bs = X then some e else none
  | none => none
theorem Fst.find {es : List En} {X : List Int} {i : Nat} {e : En} (h : Fst es X i e) : es.find? (fun e => decide (e.sm = X)) = some e := by
  rw [List.find?_eq_some_iff_getElem]
  obtain ⟨hi, he⟩ := List.getElem?_eq_some_iff.1 h.here
  refine ⟨by simpa using h.sm, i, hi, he, fun j hj => ?_⟩
  have := h.first j _ hj (List.getElem?_eq_getElem (by omega))
  simpa using this
theorem Fst.pre {es : List En} {X : List Int} {i : Nat} {e : En} (h : Fst es X i e) : pre es X = if shl e.bs = X then some e else none := by
  unfold YtneihkegipcakaaGreat.pre; rw [h.find]
theorem pre_none {es : List En} {X : List Int} (h : ∀ (j : Nat) (f : En), es[j]? = some f → f.sm ≠ X) : pre es X = none := by
  have : es.find? (fun e => decide (e.sm = X)) = none := by
    rw [List.find?_eq_none]
    intro f hf
    obtain ⟨j, hj⟩ := List.getElem?_of_mem hf
    simpa using h j f hj
  unfold pre; rw [this]
/-- What place answers. -/
def PlPost (es : List En) (X : List Int) (w : World) (r : Ending) (w' : World) : Prop := Below w.heap.size w w' ∧
  ((∃ i e, Fst es X i e ∧ r = .returned (.tuple #[.int .i64 (i : Nat), .bool (decide (shl e.bs = X))])) ∨ ((∀ (j : Nat) (f : En), es[j]? = some f → f.sm ≠ X) ∧ r = .returned (.tuple #[.int .i64 0, .bool false])))
theorem eq_sum (L X : List Int) (hX : X.length = 32) (w : World) : (binOp .eql 40 (.agg (sha L)) (.agg (h8 X))).run Tryz.prog w = .ok (.bool (decide (shl L = X))) w := by
  rw [sha_h8]; exact run_eq24 (shl_len L) hX w
set_option maxHeartbeats 1000000 in
theorem place_any (sp : Option Addr) (n cap : Nat) (es : List En) (X : List Int) (N : Nat) (w : World) (hS : ES N w sp n cap es) (hX : X.length = 32) :
    Calls Tryz.prog 154 #[.slice sp n cap, .agg (h8 X)] w (PlPost es X w) := by
  have hl := hS.len
  have hsm := hS.small
  have hS := hS.here
  go_enter Tryz.func154, Tryz.ntmps154
  go_wp2_with fail
  go_loopw [10] (fun q wr => ∃ (k : Nat), q = .int .i64 (k : Int) ∧ k ≤ n ∧ Below w.heap.size w wr ∧ Arr wr w.heap.size 40 (h8 X) ∧ Hid (∀ (j : Nat) (f : En), j < k → es[j]? = some f → f.sm ≠ X))
    (fun q _ => n - (intOf q).toNat)
  case atStart => exact ⟨0, rfl, by omega, (Below.refl _ _).alloc (Nat.le_refl _) _, Arr.new w 40 _, Hid.mk' (fun j f hj => by omega)⟩
  case round =>
    obtain ⟨k, rfl, hk, hbl, hH, hno⟩ := hrel
    by_cases hlt : k < n
    · have hI : (k : Int) < n := by omega
      have hSr := hS.below hbl
      obtain ⟨g, off, rfl, hgN, hR⟩ := hSr.at0 (by omega)
      obtain ⟨e, he⟩ : ∃ e, es[k]? = some e := ⟨es[k]'(by rw [← hl.out]; exact hlt), List.getElem?_eq_getElem _⟩
      have hok := hSr.ok e (List.mem_of_getElem? he)
      have he32 := hok.s32
      have hRe := hR k e he
      have AE := Arr.new wr 111 e.arr
      have rE := range_sm (rangeE AE)
      have cE := range_c0 (rangeE AE)
      have hbE := alloc_bel' wr (.cells e.arr 111)
      have hbW := hbl.alloc hbl.size (.cells e.arr 111)
      have hH1 := (hH.alloc (.cells e.arr 111)).range
      have q1 := run_eq24 he32 hX
      have hHlt := hH.lt
      replace he := Hid.mk' he
      by_cases hq : e.sm = X
      · have hd : decide (e.sm = X) = true := by simpa using hq
        rw [hd] at q1
        have hfst := Hid.mk' (Fst.mk he.out hq hno.out)
        have hq2 := eq_sum e.bs X hX
        have hbs := hok.body.below (hbE.mono hbl.size)
        replace hq := Hid.mk' hq
        clear hd
        go_upto_region 5 with (first
          | (refine ld54 (by rfl) _ (by rfl) g (off + k * 33) (by rfl) e he32 hRe ?_)
          | (refine st54n (by rfl) _ _ (by rfl) wr wr.heap.size rfl (by rfl) e (by rfl) (by rfl) he32 ?_)
          | (refine ld24 (by rfl) _ (by rfl) wr.heap.size (0 + 1) (by rfl) e.sm he32 rE ?_)
          | (refine ld24 (by rfl) _ (by rfl) w.heap.size 0 (by rfl) X hX hH1 ?_))
        refine wp_region_held_drew (S := fun u => Below (wr.alloc (.cells e.arr 111)).heap.size (wr.alloc (.cells e.arr 111)) u) (by kernel_rfl) ((Below.refl _ _).drew) (fun hHeld => ?_)
        refine wpAnyH_take (i := 0) (oi := ⟨_, _, _, _, _, _⟩) (v := ?_) rfl (by kernel_rfl) (by kernel_rfl) (by kernel_rfl) (fun _ _ _ h => h) (Or.inl ⟨by rfl, ?_⟩) (by assumption) ?_
        rotate_left
        · intro u hSw
          go_simp
          try (with_reducible rfl)
        try simp only [Act.put, List.setIfInBounds_toArray, List.set_cons_zero, List.set_cons_succ]
        refine wpAnyH_take (i := 1) (oi := ⟨_, _, _, _, _, _⟩) (v := ?_) rfl (by kernel_rfl) (by kernel_rfl) (by kernel_rfl) (fun _ _ _ h => h) (Or.inl ⟨by rfl, ?_⟩) (by assumption) ?_
        rotate_left
        · intro u hSw
          go_simp
          try (with_reducible rfl)
        try simp only [Act.put, List.setIfInBounds_toArray, List.set_cons_zero, List.set_cons_succ]
        refine wpAnyH_take (i := 2) (oi := ⟨_, _, _, _, _, _⟩) (v := ?_) rfl (by kernel_rfl) (by kernel_rfl) (by kernel_rfl) (fun _ _ _ h => h) (Or.inl ⟨by rfl, ?_⟩) (by assumption) ?_
        rotate_left
        · intro u hSw
          have cu := (hSw.cell (p := ⟨wr.heap.size, 0, none⟩) (by simp)).trans cE
          go_simp
          try (with_reducible rfl)
        try simp only [Act.put, List.setIfInBounds_toArray, List.set_cons_zero, List.set_cons_succ]
        refine wpAnyH_take (i := 4) (oi := ⟨_, _, _, _, _, _⟩) rfl (by kernel_rfl) (by kernel_rfl) (by kernel_rfl) (fun _ _ _ h => h) (y24 (by rfl) (.tmp 3) rfl (w.heap.size) (0) rfl X hX (fun u hu => range_below hH1 hu (by simp; omega))) (by assumption) ?_
        try simp only [Act.put, List.setIfInBounds_toArray, List.set_cons_zero, List.set_cons_succ]
        refine wpAnyH_ready (rs := [3]) (by kernel_rfl) (by simp) ?_
        refine AllReadyH.cons (o := ⟨_, _, _, _, _, _⟩) rfl (fun K hK => ?_) AllReadyH.nil
        go_simp
        refine (sum_sl e.sp e.n e.cap e.bs (wr.alloc (.cells e.arr 111)).drew hbs.len.out hbs.nil hbs.sl hbs.le (by have := hbs.small; omega)).mono ?_
        rintro r u ⟨rfl, hu⟩
        have hHu := ((Below.refl (wr.alloc (.cells e.arr 111)).heap.size (wr.alloc (.cells e.arr 111))).drew).trans (hu.mono (by simp))
        go_wp2_with fail
        refine hK.out _ _ hHu (fun hHeld => ?_)
        clear hK K
        try simp only [Act.put, List.setIfInBounds_toArray, List.set_cons_zero, List.set_cons_succ]
        refine wpAnyH_take (i := 5) (oi := ⟨_, _, _, _, _, _⟩) (v := ?_) rfl (by kernel_rfl) (by kernel_rfl) (by kernel_rfl) (fun _ _ _ h => h) (Or.inl ⟨by rfl, ?_⟩) (by assumption) ?_
        rotate_left
        · intro u hSw
          go_simp
          try (with_reducible rfl)
        try simp only [Act.put, List.setIfInBounds_toArray, List.set_cons_zero, List.set_cons_succ]
        refine wpAnyH_take (i := 6) (oi := ⟨_, _, _, _, _, _⟩) (v := ?_) rfl (by kernel_rfl) (by kernel_rfl) (by kernel_rfl) (fun _ _ _ h => h) (Or.inl ⟨by rfl, ?_⟩) (by assumption) ?_
        rotate_left
        · intro u hSw
          go_simp
          try (with_reducible rfl)
        try simp only [Act.put, List.setIfInBounds_toArray, List.set_cons_zero, List.set_cons_succ]
        refine wpAnyH_take (i := 7) (oi := ⟨_, _, _, _, _, _⟩) (v := ?_) rfl (by kernel_rfl) (by kernel_rfl) (by kernel_rfl) (fun _ _ _ h => h) (Or.inl ⟨by rfl, ?_⟩) (by assumption) ?_
        rotate_left
        · intro u hSw
          go_simp
          try (with_reducible rfl)
        try simp only [Act.put, List.setIfInBounds_toArray, List.set_cons_zero, List.set_cons_succ]
        refine wpAnyH_done (by kernel_rfl) ?_ _
        go_wp2_with fail
        go_ret2
        exact ⟨hbW.trans (hHeld.mono (by have := hbl.size; simp; omega)), .inl ⟨k, e, hfst.out, rfl⟩⟩
      · have hd : decide (e.sm = X) = false := by simpa using hq
        rw [hd] at q1
        have hn2 : Hid (∀ (j : Nat) (f : En), j < k + 1 → es[j]? = some f → f.sm ≠ X) := Hid.mk' (fun j f hj hf => by
          by_cases hjk : j = k
          · subst hjk; rw [he.out] at hf; cases hf; exact hq
          · exact hno.out j f (by omega) hf)
        replace hq := Hid.mk' hq
        clear hd
        go_wp2_with (first
          | (refine ld54 (by rfl) _ (by rfl) g (off + k * 33) (by rfl) e he32 hRe ?_)
          | (refine st54n (by rfl) _ _ (by rfl) wr wr.heap.size rfl (by rfl) e (by rfl) (by rfl) he32 ?_)
          | (refine ld24 (by rfl) _ (by rfl) wr.heap.size (0 + 1) (by rfl) e.sm he32 rE ?_)
          | (refine ld24 (by rfl) _ (by rfl) w.heap.size 0 (by rfl) X hX hH1 ?_))
        go_roundw
        case rel => exact ⟨k + 1, by go_num, by omega, hbW, hH.alloc _, hn2⟩
        case measure => simp [intOf]; omega
    · have hI : ¬ (k : Int) < n := by omega
      obtain rfl : k = n := by omega
      have hn2 : Hid (∀ (j : Nat) (f : En), es[j]? = some f → f.sm ≠ X) := Hid.mk' (fun j f hf => hno.out j f (by rw [hl.out]; exact (List.getElem?_eq_some_iff.1 hf).1) hf)
      go_wp2_with fail
      go_ret2
      exact ⟨hbl, .inr ⟨hn2.out, rfl⟩⟩
end Go.Proofs.YtneihkegipcakaaGreat
/- Layer trace: what the layers below give. -/
namespace Go.Proofs.YtneihkegipcakaaGreat
open Go.RowKit
set_option maxRecDepth 100000
set_option linter.unusedVariables false
set_option linter.unusedSimpArgs false

/-- What was found stands where it was found. -/
def FIV (es : List En) (f : List Int → Option Int) : Prop := ∀ X i, X.length = 32 → f X = some i → ∃ (j : Nat) (e : En), i = j ∧ Fst es X j e ∧ shl e.bs = X
theorem FIV.nil (es : List En) : FIV es (fun _ => none) := fun X i _ h => by cases h
/-- The shelf's: in the memory that was handed in. -/
def ShPost (es : List En) (X : List Int) (N gp : Nat) (w : World) (r : Ending) (w' : World) : Prop :=
  (∃ f, MapH w' gp f ∧ FIV es f) ∧ w.heap.size ≤ w'.heap.size ∧ w'.os = w.os ∧ w'.tape = w.tape ∧ w'.output = w.output ∧ (∀ b, b < w.heap.size → b ≠ gp → w'.heap[b]? = w.heap[b]?) ∧
  ((∃ e, pre es X = some e ∧ e ∈ es ∧ r = .returned (.slice e.sp e.n e.cap)) ∨ (pre es X = none ∧ r = .panicked trapV))
theorem shP {es : List En} {X : List Int} {N gp : Nat} {w w' : World} {r : Ending} (hM : ∃ f, MapH w' gp f ∧ FIV es f) (hb : Below w.heap.size w w')
    (h : (∃ e, pre es X = some e ∧ e ∈ es ∧ r = .returned (.slice e.sp e.n e.cap)) ∨ (pre es X = none ∧ r = .panicked trapV)) : ShPost es X N gp w r w' :=
  ⟨hM, hb.size, hb.os, hb.tape, hb.output, fun b hlt _ => hb.block b hlt, h⟩
set_option maxHeartbeats 1000000 in
theorem shelf_any (sp : Option Addr) (n cap : Nat) (es : List En) (X : List Int) (N gp : Nat) (w : World) (hS : ES N w sp n cap es) (hN : N ≤ gp) (hX : X.length = 32) {f : List Int → Option Int} (hM : MapH w gp f) (hf : FIV es f) :
    Calls Tryz.prog 135 #[.agg #[.slice sp n cap, .map (some gp)], .agg (h8 X)] w (ShPost es X N gp w) := by
  have hl := hS.len
  have hgl := hM.lt
  have b1 := alloc_bel' w (.cells #[.slice sp n cap, .map (some gp)] 154)
  have b2 := b1.trans ((alloc_bel' (w.alloc (.cells #[.slice sp n cap, .map (some gp)] 154)) (.cells (h8 X) 40)).mono (by simp))
  have hS2 := hS.here.below b2
  have hM2 := hM.same (b2.block gp hgl)
  have A0 := (Arr.new w 154 #[.slice sp n cap, .map (some gp)]).alloc (.cells (h8 X) 40)
  have A1 := Arr.new (w.alloc (.cells #[.slice sp n cap, .map (some gp)] 154)) 40 (h8 X)
  simp only [World.size_alloc] at A1
  have hr := A1.range
  have hlk := run_lookupH hM2 X hX
  cases hq : f X with
  | some i0 =>
    obtain ⟨i, e, rfl, hF, hsh⟩ := hf X i0 hX hq
    rw [hq] at hlk
    simp only [Option.getD_some, Option.isSome_some] at hlk
    have hp := hF.pre
    rw [if_pos hsh] at hp
    have hi : i < n := by rw [hl.out]; exact (List.getElem?_eq_some_iff.1 hF.here).1
    have hI : (i : Int) < n := by omega
    obtain ⟨g, off, rfl, hgN, hR⟩ := hS2.at0 (by omega)
    have c0 := range_c0 (hR i e hF.here)
    have hfin := Hid.mk' (shP (N := N) (r := .returned (.slice e.sp e.n e.cap)) ⟨f, hM2, hf⟩ b2 (.inl ⟨e, hp, List.mem_of_getElem? hF.here, rfl⟩))
    clear hq hF hR hS2 hS hp hsh hf hM2 hM A1
    go_enter Tryz.func135, Tryz.ntmps135
    go_wp2_with (refine ld24 (by rfl) _ (by rfl) (w.heap.size + 1) 0 (by rfl) X hX hr ?_)
    go_ret
    exact hfin.out
  | none =>
    rw [hq] at hlk
    simp only [Option.getD_none, Option.isSome_none] at hlk
    go_enter Tryz.func135, Tryz.ntmps135
    go_upto_region 4 with (first
      | (refine ld24 (by rfl) (.tmp 3) (by rfl) (w.heap.size + 1) 0 (by rfl) X hX hr ?_)
      | (go_at_call 154; go_must (refine (place_any sp n cap es X _ _ hS2 hX).mono ?_; rintro r w1 ⟨hb1, ⟨i, e, hF, rfl⟩ | ⟨hno, rfl⟩⟩)))
    · have hb := b2.trans (hb1.mono (by simp; omega))
      have hp := hF.pre
      have hi : i < n := by rw [hl.out]; exact (List.getElem?_eq_some_iff.1 hF.here).1
      have hI : (i : Int) < n := by omega
      have hS3 := hS.here.below hb
      have hM3 := hM.same (hb.block gp hgl)
      have A03 := A0.below hb1 (by simp; omega)
      have A13 := A1.below hb1 (by simp)
      have hr3 := A13.range
      by_cases hqq : shl e.bs = X
      · rw [if_pos hqq] at hp
        have hd : decide (shl e.bs = X) = true := by simpa using hqq
        rw [hd]
        obtain ⟨o, hup, hM4⟩ := run_updateH hM3 X hX (i : Int) hq
        have A04 : Arr (w1.putObj gp o) w.heap.size 154 #[.slice sp n cap, .map (some gp)] := by
          have : (w1.putObj gp o).heap[w.heap.size]? = w1.heap[w.heap.size]? := by simp [World.putObj, Array.getElem?_setIfInBounds, show gp ≠ w.heap.size by omega]
          exact this.trans A03
        obtain ⟨g, off, rfl, hgN, hR⟩ := hS3.at0 (by omega)
        have c0' := range_c0 (hR i e hF.here)
        have hgb : g ≠ gp := by
          obtain ⟨g', off', e', hg', -⟩ := hS.at0 (by omega)
          cases e'
          omega
        have c0 : (w1.putObj gp o).cell? ⟨g, off + i * 33, none⟩ = some (.slice e.sp e.n e.cap) := by
          rw [World.cell?_of_block (w := w1) (a := ⟨g, off + i * 33, none⟩) (by simp [World.putObj, Array.getElem?_setIfInBounds, Ne.symm hgb])]
          exact c0'
        have hfin : Hid (ShPost es X N gp w (.returned (.slice e.sp e.n e.cap)) (w1.putObj gp o)) := Hid.mk' ⟨⟨_, hM4, fun Y j hY hj => by
            by_cases hYX : Y = X
            · subst hYX
              simp at hj
              exact ⟨i, e, hj.symm, hF, hqq⟩
            · simp [hYX] at hj
              exact hf Y j hY hj⟩, by simpa [World.putObj] using hb.size, hb.os, hb.tape, hb.output, fun b hlt hne => by
            have : (w1.putObj gp o).heap[b]? = w1.heap[b]? := by simp [World.putObj, Array.getElem?_setIfInBounds, Ne.symm hne]
            exact this.trans (hb.block b hlt), .inl ⟨e, hp, List.mem_of_getElem? hF.here, rfl⟩⟩
        have d0 := A03.cell 0
        have d1 := A03.cell 1
        have e0 := A04.cell 0
        have e1 := A04.cell 1
        simp at d0 d1 e0 e1
        clear hd hqq hF hR hS2 hS3 hS hp hf hM2 hM hM3 hM4 A1 A0 A03 A04 A13 hlk c0' hq
        go_wp2_with (refine ld24 (by rfl) (.tmp 3) (by rfl) (w.heap.size + 1) 0 (by rfl) X hX hr3 ?_)
        go_ret
        exact hfin.out
      · rw [if_neg hqq] at hp
        have hd : decide (shl e.bs = X) = false := by simpa using hqq
        rw [hd]
        have hfin := Hid.mk' (shP (N := N) (r := .panicked trapV) ⟨f, hM3, hf⟩ hb (.inr ⟨hp, rfl⟩))
        clear hd hqq hF hS2 hS3 hS hp hf hM2 hM hM3 A1 A0 A03 A13 hlk hq
        go_wp2_with fail
        exact ⟨rfl, hfin.out⟩
    · have hb := b2.trans (hb1.mono (by simp; omega))
      have hM3 := hM.same (hb.block gp hgl)
      have hfin := Hid.mk' (shP (N := N) (r := .panicked trapV) ⟨f, hM3, hf⟩ hb (.inr ⟨pre_none hno, rfl⟩))
      clear hno hS2 hS hf hM2 hM hM3 A1 A0 hlk hq
      go_wp2_with fail
      exact ⟨rfl, hfin.out⟩
end Go.Proofs.YtneihkegipcakaaGreat
/- Layer trace: what the layers below give. -/
namespace Go.Proofs.YtneihkegipcakaaGreat
open Go.RowKit
set_option maxRecDepth 100000
set_option linter.unusedVariables false
set_option linter.unusedSimpArgs false

theorem index24 (C : Array Value) (f : Nat → Int) (hC : ∀ t, t < 32 → C[t]? = some (.int .u8 (f t))) (k : Nat) (hk : k < 32) (w : World) :
    (Instr.index 40 (.agg C) (.int .i64 k)).run Tryz.prog w = .ok (.int .u8 (f k)) w := by
  have e : C[k]? = some (.int .u8 (f k)) := hC k hk
  simp [Instr.index, asIntOf, run_underlying Tryz.underlying40, Tryz.sizeOf5, part, Tryz.isAgg5, hk, e]
end Go.Proofs.YtneihkegipcakaaGreat
/- Layer trace: what the layers below give. -/
namespace Go.Proofs.YtneihkegipcakaaGreat
open Go.RowKit
set_option maxRecDepth 100000
set_option linter.unusedVariables false
set_option linter.unusedSimpArgs false

theorem u8s_one (n : Nat) (f : Nat → Int) : (u8s n f).all (·.oneCell') = true := one_ints (u8s_size n f) (fun _ h => u8s_get h)
theorem s24u8 (f : Nat → Int) : (Tryz.prog.info? 40).map (·.size) = some (u8s 32 f).size := by rw [u8s_size]; exact size24
end Go.Proofs.YtneihkegipcakaaGreat
