/- RTp, RVe, RVf, RVm, QVk, Jj, RVl. -/
import Derived.Test.YtimmiidkjpbffaaRows
import Derived.BigQuiet
import Derived.BigRegion
import Derived.ChangeKeysEq
import Derived.ChangeOld
import Derived.Deep.DeepCutAuto
import Derived.Deep.DrawnRows
import Derived.Deep.MidRow
import Derived.Deep.QuietTactic
import Derived.Deep.RegionHeld3
import Derived.Deep.RegionLaw
import Derived.Deep.RegionWith
import Derived.Deep.WholeRow
import Derived.Laws.AppendOwnNone
import Derived.Laws.BitsLemmas
import Derived.Laws.BytesArg
import Derived.Laws.CopyOwn
import Derived.Lib.SlBytesConst
import Derived.OpenShut
import Derived.ProofKit
import Derived.ShutString
import Derived.SizedLaws
import Derived.WalkKit
import Derived.WalkLawsBesides
import Derived.WalkSpells
import Derived.Test.YtimmiidkjpbffaaX01
import Derived.Test.YtimmiidkjpbffaaX02
import Derived.Test.YtimmiidkjpbffaaX03
import Derived.Test.YtimmiidkjpbffaaX20
import Derived.Test.YtimmiidkjpbffaaX27
import Derived.Test.YtimmiidkjpbffaaX21
import Derived.Test.YtimmiidkjpbffaaX28
import Derived.Test.YtimmiidkjpbffaaX29
import Derived.DeepKeys3
import Derived.Great.BuildSlice
import Derived.Laws.ResultCell
import Derived.Laws.Tables
import Derived.LoopIn
import Derived.LoopNIn
import Derived.Maps.AppendAt
import Derived.OwnWalkIn
import Derived.RangeFuncBound
import Derived.RangeFuncCalls
import Derived.RangeFuncLeaves
import Derived.RangeFuncNested
import Derived.RangeFuncRecord
import Derived.Shelf.Abstract
import Derived.Shelf.RegionOpen
import Derived.TacticsInMore
import Derived.Deep.OwnRows
import Derived.Great.FillDense
import Derived.Laws.CopyRow
import Derived.Laws.DeepBits32
import Derived.Laws.MakeOwn
import Derived.Laws.OwnMore
import Derived.Lib.AppendZeros
import Derived.Recover
import Derived.Deep.RegionHeld
import Derived.Handy
import Derived.KernelRfl
import Derived.Laws.AppendOwn
import Derived.LoopTactic
import Derived.OwnWalk
import Derived.Test.YtimmiidkjpbffaaX08
import Derived.Test.YtimmiidkjpbffaaX26
import Derived.Test.YtimmiidkjpbffaaX04
/- Layer compile: what the layers below give. -/
namespace Go.Proofs.Ytimmiidkjpbffaa
open Go.ChangeAt Go.ChangeShapes Go.RowKit Go.WideShapes
set_option maxRecDepth 100000
set_option linter.unusedVariables false
set_option linter.unusedSimpArgs false

theorem own : ownKnob Try.prog.godebug = none := by kernel_rfl
end Go.Proofs.Ytimmiidkjpbffaa
/- Layer compile: what the layers below give. -/
namespace Go.Proofs.Ytimmiidkjpbffaa
open Go.RowKit
set_option maxRecDepth 100000
set_option linter.unusedVariables false
set_option linter.unusedSimpArgs false

theorem dV_yes {x : Int} (h : dOk x = true) : dV x = cdA (dOp x) (dA x) (dB x) (dC x) (dI x) := if_pos h
theorem dV_no {x : Int} (h : dOk x = false) : dV x = cdA 0 0 0 0 0 := if_neg (by rw [h]; simp)
theorem dOk_no1 {x : Int} (h : x / 72057594037927936 < 1) : dOk x = false := by
  unfold dOk dOp; simp; omega
theorem dOk_no2 {x : Int} (h : 25 < x / 72057594037927936) : dOk x = false := by
  unfold dOk dOp; simp; omega
theorem dOk_gap {x : Int} (h : ¬ x / 72057594037927936 < 1) (h2 : ¬ 25 < x / 72057594037927936) : dOk x = decide (x / 4294967296 % 4096 = 0) := by
  unfold dOk dOp
  rw [Bool.eq_iff_iff]
  simp
  omega
theorem dRg {x : Int} (hx : U64 x) : (0 ≤ dOp x ∧ dOp x < 256) ∧ (0 ≤ dA x ∧ dA x < 16) ∧ (0 ≤ dB x ∧ dB x < 16) ∧ (0 ≤ dC x ∧ dC x < 16) ∧ (0 ≤ dI x ∧ dI x < 4294967296) := by
  have h1 := hx.1
  have h2 := hx.2
  unfold dOp dA dB dC dI
  omega
theorem a8 (x : Int) : bits .and .u8 (IntKind.u8.wrap x) 15 = x % 16 := by
  have e : IntKind.u8.wrap x = x % 256 := by simp only [IntKind.wrap, IntKind.bits, IntKind.signed]; simp
  rw [e, and15_8 (by omega)]
  omega
theorem size25 : (Try.prog.info? 108).map (·.size) = some 5 := by kernel_rfl
theorem cdA_size (o a b c i : Int) : (cdA o a b c i).size = 5 := rfl
/-- An instruction, and a word beside it. -/
theorem resC {f : Func} {w : World} {tmps : Array Value} {g t k : Nat} {o a b c i : Int} {v : Value} (hf : f.results = #[.cell t 108, .tmp k]) (hp : tmps.getD t undef = .pointer (some ⟨g, 0, none⟩)) (hk : tmps.getD k undef = v) (hA : Arr w g 108 (cdA o a b c i)) :
    (results f tmps).run Try.prog w = .ok (.tuple #[.agg (cdA o a b c i), v]) w := by
  have hl := run_loadVar_mid (P := Try.prog) w g 0 108 (cdA o a b c i).toList _ (fun j v hv => by rw [Nat.zero_add, hA.cell]; simpa using hv) Try.underlying108 rfl size25
  have hp' : tmps[t]?.getD undef = .pointer (some ⟨g, 0, none⟩) := by simpa using hp
  have hk' : tmps[k]?.getD undef = v := by simpa using hk
  simp [results, hf, hp', hk', asAddr, hl]
theorem one25 (o a b c i : Int) : (cdA o a b c i).all (·.oneCell') = true := all_oneCell_toArray (cs := [.int .u8 o, .int .u8 a, .int .u8 b, .int .u8 c, .int .u32 i]) (by simp [Value.oneCell'])
/-- An instruction out of a block of its own, and into one. -/
theorem ldA25 {ops : Array Oper} {rest : List Oper} {o : Oper} {a : Act} {w : World} {Q : Exit → Act → World → Prop} (hgd : o.guard = none) (x : Operand) (ho : o.op = .load 108 x)
    (g : Nat) (hx : a.eval x = .pointer (some ⟨g, 0, none⟩)) (C : Array Value) (hC : C.size = 5) (hA : Arr w g 108 C)
    (h : wpList Try.prog ops Q rest (a.put o.dst (.agg C)) w) : wpList Try.prog ops Q (o :: rest) a w :=
  wpList_load_row hgd 108 x ho g hx 108 C (0, 0) _ hA Try.underlying108 rfl (by rw [hC]; exact size25) h
theorem stN25 {ops : Array Oper} {rest : List Oper} {o : Oper} {a : Act} {w : World} {Q : Exit → Act → World → Prop} {p q r s t : Int} (hgd : o.guard = none) (x y : Operand) (ho : o.op = .store 108 x y)
    (g : Nat) (hx : a.eval x = .pointer (some ⟨g, 0, none⟩)) (hy : a.eval y = .agg (cdA p q r s t)) (D : Array Value) (hA : Arr w g 108 D) (hD : D.size = 5)
    (h : wpList Try.prog ops Q rest (a.put o.dst undef) (w.setRow g (cdA p q r s t))) : wpList Try.prog ops Q (o :: rest) a w :=
  wpList_store_arr hgd 108 x y ho g _ hx hy 108 D hA size25 hD (one25 p q r s t) h
set_option maxHeartbeats 1000000 in
theorem refdecode_any {x : Int} (w : World) (hx : U64 x) :
    Calls Try.prog 68 #[.int .u64 x] w (DPost x w) := by
  have hx1 := hx.1
  have hx2 := hx.2
  have hR := dRg hx
  have e1 : bits .and .u64 (x / 4503599627370496) 15 = dA x := and15_64 (ediv_u hx (by omega))
  have e2 : bits .and .u64 (x / 281474976710656) 15 = dB x := and15_64 (ediv_u hx (by omega))
  have e3 : bits .and .u64 (x / 17592186044416) 15 = dC x := and15_64 (ediv_u hx (by omega))
  have e5 := w32 x
  have f1 := wrap8_of (x := dA x) (by omega) (by omega)
  have f2 := wrap8_of (x := dB x) (by omega) (by omega)
  have f3 := wrap8_of (x := dC x) (by omega) (by omega)
  have hcall : ∀ W, Calls Try.prog 92 #[.agg #[.int .u8 (x / 72057594037927936), .int .u8 (dA x), .int .u8 (dB x), .int .u8 (dC x), .int .u32 (x % 4294967296)]] W fun e w' => e = .returned (.int .u64 (wdI (x / 72057594037927936) (dA x) (dB x) (dC x) (x % 4294967296))) ∧ Below W.heap.size W w' := fun W => refWord_any W (by have := hR.1; unfold dOp at this; exact this) (by omega) (by omega) (by omega) (by omega)
  have hww := Hid.mk' (word_dec hx)
  clear hR
  by_cases h1 : x / 72057594037927936 < 1
  · have hd := dOk_no1 h1
    have hv := dV_no hd
    replace hd := Hid.mk' hd
    replace hv := Hid.mk' hv
    go_enter Try.func68, Try.ntmps68
    go_wp2_with (refine stN25 (by rfl) (.tmp 2) (.tmp 37) (by rfl) w.heap.size (by rfl) (by rfl) _ ((Arr.new w 108 _).alloc _) rfl ?_)
    exact bodyPost_ret (resC Try.results68 rfl rfl (o := 0) (a := 0) (b := 0) (c := 0) (i := 0) (((Arr.new w 108 _).alloc _).setRow _)) rfl (DPost.mk' false _ hd.out hv.out.symm rfl (below_setRow (((Below.refl _ _).alloc (Nat.le_refl _) _).alloc (by simp) _) (Nat.le_refl _) _))
  by_cases h2 : 25 < x / 72057594037927936
  · have hd := dOk_no2 h2
    have hv := dV_no hd
    replace hd := Hid.mk' hd
    replace hv := Hid.mk' hv
    go_enter Try.func68, Try.ntmps68
    go_wp2_with (refine stN25 (by rfl) (.tmp 2) (.tmp 37) (by rfl) w.heap.size (by rfl) (by rfl) _ ((Arr.new w 108 _).alloc _) rfl ?_)
    exact bodyPost_ret (resC Try.results68 rfl rfl (o := 0) (a := 0) (b := 0) (c := 0) (i := 0) (((Arr.new w 108 _).alloc _).setRow _)) rfl (DPost.mk' false _ hd.out hv.out.symm rfl (below_setRow (((Below.refl _ _).alloc (Nat.le_refl _) _).alloc (by simp) _) (Nat.le_refl _) _))
  have hd := dOk_gap h1 h2
  by_cases h3 : x / 4294967296 % 4096 = 0
  · replace hd : dOk x = true := by rw [hd, h3]; rfl
    have hv := dV_yes hd
    have hcd : cdA (x / 72057594037927936) (dA x) (dB x) (dC x) (x % 4294967296) = dV x := by rw [hv]; rfl
    clear hv
    replace hd := Hid.mk' hd
    replace hcd := Hid.mk' hcd
    have hq : wdI (x / 72057594037927936) (dA x) (dB x) (dC x) (x % 4294967296) = x := hww.out.2 h3
    replace hq := Hid.mk' hq
    go_enter Try.func68, Try.ntmps68
    go_wp2_with (first
      | (go_at_call 92; go_must (refine (hcall _).mono ?_; rintro e w1 ⟨rfl, hb1⟩; rw [hq.out]; have A0 := ((Arr.new w 108 #[.int .u8 0, .int .u8 0, .int .u8 0, .int .u8 0, .int .u32 0]).alloc (.cells (cdA (x / 72057594037927936) (dA x) (dB x) (dC x) (x % 4294967296)) 108)).below hb1 (by simp; omega); have A1 := (Arr.new (w.alloc (.cells #[.int .u8 0, .int .u8 0, .int .u8 0, .int .u8 0, .int .u32 0] 108)) 108 (cdA (x / 72057594037927936) (dA x) (dB x) (dC x) (x % 4294967296))).below hb1 (by simp); simp only [World.size_alloc] at A1; have B1 := (((Below.refl w.heap.size w).alloc (Nat.le_refl _) (.cells #[.int .u8 0, .int .u8 0, .int .u8 0, .int .u8 0, .int .u32 0] 108)).alloc (by simp) (.cells (cdA (x / 72057594037927936) (dA x) (dB x) (dC x) (x % 4294967296)) 108)).trans (hb1.mono (by simp; omega)); generalize hcc : cdA (x / 72057594037927936) (dA x) (dB x) (dC x) (x % 4294967296) = CC at A0 A1 B1))
      | (refine ldA25 (by rfl) (.tmp 4) (by rfl) (w.heap.size + 1) (by rfl) CC (by rw [← hcc]; rfl) A1 ?_; go_simp)
      | (refine stN25 (by rfl) (.tmp 2) (.tmp 38) (by rfl) w.heap.size (by rfl) (by rw [← hcc]; rfl) _ A0 rfl ?_))
    subst hcc
    exact bodyPost_ret (resC Try.results68 rfl rfl (A0.setRow _)) rfl (DPost.mk' true _ hd.out hcd.out rfl (below_setRow B1 (Nat.le_refl _) _))
  · replace hd : dOk x = false := by rw [hd]; simpa using h3
    have hv := dV_no hd
    replace hd := Hid.mk' hd
    replace hv := Hid.mk' hv
    have hq : (wdI (x / 72057594037927936) (dA x) (dB x) (dC x) (x % 4294967296) != x) = true := by simp only [bne_iff_ne]; exact fun e => h3 (hww.out.1 e)
    go_enter Try.func68, Try.ntmps68
    go_wp2_with (first
      | (go_at_call 92; go_must (refine (hcall _).mono ?_; rintro e w1 ⟨rfl, hb1⟩; have A0 := ((Arr.new w 108 #[.int .u8 0, .int .u8 0, .int .u8 0, .int .u8 0, .int .u32 0]).alloc (.cells (cdA (x / 72057594037927936) (dA x) (dB x) (dC x) (x % 4294967296)) 108)).below hb1 (by simp; omega); have B1 := (((Below.refl w.heap.size w).alloc (Nat.le_refl _) (.cells #[.int .u8 0, .int .u8 0, .int .u8 0, .int .u8 0, .int .u32 0] 108)).alloc (by simp) (.cells (cdA (x / 72057594037927936) (dA x) (dB x) (dC x) (x % 4294967296)) 108)).trans (hb1.mono (by simp; omega))))
      | (refine stN25 (by rfl) (.tmp 2) (.tmp 37) (by rfl) w.heap.size (by rfl) (by rfl) _ A0 rfl ?_))
    exact bodyPost_ret (resC Try.results68 rfl rfl (o := 0) (a := 0) (b := 0) (c := 0) (i := 0) (A0.setRow _)) rfl (DPost.mk' false _ hd.out hv.out.symm rfl (below_setRow B1 (Nat.le_refl _) _))
end Go.Proofs.Ytimmiidkjpbffaa
/- Layer compile: what the layers below give. -/
namespace Go.Proofs.Ytimmiidkjpbffaa
open Go.RowKit
set_option maxRecDepth 100000
set_option linter.unusedVariables false
set_option linter.unusedSimpArgs false

theorem by64_getV {L : List Int} {t : Nat} (h : t < L.length) : (by64 L)[t]? = some (.int .u64 (L.getD t 0)) := by
  simp [by64, List.getElem?_eq_getElem h, List.getD_eq_getElem?_getD]
theorem mcL_reg {m : Mc} (h : m.rg.length = 16) (v : Value) (X : List Value) {a : Nat} (ha : a < 16) : (mcL m v ++ X)[1 + a]? = some (.int .u64 (m.rg.getD a 0)) := by
  rw [List.getElem?_append_left (by rw [mcL_len h]; omega), mcL, Nat.add_comm, List.getElem?_cons_succ, List.getElem?_append_left (by rw [by64_len, h]; exact ha)]
  exact by64_getV (by rw [h]; exact ha)
theorem mcL_st {m : Mc} (h : m.rg.length = 16) (v : Value) (X : List Value) : (mcL m v ++ X)[17]? = some (.int .u8 m.st) := by
  rw [List.getElem?_append_left (by rw [mcL_len h]; omega), mcL, List.getElem?_cons_succ, List.getElem?_append_right (by rw [by64_len, h]; omega), by64_len, h]
  rfl
theorem mcL_me {m : Mc} (h : m.rg.length = 16) (v : Value) (X : List Value) : (mcL m v ++ X)[18]? = some v := by
  rw [List.getElem?_append_left (by rw [mcL_len h]; omega), mcL, List.getElem?_cons_succ, List.getElem?_append_right (by rw [by64_len, h]; omega), by64_len, h]
  rfl
end Go.Proofs.Ytimmiidkjpbffaa
/- Layer compile: what the layers below give. -/
namespace Go.Proofs.Ytimmiidkjpbffaa
open Go.RowKit
set_option maxRecDepth 100000
set_option linter.unusedVariables false
set_option linter.unusedSimpArgs false

theorem mkL_bts {i : Int} {P : List Int} (h : mkL i = some P) : Bts P := by
  unfold mkL at h
  split at h
  · cases h; exact Bts.nil
  · split at h
    · cases h
      intro x hx
      simp at hx
      omega
    · cases h
theorem size26 : (Try.prog.info? 25).map (·.size) = some 1 := by kernel_rfl
end Go.Proofs.Ytimmiidkjpbffaa
/- Layer compile: what the layers below give. -/
namespace Go.Proofs.Ytimmiidkjpbffaa
open Go.RowKit
set_option maxRecDepth 100000
set_option linter.unusedVariables false
set_option linter.unusedSimpArgs false

/-- The number of the first k of eight bytes. -/
def pcN (bs : List Int) (p : Nat) : Nat → Int
  | 0 => 0
  | k + 1 => pcN bs p k * 256 + bat bs (p + k)
theorem bat_rg {bs : List Int} (h : Bts bs) (t : Nat) : 0 ≤ bat bs t ∧ bat bs t ≤ 255 := by
  unfold bat
  by_cases ht : t < bs.length
  · rw [List.getD_eq_getElem?_getD, List.getElem?_eq_getElem ht]
    exact h _ (List.getElem_mem ht)
  · rw [List.getD_eq_getElem?_getD, List.getElem?_eq_none (by omega)]
    simp
theorem pcN_rg {bs : List Int} (h : Bts bs) (p : Nat) : ∀ k, 0 ≤ pcN bs p k ∧ pcN bs p k < 256 ^ k
  | 0 => by simp [pcN]
  | k + 1 => by
    have ih := pcN_rg h p k
    have hb := bat_rg h (p + k)
    have e : (256 : Int) ^ (k + 1) = 256 ^ k * 256 := by rw [Int.pow_succ]
    simp only [pcN, e]; omega
theorem pow256 {k : Nat} (h : k < 8) : (256 : Int) ^ k ≤ 72057594037927936 := by
  match k, h with
  | 0, _ => decide
  | 1, _ => decide
  | 2, _ => decide
  | 3, _ => decide
  | 4, _ => decide
  | 5, _ => decide
  | 6, _ => decide
  | 7, _ => decide
theorem pcN_step {bs : List Int} (h : Bts bs) (p : Nat) {k : Nat} (hk : k < 8) : bits .or .u64 (IntKind.u64.wrap (pcN bs p k * 256)) (IntKind.u64.wrap (bat bs (p + k))) = pcN bs p (k + 1) := by
  have h1 := pcN_rg h p k
  have h2 := pow256 hk
  have hb := bat_rg h (p + k)
  rw [wrap64_of (by omega) (by omega), wrap64_of (by omega) (by omega), or8 _ _ (by omega) (by omega) hb.1 hb.2]
  rfl
end Go.Proofs.Ytimmiidkjpbffaa
/- Layer compile: what the layers below give. -/
namespace Go.Proofs.Ytimmiidkjpbffaa
open Go.RowKit
set_option maxRecDepth 100000
set_option linter.unusedVariables false
set_option linter.unusedSimpArgs false

/-- The sum of four words. -/
def fmL (W : Nat → Int) : List Int := (List.range 32).map (fromB W)
theorem fmL_len (W : Nat → Int) : (fmL W).length = 32 := by simp [fmL]
theorem fmL_h8 (W : Nat → Int) : u8s 32 (fromB W) = h8 (fmL W) := by
  apply Array.ext_getElem?
  intro t
  by_cases h : t < 32
  · rw [u8s_get h, h8_get (by rw [fmL_len]; exact h)]
    simp [bat, fmL, List.getD_eq_getElem?_getD, h]
  · rw [Array.getElem?_eq_none (by rw [u8s_size]; omega), Array.getElem?_eq_none (by simp [h8, by8_len, fmL_len]; omega)]
end Go.Proofs.Ytimmiidkjpbffaa
/- Layer compile: what the layers below give. -/
namespace Go.Proofs.Ytimmiidkjpbffaa
open Go.RowKit
set_option maxRecDepth 100000
set_option linter.unusedVariables false
set_option linter.unusedSimpArgs false

/-- A register; a register set, and on. -/
def Mc.get (m : Mc) (a : Nat) : Int := m.rg.getD a 0
/-- The preimage of a sum in memory. -/
def prm (es : List En) (m : Mc) (rb : Int) : Option En := if rb + 4 ≤ m.me.length then pre es (fmL (m.wds rb.toNat)) else none
/-- What an instruction does; none: a trap. -/
def ex (es : List En) (m : Mc) (o : Int) (a b c : Nat) (i : Int) : Option Mc :=
  if o = 1 then some { m with st := 1 }
  else if o = 2 then some (m.put a i)
  else if o = 3 then some (m.put a (bits .or .u64 (IntKind.u64.wrap (m.get a * 4294967296)) i))
  else if o = 4 then some (m.put a (m.get b))
  else if o = 17 then (if IntKind.u64.wrap (m.get b + i) < m.me.length then some (m.put a (m.me.getD (IntKind.u64.wrap (m.get b + i)).toNat 0)) else none)
  else if o = 18 then (if IntKind.u64.wrap (m.get b + i) < m.me.length then some { m.nxt with me := m.me.set (IntKind.u64.wrap (m.get b + i)).toNat (m.get a) } else none)
  else if o = 19 then some { m with pc := i }
  else if o = 20 then (if m.get a = 0 then some { m with pc := i } else some m.nxt)
  else if o = 21 then (if m.get a = 0 then some m.nxt else some { m with pc := i })
  else if o = 22 then some { m with pc := m.get a }
  else if o = 23 then hs m i (m.get a) (m.get b) (m.get c)
  else if o = 24 then (prm es m (m.get b)).map (fun e => m.put a (pcN e.bs (m.get c).toNat 8))
  else if o = 25 then (prm es m (m.get b)).map (fun e => m.put a e.n)
  else (rk o (m.get b) (m.get c)).map (m.put a)
/-- A step of a machine that runs; none: a trap. -/
def stp (es : List En) (m : Mc) : Option Mc :=
  if m.pc < m.me.length then (if dOk (m.me.getD m.pc.toNat 0) = true then ex es m (dOp (m.me.getD m.pc.toNat 0)) (dA (m.me.getD m.pc.toNat 0)).toNat (dB (m.me.getD m.pc.toNat 0)).toNat (dC (m.me.getD m.pc.toNat 0)).toNat (dI (m.me.getD m.pc.toNat 0)) else none) else none
def tick (es : List En) (m : Mc) : Mc := (stp es m).getD { m with st := 2 }
/-- Steps until it is not running, at most so many; and how many. -/
def rn (es : List En) : Nat → Mc → Mc × Nat
  | 0, m => (m, 0)
  | k + 1, m => if m.st = 0 then ((rn es k (tick es m)).1, (rn es k (tick es m)).2 + 1) else (m, 0)
end Go.Proofs.Ytimmiidkjpbffaa
