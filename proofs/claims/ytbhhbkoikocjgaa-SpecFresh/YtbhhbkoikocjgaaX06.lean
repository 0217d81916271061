/- A, B, Sj, Mp. -/
import Derived.Test.YtbhhbkoikocjgaaX01
import Derived.Test.YtbhhbkoikocjgaaX02
import Derived.Test.YtbhhbkoikocjgaaX04
import Derived.Test.YtbhhbkoikocjgaaX05
import Derived.BigQuiet
import Derived.BigRegion
import Derived.ChangeKeysEq
import Derived.ChangeOld
import Derived.Deep.DeepCutAuto
import Derived.Deep.DrawnRows
import Derived.Deep.MidRow
import Derived.Deep.QuietTactic
import Derived.Deep.RegionHeld3
import Derived.Deep.RegionLaw
import Derived.Deep.RegionWith
import Derived.Deep.WholeRow
import Derived.Great.BuildSlice
import Derived.Great.FillDense
import Derived.JoinedTies
import Derived.KernelRfl
import Derived.Laws.AppendOwnNone
import Derived.Laws.BitsLemmas
import Derived.Laws.BytesArg
import Derived.Laws.CopyOwn
import Derived.Laws.OwnMore
import Derived.Laws.ResultCell
import Derived.Laws.Tables
import Derived.Lib.SlBytesConst
import Derived.LoopIn
import Derived.LoopNIn
import Derived.Maps.AppendAt
import Derived.OpenShut
import Derived.OwnWalkIn
import Derived.ProofKit
import Derived.RangeFuncBound
import Derived.RangeFuncCalls
import Derived.RangeFuncLeaves
import Derived.RangeFuncNested
import Derived.RangeFuncRecord
import Derived.Shelf.Abstract
import Derived.Shelf.RegionOpen
import Derived.ShutString
import Derived.SizedLaws
import Derived.TacticsInMore
import Derived.WalkKit
import Derived.WalkLawsBesides
import Derived.WalkSpells
import GoSem.Claim
import GoSem.ClaimJoined
import GoSem.ClaimMapViews
import Derived.Test.YtbhhbkoikocjgaaX03
import Derived.Laws.CopyRow
import Derived.Laws.MakeOwn
/- Layer spec: what the layers below give. -/
namespace Go.Proofs.Ytbhhbkoikocjgaa
set_option linter.unusedSectionVars false
set_option maxHeartbeats 1000000
open Go.RowKit
set_option maxRecDepth 100000
set_option linter.unusedVariables false
set_option linter.unusedSimpArgs false
attribute [local go_sem ↓] Go.wp_at_zero Go.wp_at_succ

/-- Word j of a sum, of its first m bytes. -/
def wacc (H : Nat → Int) (j : Nat) : Nat → Int
  | 0 => 0
  | m + 1 => wacc H j m * 256 + H (8 * j + m)
/-- .. behind k bytes in all. -/
def wpart (H : Nat → Int) (k j : Nat) : Int := wacc H j (min (k - 8 * j) 8)
def u64s (n : Nat) (f : Nat → Int) : Array Value := arr n fun t => .int .u64 (f t)
theorem u64s_size (n : Nat) (f : Nat → Int) : (u64s n f).size = n := arr_size _ _
theorem u64s_get {n : Nat} {f : Nat → Int} {t : Nat} (h : t < n) : (u64s n f)[t]? = some (.int .u64 (f t)) := arr_get h
theorem u64s_one (n : Nat) (f : Nat → Int) : (u64s n f).all (·.oneCell') = true := one_ints (u64s_size n f) (fun _ h => u64s_get h)
theorem size30M : (Try.prog.info? 135).map (·.size) = some 4 := by kernel_rfl
theorem s30u (f : Nat → Int) : (Try.prog.info? 135).map (·.size) = some (u64s 4 f).size := by rw [u64s_size]; exact size30M
theorem or8 (x b : Int) (hx : 0 ≤ x) (hx2 : x < 72057594037927936) (hb : 0 ≤ b) (hb2 : b ≤ 255) : bits .or .u64 (x * 256) b = x * 256 + b := by
  obtain ⟨k, rfl⟩ : ∃ k : Nat, x = k := ⟨x.toNat, by omega⟩
  obtain ⟨j, rfl⟩ : ∃ j : Nat, b = j := ⟨b.toNat, by omega⟩
  have h1 : (BitVec.ofInt 64 ((k : Int) * 256)).toNat = k * 256 := by
    rw [show ((k : Int) * 256) = ((k * 256 : Nat) : Int) by omega, BitVec.ofInt_natCast, BitVec.toNat_ofNat]; omega
  have h2 : (BitVec.ofInt 64 (j : Int)).toNat = j := by
    rw [BitVec.ofInt_natCast, BitVec.toNat_ofNat]; omega
  have h3 : k * 256 ||| j = k * 256 + j := by
    have := Nat.two_pow_add_eq_or_of_lt (i := 8) (b := j) (by omega) k
    rw [Nat.mul_comm] at this; exact this.symm
  show IntKind.u64.wrap ((BitVec.ofInt 64 ((k : Int) * 256) ||| BitVec.ofInt 64 (j : Int)).toNat : Int) = _
  rw [BitVec.toNat_or, h1, h2, h3]
  simp only [IntKind.wrap, IntKind.bits, IntKind.signed]
  simp; omega
theorem wrap64_of {x : Int} (h : 0 ≤ x) (h2 : x < 18446744073709551616) : IntKind.u64.wrap x = x := by
  simp only [IntKind.wrap, IntKind.bits, IntKind.signed]; simp; omega
theorem words_other {H : Nat → Int} {k j : Nat} (h : j ≠ k / 8) : wpart H (k + 1) j = wpart H k j := by
  unfold wpart; congr 1; omega
end Go.Proofs.Ytbhhbkoikocjgaa
/- Layer spec: what the layers below give. -/
namespace Go.Proofs.Ytbhhbkoikocjgaa
set_option linter.unusedSectionVars false
set_option maxHeartbeats 1000000
open Go.RowKit
set_option maxRecDepth 100000
set_option linter.unusedVariables false
set_option linter.unusedSimpArgs false

/-- A number in eight bytes. -/
theorem bat_e8 (n : Int) {t : Nat} (h : t < 8) : bat (e8 n) t = n / 2 ^ (56 - 8 * t) % 256 := by
  simp [bat, e8, List.getD, h]
theorem bat_rng {L : List Int} (h : Bts L) (t : Nat) : 0 ≤ bat L t ∧ bat L t ≤ 255 := by
  unfold bat
  by_cases ht : t < L.length
  · simp only [List.getD, List.getElem?_eq_getElem ht, Option.getD_some]; exact h _ (List.getElem_mem ht)
  · rw [List.getD, List.getElem?_eq_none (by omega)]; simp
theorem wacc_rng {H : Nat → Int} (hH : ∀ t, 0 ≤ H t ∧ H t ≤ 255) (j : Nat) : ∀ m, 0 ≤ wacc H j m ∧ wacc H j m < 256 ^ m
  | 0 => by simp [wacc]
  | m + 1 => by
    have ih := wacc_rng hH j m
    have hb := hH (8 * j + m)
    have e : (256 : Int) ^ (m + 1) = 256 ^ m * 256 := by rw [Int.pow_succ]
    simp only [wacc, e]; omega
/-- Number j of some bytes. -/
def wd (L : List Int) (j : Nat) : Int := wacc (bat L) j 8
theorem wd_rng {L : List Int} (h : Bts L) (j : Nat) : 0 ≤ wd L j ∧ wd L j < 18446744073709551616 := by
  have := wacc_rng (bat_rng h) j 8
  unfold wd
  refine ⟨this.1, Int.lt_of_lt_of_le this.2 ?_⟩
  decide
/-- Byte t of number j. -/
theorem e8_wd {L : List Int} (hL : Bts L) (j t : Nat) (hr : t < 8) : bat (e8 (wd L j)) t = bat L (8 * j + t) := by
  rw [bat_e8 _ hr]
  have b0 := bat_rng hL (8 * j + 0)
  have b1 := bat_rng hL (8 * j + 1)
  have b2 := bat_rng hL (8 * j + 2)
  have b3 := bat_rng hL (8 * j + 3)
  have b4 := bat_rng hL (8 * j + 4)
  have b5 := bat_rng hL (8 * j + 5)
  have b6 := bat_rng hL (8 * j + 6)
  have b7 := bat_rng hL (8 * j + 7)
  simp only [wd, wacc]
  match t, hr with
  | 0, _ => omega
  | 1, _ => omega
  | 2, _ => omega
  | 3, _ => omega
  | 4, _ => omega
  | 5, _ => omega
  | 6, _ => omega
  | 7, _ => omega
/-- Some numbers, in eight bytes each. -/
def cat (f : Nat → Int) : Nat → List Int
  | 0 => []
  | n + 1 => cat f n ++ e8 (f n)
/-- A message. -/
structure Mg where
  kd : Int
  fr : Int
  tw : Int
  am : Int
  no : Int
  ky : List Int
  nx : List Int
structure MgOK (m : Mg) : Prop where
  k0 : 0 ≤ m.kd
  k1 : m.kd < 256
  f0 : 0 ≤ m.fr
  f1 : m.fr < 18446744073709551616
  t0 : 0 ≤ m.tw
  t1 : m.tw < 18446744073709551616
  a0 : 0 ≤ m.am
  a1 : m.am < 18446744073709551616
  n0 : 0 ≤ m.no
  n1 : m.no < 18446744073709551616
  kl : m.ky.length = 32
  kb : Bts m.ky
  nl : m.nx.length = 32
  nb : Bts m.nx
def decMg : DecidableEq Mg := fun a b => decidable_of_iff (a.kd = b.kd ∧ a.fr = b.fr ∧ a.tw = b.tw ∧ a.am = b.am ∧ a.no = b.no ∧ a.ky = b.ky ∧ a.nx = b.nx) (by
  constructor
  · intro ⟨h1, h2, h3, h4, h5, h6, h7⟩; cases a; cases b; simp_all
  · rintro rfl; exact ⟨rfl, rfl, rfl, rfl, rfl, rfl, rfl⟩)
variable [DecidableEq Mg]
def mg0 : Mg := ⟨0, 0, 0, 0, 0, Z32, Z32⟩
/-- Its numbers. -/
def w13 (m : Mg) : Nat → Int
  | 0 => m.kd
  | 1 => m.fr
  | 2 => m.tw
  | 3 => m.am
  | 4 => m.no
  | 5 => wd m.ky 0
  | 6 => wd m.ky 1
  | 7 => wd m.ky 2
  | 8 => wd m.ky 3
  | n + 9 => wd m.nx n
/-- Its bytes. -/
def Mg.bytes (m : Mg) : List Int := e8 m.kd ++ e8 m.fr ++ e8 m.tw ++ e8 m.am ++ e8 m.no ++ m.ky ++ m.nx
theorem Mg.bbts {m : Mg} (h : MgOK m) : Bts m.bytes := ((((((e8_bts _).app (e8_bts _)).app (e8_bts _)).app (e8_bts _)).app (e8_bts _)).app h.kb).app h.nb
def Mg.may (m : Mg) : Bool :=
  (m.kd == 1 && m.fr == 0 && decide (m.tw < 32) && decide (0 < m.am) && m.no == 0 && decide (m.ky = Z32) && decide (m.nx = Z32)) ||
  (m.kd == 2 && decide (m.fr < 32) && decide (m.tw < 32)) || (m.kd == 3 && decide (m.fr < 32) && decide (0 < m.am))
theorem Mg.may_kd {m : Mg} (h : m.may = true) : m.kd ≤ 3 := by
  simp only [Mg.may, Bool.or_eq_true, Bool.and_eq_true, beq_iff_eq, decide_eq_true_eq] at h
  omega
/-- The message of some bytes. -/
def mgOf (L : List Int) : Mg := ⟨wd L 0 % 256, wd L 1, wd L 2, wd L 3, wd L 4, (L.drop 40).take 32, (L.drop 72).take 32⟩
theorem mgOf_ok {L : List Int} (hL : Bts L) (hl : L.length = 104) : MgOK (mgOf L) :=
  ⟨by simp only [mgOf]; omega, by simp only [mgOf]; omega, (wd_rng hL _).1, (wd_rng hL _).2, (wd_rng hL _).1, (wd_rng hL _).2, (wd_rng hL _).1, (wd_rng hL _).2, (wd_rng hL _).1, (wd_rng hL _).2,
    by simp [mgOf, hl], fun x hx => hL x (List.mem_of_mem_drop (List.mem_of_mem_take hx)), by simp [mgOf, hl], fun x hx => hL x (List.mem_of_mem_drop (List.mem_of_mem_take hx))⟩
theorem mg0_ok : MgOK mg0 := ⟨by decide, by decide, by decide, by decide, by decide, by decide, by decide, by decide, by decide, by decide, rfl, by intro x hx; simp [mg0, Z32] at hx; omega, rfl, by intro x hx; simp [mg0, Z32] at hx; omega⟩
def goodM (L : List Int) : Bool := decide (wd L 0 ≤ 3) && (mgOf L).may
/-- What is read. -/
def rdM (L : List Int) : Mg := if L.length = 104 ∧ goodM L = true then mgOf L else mg0
def rdE (L : List Int) : Int := if L.length < 104 then 7 else if L.length = 104 ∧ goodM L = true then 0 else 8
theorem rdM_ok {L : List Int} (hL : Bts L) : MgOK (rdM L) := by
  unfold rdM; split
  · next h => exact mgOf_ok hL h.1
  · exact mg0_ok
theorem goodM_kd {L : List Int} (hL : Bts L) : goodM L = (decide (wd L 0 = (mgOf L).kd) && (mgOf L).may) := by
  unfold goodM
  have h0 := wd_rng hL 0
  by_cases hm : (mgOf L).may = true
  · have h3 := Mg.may_kd hm
    rw [hm, Bool.and_true, Bool.and_true]
    have e : (mgOf L).kd = wd L 0 % 256 := rfl
    rw [e] at h3 ⊢
    simp only [decide_eq_decide]
    omega
  · simp only [Bool.not_eq_true] at hm; simp [hm]
end Go.Proofs.Ytbhhbkoikocjgaa
/- Layer spec: what the layers below give. -/
namespace Go.Proofs.Ytbhhbkoikocjgaa
set_option linter.unusedSectionVars false
set_option maxHeartbeats 1000000
open Go.RowKit
set_option maxRecDepth 100000
set_option linter.unusedVariables false
set_option linter.unusedSimpArgs false

variable [DecidableEq Mg]
def decAc : DecidableEq Ac := fun a b => decidable_of_iff (a.bal = b.bal ∧ a.non = b.non ∧ a.lk = b.lk) (by
  constructor
  · intro ⟨h1, h2, h3⟩; cases a; cases b; simp_all
  · rintro rfl; exact ⟨rfl, rfl, rfl⟩)
variable [DecidableEq Ac]
def decOu : DecidableEq Ou := fun a b => decidable_of_iff (a.tw = b.tw ∧ a.am = b.am) (by
  constructor
  · intro ⟨h1, h2⟩; cases a; cases b; simp_all
  · rintro rfl; exact ⟨rfl, rfl⟩)
variable [DecidableEq Ou]
theorem run_sz {t n : Nat} (h : (Try.prog.info? t).map (·.size) = some n) (w : World) : (sizeOf t).run Try.prog w = .ok n w := by
  cases hq : Try.prog.info? t with
  | none => rw [hq] at h; cases h
  | some i =>
    rw [hq] at h
    have hz : i.size = n := by simpa using h
    simp [sizeOf, typeInfo, hq, hz]
theorem isAgg26 (w : World) : (isAgg 26).run Try.prog w = .ok true w := by
  unfold isAgg
  rw [Sem.run_bind, run_underlying Try.underlying26 w]
  rfl
theorem isAgg24' (w : World) : (isAgg 24).run Try.prog w = .ok true w := by
  unfold isAgg
  rw [Sem.run_bind, run_underlying Try.underlying24 w]
  rfl
theorem isAgg22' (w : World) : (isAgg 22).run Try.prog w = .ok false w := by
  unfold isAgg
  rw [Sem.run_bind, run_underlying Try.underlying22 w]
  rfl
theorem part26 {ps : List Ac} (h2 : ∀ a ∈ ps, a.lk.length = 32) {k : Nat} {a : Ac} (ha : ps[k]? = some a) (w : World) : (part 26 (acA ps) (k * 34)).run Try.prog w = .ok (.agg a.arr) w := by
  simp only [part, Sem.run_bind, isAgg26, Result.andThen_ok, if_true, run_sz size26, Sem.run_pure, acA_part h2 ha]
theorem part22 {C : Array Value} {k : Nat} {v : Value} (h : C[k]? = some v) (w : World) : (part 22 C k).run Try.prog w = .ok v w := by
  simp only [part, Sem.run_bind, isAgg22', Result.andThen_ok, h]
  rfl
theorem lk_part {a : Ac} (h : a.lk.length = 32) : a.arr.extract 2 (2 + 32) = h8 a.lk := by
  have hl := by8_len a.lk
  apply Array.ext'
  unfold Ac.arr h8 Ac.cells
  simp
  exact List.take_of_length_le (by omega)
theorem part24 {a : Ac} (h : a.lk.length = 32) (w : World) : (part 24 a.arr 2).run Try.prog w = .ok (.agg (h8 a.lk)) w := by
  simp only [part, Sem.run_bind, isAgg24', Result.andThen_ok, if_true, run_sz size24, Sem.run_pure, lk_part h]
/-- The fields, one after the other. -/
theorem run_eqInD24 {X Y : List Int} (d : Nat) (hX : X.length = 32) (hY : Y.length = 32) (w : World) : (Op.equalIn (d + 3) 24 (.agg (h8 X)) (.agg (h8 Y))).run Try.prog w = .ok (decide (X = Y)) w := by
  obtain ⟨i0, hi, -⟩ := info_parts info5
  have hc : Try.prog.cellsOf 5 = 1 := by kernel_rfl
  rw [run_equalIn_array w (d + 2) _ _ Try.underlying24 hi, hc, eqItems_two w (d + 1) _ _ (bat X) (bat Y) (List.range 32) (fun i h => h8_get (by rw [hX]; simpa using h)) (fun i h => h8_get (by rw [hY]; simpa using h)), bat_ext hX hY]
theorem fields26 : (Try.prog.fieldsOf 26).toList.map (fun f => (f.name != "_", f.type, f.offset)) = [(true, 22, 0), (true, 22, 1), (true, 24, 2)] := by kernel_rfl
theorem fields53 : (Try.prog.fieldsOf 66).toList.map (fun f => (f.name != "_", f.type, f.offset)) = [(true, 22, 0), (true, 22, 1)] := by kernel_rfl
theorem eqf_step {d : Nat} {xs ys : Array Value} {f : Field} {fs : List Field} {u v : Value} {r s : Bool} {w : World} (hn : ¬ f.name = "_") (h1 : (part f.type xs f.offset).run Try.prog w = .ok u w) (h2 : (part f.type ys f.offset).run Try.prog w = .ok v w) (h3 : (Op.equalIn d f.type u v).run Try.prog w = .ok r w)
    (h4 : (Op.eqFields d xs ys fs).run Try.prog w = .ok s w) : (Op.eqFields d xs ys (f :: fs)).run Try.prog w = .ok (r && s) w := by
  simp only [Op.eqFields, hn, ne_eq, not_false_eq_true, if_true, Sem.run_bind, h1, h2, h3, Result.andThen_ok]
  cases r
  · simp
  · simpa using h4
theorem eqf_nil {d : Nat} {xs ys : Array Value} {w : World} : (Op.eqFields d xs ys []).run Try.prog w = .ok true w := by simp [Op.eqFields]
theorem run_eqIn26 {a b : Ac} (d : Nat) (ha : a.lk.length = 32) (hb : b.lk.length = 32) (w : World) : (Op.equalIn (d + 5) 26 (.agg a.arr) (.agg b.arr)).run Try.prog w = .ok (decide (a = b)) w := by
  rw [run_equalIn_struct w (d + 4) 26 _ _ (by kernel_rfl) (by kernel_rfl)]
  have hf := fields26
  generalize (Try.prog.fieldsOf 26).toList = fs at hf
  have hl3 : fs.length = 3 := by simpa using congrArg List.length hf
  match fs, hl3 with
  | [f0, f1, f2], _ =>
  simp only [List.map_cons, List.map_nil, List.cons.injEq, Prod.mk.injEq, and_true, bne_iff_ne, ne_eq, and_assoc] at hf
  obtain ⟨n0, t0, o0, n1, t1, o1, n2, t2, o2⟩ := hf
  have a0 : a.arr[0]? = some (.int .u64 a.bal) := by simp [Ac.arr, Ac.cells]
  have a1 : a.arr[1]? = some (.int .u64 a.non) := by simp [Ac.arr, Ac.cells]
  have b0 : b.arr[0]? = some (.int .u64 b.bal) := by simp [Ac.arr, Ac.cells]
  have b1 : b.arr[1]? = some (.int .u64 b.non) := by simp [Ac.arr, Ac.cells]
  have hd : decide (a = b) = ((a.bal == b.bal) && ((a.non == b.non) && decide (a.lk = b.lk))) := by
    rw [Bool.eq_iff_iff]
    simp only [decide_eq_true_eq, Bool.and_eq_true, beq_iff_eq]
    constructor
    · rintro rfl; exact ⟨rfl, rfl, rfl⟩
    · intro ⟨h1, h2, h3⟩; cases a; cases b; simp_all
  rw [hd]
  have e := eqf_step (d := d + 4) (f := f0) n0 (by rw [t0, o0]; exact part22 a0 w) (by rw [t0, o0]; exact part22 b0 w) (by rw [t0]; exact run_equalIn_int w (d + 3) 22 .u64 .u64 _ _ Try.underlying22)
    (eqf_step (f := f1) n1 (by rw [t1, o1]; exact part22 a1 w) (by rw [t1, o1]; exact part22 b1 w) (by rw [t1]; exact run_equalIn_int w (d + 3) 22 .u64 .u64 _ _ Try.underlying22)
    (eqf_step (f := f2) n2 (by rw [t2, o2]; exact part24 ha w) (by rw [t2, o2]; exact part24 hb w) (by rw [t2]; exact run_eqInD24 (d + 1) ha hb w) eqf_nil))
  rw [e, Bool.and_true]
theorem run_eqIn53 {a b : Ou} (d : Nat) (w : World) : (Op.equalIn (d + 5) 66 (.agg a.arr) (.agg b.arr)).run Try.prog w = .ok (decide (a = b)) w := by
  rw [run_equalIn_struct w (d + 4) 66 _ _ (by kernel_rfl) (by kernel_rfl)]
  have hf := fields53
  generalize (Try.prog.fieldsOf 66).toList = fs at hf
  have hl2 : fs.length = 2 := by simpa using congrArg List.length hf
  match fs, hl2 with
  | [f0, f1], _ =>
  simp only [List.map_cons, List.map_nil, List.cons.injEq, Prod.mk.injEq, and_true, bne_iff_ne, ne_eq, and_assoc] at hf
  obtain ⟨n0, t0, o0, n1, t1, o1⟩ := hf
  have a0 : a.arr[0]? = some (.int .u64 a.tw) := by simp [Ou.arr, Ou.cells]
  have a1 : a.arr[1]? = some (.int .u64 a.am) := by simp [Ou.arr, Ou.cells]
  have b0 : b.arr[0]? = some (.int .u64 b.tw) := by simp [Ou.arr, Ou.cells]
  have b1 : b.arr[1]? = some (.int .u64 b.am) := by simp [Ou.arr, Ou.cells]
  have hd : decide (a = b) = ((a.tw == b.tw) && (a.am == b.am)) := by
    rw [Bool.eq_iff_iff]
    simp only [decide_eq_true_eq, Bool.and_eq_true, beq_iff_eq]
    constructor
    · rintro rfl; exact ⟨rfl, rfl⟩
    · intro ⟨h1, h2⟩; cases a; cases b; simp_all
  rw [hd]
  have e := eqf_step (d := d + 4) (f := f0) n0 (by rw [t0, o0]; exact part22 a0 w) (by rw [t0, o0]; exact part22 b0 w) (by rw [t0]; exact run_equalIn_int w (d + 3) 22 .u64 .u64 _ _ Try.underlying22)
    (eqf_step (f := f1) n1 (by rw [t1, o1]; exact part22 a1 w) (by rw [t1, o1]; exact part22 b1 w) (by rw [t1]; exact run_equalIn_int w (d + 3) 22 .u64 .u64 _ _ Try.underlying22) eqf_nil)
  rw [e, Bool.and_true]
theorem eqItems26 (w : World) (d : Nat) (ps qs : List Ac) (hp : ∀ a ∈ ps, a.lk.length = 32) (hq : ∀ a ∈ qs, a.lk.length = 32) : ∀ is : List Nat, (∀ i ∈ is, i < ps.length) → (∀ i ∈ is, i < qs.length) →
    (Op.eqItems (d + 5) 26 34 (acA ps) (acA qs) is).run Try.prog w = .ok (is.all fun i => decide (ps[i]? = qs[i]?)) w
  | [], _, _ => by simp [Op.eqItems]
  | i :: is, h, h' => by
    have hi := List.getElem?_eq_getElem (h i (by simp))
    have hi' := List.getElem?_eq_getElem (h' i (by simp))
    have ih := eqItems26 w d ps qs hp hq is (fun j hj => h j (by simp [hj])) (fun j hj => h' j (by simp [hj]))
    have m1 := hp _ (List.mem_of_getElem? hi)
    have m2 := hq _ (List.mem_of_getElem? hi')
    simp only [Op.eqItems, Sem.run_bind, part26 hp hi, part26 hq hi', Result.andThen_ok, run_eqIn26 d m1 m2, List.all_cons, hi, hi', Option.some.injEq]
    by_cases he : ps[i]'(h i (by simp)) = qs[i]'(h' i (by simp))
    · simp [he, ih]
    · simp [he]
/-- The arrays of accounts. -/
theorem run_eqIn27 {ps qs : List Ac} (hp1 : ps.length = 32) (hq1 : qs.length = 32) (hp : ∀ a ∈ ps, a.lk.length = 32) (hq : ∀ a ∈ qs, a.lk.length = 32) (w : World) : (Op.equalIn 10000 27 (.agg (acA ps)) (.agg (acA qs))).run Try.prog w = .ok (decide (ps = qs)) w := by
  have hc : Try.prog.cellsOf 26 = 34 := by kernel_rfl
  cases hq' : Try.prog.info? 26 with
  | none => have h := size26; rw [hq'] at h; cases h
  | some i0 =>
  rw [run_equalIn_array w 9999 _ _ Try.underlying27 hq', hc, eqItems26 w 9994 ps qs hp hq (List.range 32) (fun i h => by rw [hp1]; simpa using h) (fun i h => by rw [hq1]; simpa using h)]
  congr 1
  rw [Bool.eq_iff_iff]
  simp only [List.all_eq_true, List.mem_range, decide_eq_true_eq]
  constructor
  · intro h
    apply List.ext_getElem?
    intro i
    by_cases hi : i < 32
    · exact h i hi
    · rw [List.getElem?_eq_none (by omega), List.getElem?_eq_none (by omega)]
  · rintro rfl i _; rfl
theorem run_neq27 {ps qs : List Ac} (hp1 : ps.length = 32) (hq1 : qs.length = 32) (hp : ∀ a ∈ ps, a.lk.length = 32) (hq : ∀ a ∈ qs, a.lk.length = 32) (w : World) : (binOp .neq 27 (.agg (acA ps)) (.agg (acA qs))).run Try.prog w = .ok (.bool (!decide (ps = qs))) w := by
  rw [run_neq_struct, run_eqIn27 hp1 hq1 hp hq]; rfl
theorem run_neq53 (a b : Ou) (w : World) : (binOp .neq 66 (.agg a.arr) (.agg b.arr)).run Try.prog w = .ok (.bool (!decide (a = b))) w := by
  rw [run_neq_struct, run_eqIn53 9995]; rfl
end Go.Proofs.Ytbhhbkoikocjgaa
/- Layer spec: what the layers below give. -/
namespace Go.Proofs.Ytbhhbkoikocjgaa
set_option linter.unusedSectionVars false
set_option maxHeartbeats 1000000
open Go.RowKit Go.Shelf
set_option maxRecDepth 100000
set_option linter.unusedVariables false
set_option linter.unusedSimpArgs false

variable [DecidableEq Mg] [DecidableEq Ac] [DecidableEq Ou]
theorem y24 {ops : Array Oper} {S : World → Prop} {op : Oper} {a : Act} (hw : Region.wanted op (yielded ops a.tmps) = true) (x : Operand) (ho : op.op = .load 24 x)
    (b o : Nat) (hx : a.eval x = .pointer (some ⟨b, o, none⟩)) (X : List Int) (hX : X.length = 32) (hS : ∀ w, S w → w.rangeAt b o (by8 X)) : YieldsIf Try.prog ops S op (.agg (h8 X)) a :=
  yieldsIf_load_mid hw 24 x ho b o hx (by8 X) _ hS Try.underlying24 rfl (by rw [by8_len, hX]; exact size24)
end Go.Proofs.Ytbhhbkoikocjgaa
