/- Ue, Mc. -/
import Derived.Test.YtjbaobfmdkpboaaX01
import Derived.Test.YtjbaobfmdkpboaaX02
import Derived.Test.YtjbaobfmdkpboaaX03
import Derived.Test.YtjbaobfmdkpboaaX04
import Derived.Test.YtjbaobfmdkpboaaX12
import Derived.Test.YtjbaobfmdkpboaaX13
import Derived.BigQuiet
import Derived.BigRegion
import Derived.ChangeKeysEq
import Derived.Deep.DeepCutAuto
import Derived.Deep.DrawnRows
import Derived.Deep.QuietTactic
import Derived.Deep.RegionHeld3
import Derived.Deep.RegionLaw
import Derived.Deep.RegionWith
import Derived.Deep.WholeRow
import Derived.JoinedTies
import Derived.KernelRfl
import Derived.Laws.AppendOwnNone
import Derived.Laws.BytesArg
import Derived.Laws.CopyOwn
import Derived.Lib.SlBytesConst
import Derived.WalkKit
import Derived.WalkLawsBesides
import Derived.WalkSpells
import GoSem.Claim
import GoSem.ClaimJoined
import GoSem.ClaimMapViews
import Derived.Test.YtjbaobfmdkpboaaX05
import Derived.Deep.MidRow
import Derived.Laws.BitsLemmas
/- Layer exec: what the layers below give. -/
namespace Go.Proofs.Ytjbaobfmdkpboaa
set_option linter.unusedSectionVars false
set_option maxHeartbeats 1000000
open Go.RowKit
set_option maxRecDepth 100000
set_option linter.unusedVariables false
set_option linter.unusedSimpArgs false

variable [DecidableEq Ac] [DecidableEq Ou] [DecidableEq Mg]
theorem padded_blocks (sp : Option Addr) (n cap M : Nat) (L : List Int) (w : World) (hn : Hid (n = L.length)) (hM : Hid (n + 1 + nulls n + 8 = 64 * M)) (hnil : sp = none → n = 0 ∧ cap = 0) (hS : SlL w sp L) (hb : n ≤ 140737488355000) :
    Calls Try.prog 38 #[.slice sp n cap] w fun e w' => ∃ g c, e = .returned (.slice (some ⟨g, 0, none⟩) (64 * M) c) ∧ 64 * M ≤ c ∧ w.heap.size ≤ g ∧ Bytes w' g 0 (64 * M) (bat (padL L)) ∧ Below w.heap.size w w' := by
  refine (padded_any sp n cap L w hn hnil hS hb).mono ?_
  rintro e w' ⟨v, rfl, hown, hb'⟩
  obtain ⟨g, c, rfl, hn3, hc3, hgg, hBy, -⟩ := own_slice hown (by omega)
  have := hM.out
  have h3 := hn3.out
  rw [← h3, this] at hBy
  rw [this] at hc3 ⊢
  exact ⟨g, c, rfl, hc3, hgg, hBy, hb'⟩
theorem Bytes.setRowOther {w : World} {b off n k : Nat} {B : Nat → Int} (h : Bytes w b off n B) (D : Array Value) (hk : b ≠ k) : Bytes (w.setRow k D) b off n B := fun t ht => by
  rw [World.cell?_of_block (w := w) (a := ⟨b, off + t, none⟩) (setRow_other w k b D hk)]; exact h t ht
set_option maxRecDepth 100000 in
set_option maxHeartbeats 1000000 in
theorem refSum_any (sp : Option Addr) (n cap : Nat) (L : List Int) (w : World) (hn : n = L.length) (hnil : sp = none → n = 0 ∧ cap = 0) (hS : SlL w sp L) (hb : n ≤ 140737488355000) :
    Calls Try.prog 26 #[.slice sp n cap] w fun e w' => e = .returned (.agg (sha L)) ∧ Below w.heap.size w w' := by
  obtain ⟨M, hM0⟩ : ∃ M, M = n / 64 + lastQ (n % 64) := ⟨_, rfl⟩
  have hM : Hid (n + 1 + nulls n + 8 = 64 * M) := by show _ = _; rw [hM0]; exact pad_blocks n
  have hMb : 64 * M ≤ 140737488355072 := by have := hM.out; have := nulls_le n; omega
  have hMI : 64 * (M : Int) ≤ 140737488355072 := by omega
  have hfin : Hid (absorbN kOf (bat (padL L)) h0St M = shaSt (bat L) (n / 64) (n % 64)) := by show _ = _; rw [hM0, hn]; exact absorb_pad L
  have HN := Hid.mk' hn
  clear hn hM0
  go_enter Try.func26, Try.ntmps26
  go_upto_region 3 with (first
    | (refine wpList_store_new (w.alloc _) _ 79 (by rfl) 79 (.tmp 3) (.tmp 8) (by rfl) h0St.cells (by rfl) (by rfl) (s48 _) (by rfl) (St.one _) ?_)
    | (go_at_call 38; go_must (refine (padded_blocks sp n cap M L _ HN hM hnil (Sl.alloc (Sl.alloc hS _) _) hb).mono ?_; rintro e w3 ⟨g, c, rfl, hc3, hgg, hBy, hb3⟩)))
  have hA3 : Arr w3 (w.heap.size + 1) 79 h0St.cells := (show Arr ((w.alloc _).alloc (.cells h0St.cells 79)) (w.heap.size + 1) 79 h0St.cells from by simpa using Arr.new (w.alloc _) 79 h0St.cells).below hb3 (by simp)
  have hZ3 : ∃ Z : Array Value, Z.size = 32 ∧ Arr w3 w.heap.size 24 Z := ⟨_, by rfl, ((Arr.new w 24 _).alloc _).below hb3 (by simp; omega)⟩
  obtain ⟨Z, hZs, hZ3⟩ := hZ3
  have hB3 : Below w.heap.size w w3 := (((Below.refl _ _).alloc (Nat.le_refl _) _).alloc (by simp) _).trans (hb3.mono (by simp; omega))
  have hgg : w.heap.size + 2 ≤ g := by simpa using hgg
  clear hb3 hS
  generalize bat (padL L) = Bf at *
  go_wp2_with fail
  go_loopw [5] (fun i wr => ∃ j : Nat, j ≤ M ∧ i = .int .i64 (64 * (j : Int)) ∧ Arr wr (w.heap.size + 1) 79 (absorbN kOf Bf h0St j).cells ∧ Arr wr w.heap.size 24 Z ∧ Bytes wr g 0 (64 * M) Bf ∧ Below w.heap.size w wr)
    (fun i _ => 64 * M - (intOf i).toNat)
  case atStart => exact ⟨0, by omega, rfl, hA3, hZ3, hBy, hB3⟩
  case round =>
    clear hA3 hZ3 hBy hB3
    obtain ⟨j, hj, rfl, hA, hZ, hBy, hbl⟩ := hrel
    have h4 : (0 : Int) ≤ j := by omega
    by_cases hlt : j < M
    · have h5 : (j : Int) + 1 ≤ M := by omega
      have hcI : 64 * (M : Int) ≤ c := by omega
      have hcj : 64 * (j : Int) + 64 ≤ c := by omega
      have hl : 64 * j + 64 - 64 * j = 64 := by omega
      have hcond : 64 * (j : Int) < 64 * (M : Int) := by omega
      have i1 : IntKind.i64.wrap (64 * (j : Int) + 64) = 64 * (j : Int) + 64 := by simp [IntKind.wrap, IntKind.bits, IntKind.signed]; omega
      have p0 : 0 ≤ 64 * (j : Int) := by omega
      have p1 : 0 ≤ 64 * (j : Int) + 64 := by omega
      have p2 : 64 * (j : Int) ≤ 64 * (j : Int) + 64 := by omega
      have p3 : 64 * (j : Int) < c := by omega
      have p4 : 64 * j < c := by omega
      have p5 : ¬ c = 64 * j := by omega
      have t0 : (64 * (j : Int)).toNat = 64 * j := by omega
      have t1 : (64 * (j : Int) + 64).toNat = 64 * j + 64 := by omega
      have hB' : Bytes wr.drew g (64 * j) 64 (fun t => Bf (64 * j + t)) := fun t ht => by
        have := hBy (64 * j + t) (by omega)
        rw [Nat.zero_add] at this; exact this
      obtain ⟨sj, hsj⟩ : ∃ sj, sj = absorbN kOf Bf h0St j := ⟨_, rfl⟩
      obtain ⟨sn, hsn⟩ : ∃ sn, sn = absorbN kOf Bf h0St (j + 1) := ⟨_, rfl⟩
      have hcall : ∀ (u : World) (cap : Nat), Bytes u g (64 * j) 64 (fun t => Bf (64 * j + t)) → Calls Try.prog 39 #[.agg sj.cells, .slice (some ⟨g, 64 * j, none⟩) 64 cap] u fun e w' => e = .returned (.agg sn.cells) ∧ Below u.heap.size u w' := fun u cap h => by
        have := refBlock_any sj g (64 * j) cap (fun t => Bf (64 * j + t)) u h
        rw [hsn, absorbN, ← hsj]; exact this
      have Hsn := Hid.mk' hsn
      rw [← hsj] at hA
      clear hsj hsn
      go_upto_region 6 with fail
      obtain ⟨c0, c1, c2, c3, c4, c5, c6, c7⟩ := hA.cells8
      go_region_with (first
        | (go_at_call 39; go_must (refine (hcall wr.drew _ hB').mono ?_; rintro e w4 ⟨rfl, hb4⟩; have hA5 := hA.drew.below hb4 hA.lt; have hst := hA5.store8 sn)))
      all_goals
        clear c0 c1 c2 c3 c4 c5 c6 c7 hst
        go_wp2_with fail
        go_roundw
        case rel => exact ⟨j + 1, by omega, by go_num, by rw [← Hsn.out]; exact hA5.setRow _, (hZ.drew.below hb4 hZ.lt).setRowOther _ (by omega), Bytes.setRowOther (Bytes.below (w := wr.drew) hBy hb4) _ (by omega), below_setRow (hbl.drew.trans (hb4.mono hbl.size)) (by omega) _⟩
        case measure => simp [intOf]; omega
    · obtain rfl : j = M := by omega
      clear hBy
      rw [hfin.out] at hA
      obtain ⟨S, hS⟩ : ∃ S, S = shaSt (bat L) (n / 64) (n % 64) := ⟨_, rfl⟩
      rw [← hS] at hA
      have hsha : Hid (u8s 32 (outB S) = sha L) := by show _ = _; rw [hS, HN.out]; rfl
      clear hS
      obtain ⟨wo, rfl⟩ : ∃ wo : World, wo = wr := ⟨_, rfl⟩
      go_wp2_with fail
      have hs1 : w.heap.size + 1 < wo.heap.size := hA.lt
      go_loopw [7] (fun i wr => ∃ (k : Nat) (C : Array Value), k ≤ 32 ∧ i = .int .i64 k ∧ Arr wr (w.heap.size + 1) 79 S.cells ∧ Arr wr w.heap.size 24 Z ∧ Arr wr wo.heap.size 24 C ∧ C.size = 32 ∧ (∀ t, t < k → C[t]? = some (.int .u8 (outB S t))) ∧ Below w.heap.size w wr)
        (fun i _ => 32 - (intOf i).toNat)
      case atStart => exact ⟨0, _, by omega, rfl, hA.alloc _, hZ.alloc _, Arr.new _ _ _, rfl, fun t h => by omega, hbl.alloc hbl.size _⟩
      case round =>
        clear hA hZ hbl
        generalize wo.heap.size = g6 at *
        obtain ⟨k, C, hk, rfl, hA, hZ, hC, hCs, hw, hbl⟩ := hrel
        have HW := Hid.mk' hw
        clear hw
        by_cases hlt : k < 32
        · have h3 : (k : Int) < 32 := by omega
          have h4 : (0 : Int) ≤ k := by omega
          have c0 : wr.cell? ⟨w.heap.size + 1, k / 4, none⟩ = some (.int .u32 (S.at (k / 4))) := (hA.cell _).trans (St.get S (by omega))
          obtain ⟨v1, c1⟩ := hC.got (j := k) (by omega)
          have f0 := hC.frozen k
          go_wp2
          go_roundw
          case rel =>
            have q := set_step (f := fun t => .int .u8 (outB S t)) hCs (by omega) HW.out
            exact ⟨k + 1, _, by omega, by go_num, hA.setOther _ (by simp; omega), hZ.setOther _ (by simp; omega), hC.set _ _, by simp [hCs], q, hbl.setCell (by simp; omega) _⟩
          case measure => simp [intOf]; omega
        · obtain rfl : k = 32 := by omega
          have hCe : C = u8s 32 (outB S) := arr_eq hCs HW.out
          rw [hsha.out] at hCe
          subst hCe
          go_wp2_with (first
            | (refine wpList_load_row (by rfl) 24 (.tmp 6) (by rfl) g6 (by rfl) 24 (sha L) (0, 0) _ hC Try.underlying24 rfl (s24sha _) ?_)
            | (refine wpList_store_arr (by rfl) 24 (.tmp 2) (.tmp 41) (by rfl) w.heap.size (sha L) (by rfl) (by rfl) 24 _ hZ (s24sha _) (by rw [hZs]; exact (sha_size _).symm) (sha_one _) ?_))
          exact bodyPost_ret (v := .agg (sha L)) (results_cell_row Try.results26 _ _ w.heap.size 24 _ (0, 0) _ rfl (hZ.setRow _) Try.underlying24 rfl (s24sha _)) rfl ⟨rfl, below_setRow hbl (Nat.le_refl _) _⟩
end Go.Proofs.Ytjbaobfmdkpboaa
/- Layer exec: what the layers below give. -/
namespace Go.Proofs.Ytjbaobfmdkpboaa
set_option linter.unusedSectionVars false
set_option maxHeartbeats 1000000
open Go.RowKit
set_option maxRecDepth 100000
set_option linter.unusedVariables false
set_option linter.unusedSimpArgs false

variable [DecidableEq Ac] [DecidableEq Ou] [DecidableEq Mg]
theorem i64_and1 (n : Int) : bits .and .i64 n 1 = n % 2 := by
  have h1 : (BitVec.ofInt 64 1).toNat = 2 ^ 1 - 1 := by decide
  have key : (BitVec.ofInt 64 n &&& BitVec.ofInt 64 1).toNat = (n % ((2 ^ 64 : Nat) : Int)).toNat % 2 ^ 1 := by
    rw [BitVec.toNat_and, BitVec.toNat_ofInt, h1, Nat.and_two_pow_sub_one_eq_mod]
  show IntKind.i64.wrap ((BitVec.ofInt 64 n &&& BitVec.ofInt 64 1).toNat : Nat) = n % 2
  rw [key, IntKind.wrap_i64]
  omega
theorem xor_one (a : Nat) : a ^^^ 1 = sib a := by
  have h1 : (a ^^^ 1) / 2 = a / 2 := by rw [Nat.xor_div_two]; simp
  have h2 : (a ^^^ 1) % 2 = (a + 1) % 2 := by
    have h := Nat.xor_mod_two_pow (a := a) (b := 1) (n := 1)
    simp only [Nat.pow_one] at h
    rw [h]
    rcases Nat.mod_two_eq_zero_or_one a with e | e <;> rw [e] <;> simp <;> omega
  unfold sib
  split <;> omega
theorem i64_xor1 (a : Nat) (ha : a < 9223372036854775806) : bits .xor .i64 (a : Int) 1 = (sib a : Nat) := by
  have h1 : (BitVec.ofInt 64 (a : Int)).toNat = a := by
    rw [BitVec.ofInt_natCast, BitVec.toNat_ofNat]; exact Nat.mod_eq_of_lt (by omega)
  have h2 : (BitVec.ofInt 64 1).toNat = 1 := by decide
  show IntKind.i64.wrap ((BitVec.ofInt 64 (a : Int) ^^^ BitVec.ofInt 64 1).toNat : Int) = _
  rw [BitVec.toNat_xor, h1, h2, xor_one, IntKind.wrap_i64]
  unfold sib
  split <;> omega
theorem pow16 {d : Nat} (h : d ≤ 16) : 2 ^ d ≤ 65536 := Nat.pow_le_pow_right (n := 2) (by omega) h
theorem pow17 {d : Nat} (h : d ≤ 17) : 2 ^ d ≤ 131072 := Nat.pow_le_pow_right (n := 2) (by omega) h
theorem powc (d : Nat) : ((2 : Int) ^ d) = ((2 ^ d : Nat) : Int) := (Int.natCast_pow 2 d).symm
theorem wrap_pow {d : Nat} (h : d ≤ 16) : wrap64 ((2 : Int) ^ d) = ((2 ^ d : Nat) : Int) := by
  have := pow16 h
  rw [powc]
  generalize 2 ^ d = p at *
  unfold wrap64; omega
/-- A sum out of memory. -/
theorem ld24 {ops : Array Oper} {rest : List Oper} {o : Oper} {a : Act} {w : World} {Q : Exit → Act → World → Prop} (hgd : o.guard = none) (x : Operand) (ho : o.op = .load 24 x)
    (b off : Nat) (hx : a.eval x = .pointer (some ⟨b, off, none⟩)) (X : List Int) (hX : X.length = 32) (hc : w.rangeAt b off (by8 X))
    (h : wpList Try.prog ops Q rest (a.put o.dst (.agg (h8 X))) w) : wpList Try.prog ops Q (o :: rest) a w :=
  wpList_load_mid hgd 24 x ho b off hx (by8 X) _ hc Try.underlying24 rfl (by rw [by8_len, hX]; exact size24) h
/-- A sum into a block of its own. -/
theorem st24 {ops : Array Oper} {rest : List Oper} {o : Oper} {a : Act} {w : World} {Q : Exit → Act → World → Prop} (hgd : o.guard = none) (x y : Operand) (ho : o.op = .store 24 x y)
    (g : Nat) (X Y : List Int) (hx : a.eval x = .pointer (some ⟨g, 0, none⟩)) (hy : a.eval y = .agg (h8 X)) (hX : X.length = 32) (hY : Y.length = 32) (hg : Arr w g 24 (h8 Y))
    (h : wpList Try.prog ops Q rest (a.put o.dst undef) (w.setRow g (h8 X))) : wpList Try.prog ops Q (o :: rest) a w :=
  wpList_store_arr hgd 24 x y ho g (h8 X) hx hy 24 _ hg (s24h8 hX) (by rw [h8_size, h8_size, hX, hY]) (h8_one X) h
/-- .. into the newest block. -/
theorem st24n {ops : Array Oper} {rest : List Oper} {o : Oper} {a : Act} {Q : Exit → Act → World → Prop} (hgd : o.guard = none) (x y : Operand) (ho : o.op = .store 24 x y) (W : World) (g : Nat) (hgW : W.heap.size = g) {z : Array Value} (hz : z.size = 32)
    (X : List Int) (hx : a.eval x = .pointer (some ⟨g, 0, none⟩)) (hy : a.eval y = .agg (h8 X)) (hX : X.length = 32)
    (h : wpList Try.prog ops Q rest (a.put o.dst undef) (W.alloc (.cells (h8 X) 24))) : wpList Try.prog ops Q (o :: rest) a (W.alloc (.cells z 24)) := by
  subst hgW
  exact wpList_store_new W z 24 hgd 24 x y ho (h8 X) hx hy (s24h8 hX) (by rw [hz, h8_size, hX]) (h8_one X) h
/-- What is returned out of a block. -/
theorem res24 {f : Func} {w : World} {tmps : Array Value} {g t : Nat} {X : List Int} (hf : f.results = #[.cell t 24]) (hp : tmps.getD t undef = .pointer (some ⟨g, 0, none⟩)) (hX : X.length = 32) (hA : Arr w g 24 (h8 X)) :
    (results f tmps).run Try.prog w = .ok (.agg (h8 X)) w := results_cell_row hf _ _ g 24 _ (0, 0) _ hp hA Try.underlying24 rfl (s24h8 hX)
theorem resP {f : Func} {w : World} {tmps : Array Value} {g t k : Nat} {X : List Int} {v : Value} (hf : f.results = #[.cell t 24, .tmp k]) (hp : tmps.getD t undef = .pointer (some ⟨g, 0, none⟩)) (hk : tmps.getD k undef = v) (hX : X.length = 32) (hA : Arr w g 24 (h8 X)) :
    (results f tmps).run Try.prog w = .ok (.tuple #[.agg (h8 X), v]) w := by
  have hl := run_loadVar_mid (P := Try.prog) w g 0 24 (by8 X) _ hA.range Try.underlying24 rfl (by rw [by8_len, hX]; exact size24)
  have hp' : tmps[t]?.getD undef = .pointer (some ⟨g, 0, none⟩) := by simpa using hp
  have hk' : tmps[k]?.getD undef = v := by simpa using hk
  simp [results, hf, hp', hk', asAddr, hl, h8]
end Go.Proofs.Ytjbaobfmdkpboaa
