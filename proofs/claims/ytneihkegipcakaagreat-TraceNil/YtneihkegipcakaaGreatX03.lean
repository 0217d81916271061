/- Mc, W1, Ax, Mh, Ca, Ua. -/
import Derived.Test.YtneihkegipcakaaGreatX01
import Derived.Test.YtneihkegipcakaaGreatX02
import Derived.BigQuiet
import Derived.BigRegion
import Derived.ChangeKeysEq
import Derived.Deep.DeepCutAuto
import Derived.Deep.DrawnRows
import Derived.Deep.MidRow
import Derived.Deep.QuietTactic
import Derived.Deep.RegionHeld3
import Derived.Deep.RegionLaw
import Derived.Deep.RegionWith
import Derived.Deep.WholeRow
import Derived.Laws.AppendOwnNone
import Derived.Laws.BitsLemmas
import Derived.Laws.BytesArg
import Derived.Laws.CopyOwn
import Derived.Lib.SlBytesConst
import Derived.WalkKit
import Derived.WalkLawsBesides
import Derived.WalkSpells
import Derived.Deep.RegionHeld
import Derived.KernelRfl
import Derived.LoopIn
import Derived.LoopNIn
import Derived.OwnWalkIn
import Derived.RangeFuncBound
import Derived.RangeFuncCalls
import Derived.RangeFuncLeaves
import Derived.RangeFuncNested
import Derived.RangeFuncRecord
import Derived.Shelf.Abstract
import Derived.Shelf.RegionOpen
import Derived.TacticsInMore
/- Layer trace: what the layers below give. -/
namespace Go.Proofs.YtneihkegipcakaaGreat
open Go.RowKit
set_option maxRecDepth 100000
set_option linter.unusedVariables false
set_option linter.unusedSimpArgs false

theorem i64_and1 (n : Int) : bits .and .i64 n 1 = n % 2 := by
  have h1 : (BitVec.ofInt 64 1).toNat = 2 ^ 1 - 1 := by decide
  have key : (BitVec.ofInt 64 n &&& BitVec.ofInt 64 1).toNat = (n % ((2 ^ 64 : Nat) : Int)).toNat % 2 ^ 1 := by
    rw [BitVec.toNat_and, BitVec.toNat_ofInt, h1, Nat.and_two_pow_sub_one_eq_mod]
  show IntKind.i64.wrap ((BitVec.ofInt 64 n &&& BitVec.ofInt 64 1).toNat : Nat) = n % 2
  rw [key, IntKind.wrap_i64]
  omega
theorem xor_one (a : Nat) : a ^^^ 1 = sib a := by
  have h1 : (a ^^^ 1) / 2 = a / 2 := by rw [Nat.xor_div_two]; simp
  have h2 : (a ^^^ 1) % 2 = (a + 1) % 2 := by
    have h := Nat.xor_mod_two_pow (a := a) (b := 1) (n := 1)
    simp only [Nat.pow_one] at h
    rw [h]
    rcases Nat.mod_two_eq_zero_or_one a with e | e <;> rw [e] <;> simp <;> omega
  unfold sib
  split <;> omega
theorem i64_xor1 (a : Nat) (ha : a < 9223372036854775806) : bits .xor .i64 (a : Int) 1 = (sib a : Nat) := by
  have h1 : (BitVec.ofInt 64 (a : Int)).toNat = a := by
    rw [BitVec.ofInt_natCast, BitVec.toNat_ofNat]; exact Nat.mod_eq_of_lt (by omega)
  have h2 : (BitVec.ofInt 64 1).toNat = 1 := by decide
  show IntKind.i64.wrap ((BitVec.ofInt 64 (a : Int) ^^^ BitVec.ofInt 64 1).toNat : Int) = _
  rw [BitVec.toNat_xor, h1, h2, xor_one, IntKind.wrap_i64]
  unfold sib
  split <;> omega
theorem pow16 {d : Nat} (h : d ≤ 16) : 2 ^ d ≤ 65536 := Nat.pow_le_pow_right (n := 2) (by omega) h
theorem pow17 {d : Nat} (h : d ≤ 17) : 2 ^ d ≤ 131072 := Nat.pow_le_pow_right (n := 2) (by omega) h
theorem powc (d : Nat) : ((2 : Int) ^ d) = ((2 ^ d : Nat) : Int) := (Int.natCast_pow 2 d).symm
theorem wrap_pow {d : Nat} (h : d ≤ 16) : wrap64 ((2 : Int) ^ d) = ((2 ^ d : Nat) : Int) := by
  have := pow16 h
  rw [powc]
  generalize 2 ^ d = p at *
  unfold wrap64; omega
set_option maxRecDepth 100000 in
set_option maxHeartbeats 400000 in
theorem mayDepth_any (d : Int) (w : World) : Calls Tryz.prog 138 #[.int .i64 d] w fun e w' => e = .returned (.bool (decide (0 ≤ d ∧ d ≤ 16))) ∧ w' = w := by
  by_cases h1 : 0 ≤ d
  · by_cases h2 : d ≤ 16
    · rw [decide_eq_true ⟨h1, h2⟩]
      go_enter Tryz.func138, Tryz.ntmps138
      go_wp2
      go_ret
      exact ⟨rfl, rfl⟩
    · rw [decide_eq_false (fun h => h2 h.2)]
      go_enter Tryz.func138, Tryz.ntmps138
      go_wp2
      go_ret
      exact ⟨rfl, rfl⟩
  · rw [decide_eq_false (fun h => h1 h.1)]
    go_enter Tryz.func138, Tryz.ntmps138
    go_wp2
    go_ret
    exact ⟨rfl, rfl⟩
set_option maxRecDepth 100000 in
set_option maxHeartbeats 400000 in
theorem width_any (d : Nat) (hd : d ≤ 16) (w : World) : Calls Tryz.prog 139 #[.int .i64 d] w fun e w' => e = .returned (.int .i64 (2 ^ d : Nat)) ∧ w' = w := by
  have hp := Hid.mk' (wrap_pow hd)
  go_enter Tryz.func139, Tryz.ntmps139
  go_wp2
  go_ret
  exact ⟨by rw [hp.out]; rfl, rfl⟩
set_option maxRecDepth 100000 in
set_option maxHeartbeats 400000 in
theorem isSecond_any (i k : Nat) (hi : i ≤ 9223372036854775807) (hk : k ≤ 17) (w : World) : Calls Tryz.prog 162 #[.int .i64 i, .int .i64 k] w fun e w' => e = .returned (.bool (decide ((i / 2 ^ k) % 2 = 1))) ∧ w' = w := by
  have hp : (bits .and .i64 ((i : Int) / 2 ^ k) 1 == 1) = decide ((i / 2 ^ k) % 2 = 1) := by
    rw [i64_and1, powc, ← Int.natCast_ediv]
    rw [Bool.eq_iff_iff, beq_iff_eq, decide_eq_true_eq]
    omega
  replace hp := Hid.mk' hp
  go_enter Tryz.func162, Tryz.ntmps162
  go_wp2
  go_ret
  exact ⟨by rw [hp.out]; rfl, rfl⟩
theorem pair_h (X Y : List Int) (w : World) (hX : X.length = 32) (hY : Y.length = 32) :
    Calls Tryz.prog 147 #[.agg (h8 X), .agg (h8 Y)] w fun e w' => e = .returned (.agg (h8 (pr X Y))) ∧ Below w.heap.size w w' := by
  have h := pair_any X Y w hX hY
  rw [sha_h8] at h
  exact h
/-- A sum out of memory. -/
theorem ld24 {ops : Array Oper} {rest : List Oper} {o : Oper} {a : Act} {w : World} {Q : Exit → Act → World → Prop} (hgd : o.guard = none) (x : Operand) (ho : o.op = .load 40 x)
    (b off : Nat) (hx : a.eval x = .pointer (some ⟨b, off, none⟩)) (X : List Int) (hX : X.length = 32) (hc : w.rangeAt b off (by8 X))
    (h : wpList Tryz.prog ops Q rest (a.put o.dst (.agg (h8 X))) w) : wpList Tryz.prog ops Q (o :: rest) a w :=
  wpList_load_mid hgd 40 x ho b off hx (by8 X) _ hc Tryz.underlying40 rfl (by rw [by8_len, hX]; exact size24) h
/-- A sum into a block of its own. -/
theorem st24 {ops : Array Oper} {rest : List Oper} {o : Oper} {a : Act} {w : World} {Q : Exit → Act → World → Prop} (hgd : o.guard = none) (x y : Operand) (ho : o.op = .store 40 x y)
    (g : Nat) (X Y : List Int) (hx : a.eval x = .pointer (some ⟨g, 0, none⟩)) (hy : a.eval y = .agg (h8 X)) (hX : X.length = 32) (hY : Y.length = 32) (hg : Arr w g 40 (h8 Y))
    (h : wpList Tryz.prog ops Q rest (a.put o.dst undef) (w.setRow g (h8 X))) : wpList Tryz.prog ops Q (o :: rest) a w :=
  wpList_store_arr hgd 40 x y ho g (h8 X) hx hy 40 _ hg (s24h8 hX) (by rw [h8_size, h8_size, hX, hY]) (h8_one X) h
/-- .. into the newest block. -/
theorem st24n {ops : Array Oper} {rest : List Oper} {o : Oper} {a : Act} {Q : Exit → Act → World → Prop} (hgd : o.guard = none) (x y : Operand) (ho : o.op = .store 40 x y) (W : World) (g : Nat) (hgW : W.heap.size = g) {z : Array Value} (hz : z.size = 32)
    (X : List Int) (hx : a.eval x = .pointer (some ⟨g, 0, none⟩)) (hy : a.eval y = .agg (h8 X)) (hX : X.length = 32)
    (h : wpList Tryz.prog ops Q rest (a.put o.dst undef) (W.alloc (.cells (h8 X) 40))) : wpList Tryz.prog ops Q (o :: rest) a (W.alloc (.cells z 40)) := by
  subst hgW
  exact wpList_store_new W z 40 hgd 40 x y ho (h8 X) hx hy (s24h8 hX) (by rw [hz, h8_size, hX]) (h8_one X) h
/-- What is returned out of a block. -/
theorem res24 {f : Func} {w : World} {tmps : Array Value} {g t : Nat} {X : List Int} (hf : f.results = #[.cell t 40]) (hp : tmps.getD t undef = .pointer (some ⟨g, 0, none⟩)) (hX : X.length = 32) (hA : Arr w g 40 (h8 X)) :
    (results f tmps).run Tryz.prog w = .ok (.agg (h8 X)) w := results_cell_row hf _ _ g 40 _ (0, 0) _ hp hA Tryz.underlying40 rfl (s24h8 hX)
set_option maxRecDepth 100000 in
set_option maxHeartbeats 400000 in
theorem itself_any (X : List Int) (hX : X.length = 32) (w : World) : Calls Tryz.prog 141 #[.agg (h8 X)] w fun e w' => e = .returned (.agg (h8 X)) ∧ Below w.heap.size w w' := by
  have A0 := (Arr.new w 40 (h8 X)).alloc (.cells (h8 Z32) 40)
  have A1 := Arr.new (w.alloc (.cells (h8 X) 40)) 40 (h8 Z32)
  rw [World.size_alloc] at A1
  go_enter Tryz.func141, Tryz.ntmps141
  go_wp2_with (first
    | (refine ld24 (by rfl) _ (by rfl) w.heap.size 0 (by rfl) X hX A0.range ?_)
    | (refine st24 (by rfl) _ _ (by rfl) (w.heap.size + 1) X Z32 (by rfl) (by rfl) hX Z32_len A1 ?_))
  exact bodyPost_ret (v := .agg (h8 X)) (res24 Tryz.results141 rfl hX (A1.setRow _)) rfl ⟨rfl, below_setRow ((alloc_bel' w _).alloc (by simp) _) (by omega) _⟩
theorem resP {f : Func} {w : World} {tmps : Array Value} {g t k : Nat} {X : List Int} {v : Value} (hf : f.results = #[.cell t 40, .tmp k]) (hp : tmps.getD t undef = .pointer (some ⟨g, 0, none⟩)) (hk : tmps.getD k undef = v) (hX : X.length = 32) (hA : Arr w g 40 (h8 X)) :
    (results f tmps).run Tryz.prog w = .ok (.tuple #[.agg (h8 X), v]) w := by
  have hl := run_loadVar_mid (P := Tryz.prog) w g 0 40 (by8 X) _ hA.range Tryz.underlying40 rfl (by rw [by8_len, hX]; exact size24)
  have hp' : tmps[t]?.getD undef = .pointer (some ⟨g, 0, none⟩) := by simpa using hp
  have hk' : tmps[k]?.getD undef = v := by simpa using hk
  simp [results, hf, hp', hk', asAddr, hl, h8]
end Go.Proofs.YtneihkegipcakaaGreat
/- Layer trace: small methods. -/
namespace Go.Proofs.YtneihkegipcakaaGreat
open Go.RowKit
set_option maxRecDepth 100000
set_option linter.unusedVariables false
set_option linter.unusedSimpArgs false


/-- A trace of one mark, with nothing known, as it lies. -/
def tcA (most len : Int) (gt gm c : Nat) : Array Value := #[.slice none 0 0, .int .i64 most, .int .i64 len, .int .i64 1024, .slice (some ⟨gt, 0, none⟩) 1 c, .map (some gm)]
theorem count_any {w : World} {g gt gm c : Nat} {most len : Int} (A : Arr w g 84 (tcA most len gt gm c)) : Calls Tryz.prog 69 #[.pointer (some ⟨g, 3, none⟩)] w fun e w' => e = .returned (.int .i64 1) ∧ Below w.heap.size w w' := by
  have c4 := A.cell 4
  unfold tcA at c4
  clear A
  go_enter Tryz.func69, Tryz.ntmps69
  go_wp2_with fail
  go_ret
  exact ⟨rfl, Below.refl _ _⟩
theorem isThere_any {w : World} {g gt gm c : Nat} {most len : Int} (A : Arr w g 84 (tcA most len gt gm c)) : Calls Tryz.prog 36 #[.pointer (some ⟨g, 0, none⟩)] w fun e w' => e = .returned (.bool true) ∧ Below w.heap.size w w' := by
  have h := count_any A
  have c4 := A.cell 4
  unfold tcA at c4
  clear A
  go_enter Tryz.func36, Tryz.ntmps36
  go_wp2_with (go_at_call 69; go_must (refine h.mono ?_; rintro e w1 ⟨rfl, hb1⟩))
  go_ret
  exact ⟨rfl, hb1⟩
theorem isThere_nil (w : World) : Calls Tryz.prog 36 #[.pointer none] w fun e w' => e = .returned (.bool false) ∧ w' = w := by
  go_enter Tryz.func36, Tryz.ntmps36
  go_wp2_with fail
  go_ret
  exact ⟨rfl, rfl⟩
theorem find_nil (w : World) (k : Int) : Calls Tryz.prog 30 #[.pointer none, .int .i64 k] w fun e w' => e = .returned (.int .i64 1) ∧ w' = w := by
  have h := isThere_nil w
  go_enter Tryz.func30, Tryz.ntmps30
  go_wp2_with (go_at_call 36; go_must (refine h.mono ?_; rintro e w1 ⟨rfl, rfl⟩))
  go_ret
  exact ⟨rfl, rfl⟩
theorem len_nil (w : World) : Calls Tryz.prog 16 #[.pointer none] w fun e w' => e = .returned (.int .i64 0) ∧ w' = w := by
  have h := isThere_nil w
  go_enter Tryz.func16, Tryz.ntmps16
  go_wp2_with (go_at_call 36; go_must (refine h.mono ?_; rintro e w1 ⟨rfl, rfl⟩))
  go_ret
  exact ⟨rfl, rfl⟩
theorem len_any {w : World} {g gt gm c : Nat} {most len : Int} (A : Arr w g 84 (tcA most len gt gm c)) : Calls Tryz.prog 16 #[.pointer (some ⟨g, 0, none⟩)] w fun e w' => e = .returned (.int .i64 len) ∧ Below w.heap.size w w' := by
  have h := isThere_any A
  have hlt := A.lt
  have c2 := A.cell 2
  unfold tcA at c2
  clear A
  go_enter Tryz.func16, Tryz.ntmps16
  go_wp2_with (go_at_call 36; go_must (refine h.mono ?_; rintro e w1 ⟨rfl, hb1⟩; have d2 := (hb1.cell (p := ⟨g, 2, none⟩) hlt).trans c2))
  go_ret
  exact ⟨rfl, hb1⟩
/-- May k be asked for? -/
def fnE (most k : Int) : Int := if k < 0 ∨ most < k then 2 else 0
theorem find_any {w : World} {g gt gm c : Nat} {most len : Int} (A : Arr w g 84 (tcA most len gt gm c)) (k : Int) : Calls Tryz.prog 30 #[.pointer (some ⟨g, 0, none⟩), .int .i64 k] w fun e w' => e = .returned (.int .i64 (fnE most k)) ∧ Below w.heap.size w w' := by
  have h := isThere_any A
  have hlt := A.lt
  have c1 := A.cell 1
  unfold tcA at c1
  clear A
  unfold fnE
  by_cases h1 : k < 0
  · rw [if_pos (.inl h1)]
    go_enter Tryz.func30, Tryz.ntmps30
    go_wp2_with (go_at_call 36; go_must (refine h.mono ?_; rintro e w1 ⟨rfl, hb1⟩; have d1 := (hb1.cell (p := ⟨g, 1, none⟩) hlt).trans c1))
    go_ret
    exact ⟨rfl, hb1⟩
  by_cases h2 : most < k
  · rw [if_pos (.inr h2)]
    go_enter Tryz.func30, Tryz.ntmps30
    go_wp2_with (go_at_call 36; go_must (refine h.mono ?_; rintro e w1 ⟨rfl, hb1⟩; have d1 := (hb1.cell (p := ⟨g, 1, none⟩) hlt).trans c1))
    go_ret
    exact ⟨rfl, hb1⟩
  · rw [if_neg (by rintro (h | h); exact h1 h; exact h2 h)]
    go_enter Tryz.func30, Tryz.ntmps30
    go_wp2_with (go_at_call 36; go_must (refine h.mono ?_; rintro e w1 ⟨rfl, hb1⟩; have d1 := (hb1.cell (p := ⟨g, 1, none⟩) hlt).trans c1))
    go_ret
    exact ⟨rfl, hb1⟩
end Go.Proofs.YtneihkegipcakaaGreat
/- A drawn region, operation by operation. -/
namespace Go.Proofs.YtneihkegipcakaaGreat
open Go.RowKit
set_option maxRecDepth 100000
set_option linter.unusedVariables false
set_option linter.unusedSimpArgs false

/-- An operation that only yields, taken ahead of the rest. -/
theorem tk {P : Program} {ops : Array Oper} {Q : Exit → Act → World → Prop} {md : Region.Mode} {S : World → Prop} (i : Nat) {dst : Option Tmp} {op : Op} {ty : TypeId} {pos : String} {af : Array Edge} {gd : Option (Nat × Bool)} {v : Value} {fuel : Nat} {listed : Array Bool} {a a' : Act} {w : World} (hi : ops[i]? = some ⟨dst, op, ty, pos, af, gd⟩)
    (h : wpAnyH P md ops Q S fuel (listed.setIfInBounds i true) a' w)
    (hs : Region.noSelect ops = true := by kernel_rfl) (hf : Region.free md ops listed i = true := by kernel_rfl) (hr : (Region.ready md ops listed).contains i = true := by kernel_rfl)
    (hw : Region.wanted ⟨dst, op, ty, pos, af, gd⟩ (yielded ops a.tmps) = true := by rfl)
    (hy : ∀ u, S u → (execOp a.eval ⟨dst, op, ty, pos, af, gd⟩).run P u = .ok (.value v) u := by (intro u hSw; go_simp; try (with_reducible rfl)))
    (hQ : ∀ c a w, Q (.panic c) (a.put dst v) w → Q (.panic c) a w := by exact fun _ _ _ h => h)
    (ha : a.put dst v = a' := by (conv => (lhs; try simp only [Act.put, List.setIfInBounds_toArray, List.set_cons_zero, List.set_cons_succ])); (try rfl)) (hS : S w := by assumption) : wpAnyH P md ops Q S (fuel + 1) listed a w :=
  wpAnyH_take hi hs hf hr hQ (Or.inl ⟨hw, hy⟩) hS (by rw [ha]; exact h)
theorem tks {P : Program} {ops : Array Oper} {Q : Exit → Act → World → Prop} {md : Region.Mode} {S : World → Prop} (i : Nat) {dst : Option Tmp} {op : Op} {ty : TypeId} {pos : String} {af : Array Edge} {gd : Option (Nat × Bool)} {v : Value} {fuel : Nat} {listed : Array Bool} {a a' : Act} {w : World} (hi : ops[i]? = some ⟨dst, op, ty, pos, af, gd⟩)
    (h : wpAnyH P md ops Q S fuel (listed.setIfInBounds i true) a' w)
    (hs : Region.noSelect ops = true := by kernel_rfl) (hf : Region.free md ops listed i = true := by kernel_rfl) (hr : (Region.ready md ops listed).contains i = true := by kernel_rfl)
    (hw : Region.wanted ⟨dst, op, ty, pos, af, gd⟩ (yielded ops a.tmps) = true := by rfl)
    (hy : ∀ u, S u → (execOp a.eval ⟨dst, op, ty, pos, af, gd⟩).run P u = .ok (.value v) u := by (intro u hSw; subst hSw; go_simp; try (with_reducible rfl)))
    (hQ : ∀ c a w, Q (.panic c) (a.put dst v) w → Q (.panic c) a w := by exact fun _ _ _ h => h)
    (ha : a.put dst v = a' := by (conv => (lhs; try simp only [Act.put, List.setIfInBounds_toArray, List.set_cons_zero, List.set_cons_succ])); (try rfl)) (hS : S w := by assumption) : wpAnyH P md ops Q S (fuel + 1) listed a w :=
  wpAnyH_take hi hs hf hr hQ (Or.inl ⟨hw, hy⟩) hS (by rw [ha]; exact h)
theorem tk2 {P : Program} {ops : Array Oper} {Q : Exit → Act → World → Prop} {md : Region.Mode} {S : World → Prop} (i : Nat) {dst : Option Tmp} {op : Op} {ty : TypeId} {pos : String} {af : Array Edge} {gd : Option (Nat × Bool)} {v : Value} {fuel : Nat} {listed : Array Bool} {a a' : Act} {w : World} (hi : ops[i]? = some ⟨dst, op, ty, pos, af, gd⟩)
    (h : wpAnyH P md ops Q S fuel (listed.setIfInBounds i true) a' w)
    (hs : Region.noSelect ops = true := by kernel_rfl) (hf : Region.free md ops listed i = true := by kernel_rfl) (hr : (Region.ready md ops listed).contains i = true := by kernel_rfl)
    (hw : Region.wanted ⟨dst, op, ty, pos, af, gd⟩ (yielded ops a.tmps) = true := by rfl)
    (hy : ∀ u, S u → (execOp a.eval ⟨dst, op, ty, pos, af, gd⟩).run P u = .ok (.value v) u := by (intro u hSw; obtain ⟨s1, s2⟩ := hSw; go_simp; try (with_reducible rfl)))
    (hQ : ∀ c a w, Q (.panic c) (a.put dst v) w → Q (.panic c) a w := by exact fun _ _ _ h => h)
    (ha : a.put dst v = a' := by (conv => (lhs; try simp only [Act.put, List.setIfInBounds_toArray, List.set_cons_zero, List.set_cons_succ])); (try rfl)) (hS : S w := by assumption) : wpAnyH P md ops Q S (fuel + 1) listed a w :=
  wpAnyH_take hi hs hf hr hQ (Or.inl ⟨hw, hy⟩) hS (by rw [ha]; exact h)
theorem tk3 {P : Program} {ops : Array Oper} {Q : Exit → Act → World → Prop} {md : Region.Mode} {S : World → Prop} (i : Nat) {dst : Option Tmp} {op : Op} {ty : TypeId} {pos : String} {af : Array Edge} {gd : Option (Nat × Bool)} {v : Value} {fuel : Nat} {listed : Array Bool} {a a' : Act} {w : World} (hi : ops[i]? = some ⟨dst, op, ty, pos, af, gd⟩)
    (h : wpAnyH P md ops Q S fuel (listed.setIfInBounds i true) a' w)
    (hs : Region.noSelect ops = true := by kernel_rfl) (hf : Region.free md ops listed i = true := by kernel_rfl) (hr : (Region.ready md ops listed).contains i = true := by kernel_rfl)
    (hw : Region.wanted ⟨dst, op, ty, pos, af, gd⟩ (yielded ops a.tmps) = true := by rfl)
    (hy : ∀ u, S u → (execOp a.eval ⟨dst, op, ty, pos, af, gd⟩).run P u = .ok (.value v) u := by (intro u hSw; obtain ⟨s1, s2, s3⟩ := hSw; go_simp; try (with_reducible rfl)))
    (hQ : ∀ c a w, Q (.panic c) (a.put dst v) w → Q (.panic c) a w := by exact fun _ _ _ h => h)
    (ha : a.put dst v = a' := by (conv => (lhs; try simp only [Act.put, List.setIfInBounds_toArray, List.set_cons_zero, List.set_cons_succ])); (try rfl)) (hS : S w := by assumption) : wpAnyH P md ops Q S (fuel + 1) listed a w :=
  wpAnyH_take hi hs hf hr hQ (Or.inl ⟨hw, hy⟩) hS (by rw [ha]; exact h)
theorem dn {P : Program} {ops : Array Oper} {Q : Exit → Act → World → Prop} {md : Region.Mode} {S : World → Prop} {listed : Array Bool} {a : Act} {w : World} {fuel : Nat} (h : Q .normal a w) (hr : Region.ready md ops listed = [] := by kernel_rfl) : wpAnyH P md ops Q S fuel listed a w := wpAnyH_done hr h fuel
theorem rgn {P : Program} {ops : Array Oper} {Q : Exit → Act → World → Prop} (S : World → Prop) {id : Nat} {a : Act} {w : World} (hS : S w.drew) (h : S w.drew → wpAnyH P .any ops Q S ops.size (Array.replicate ops.size false) a w.drew) (hm : P.follows .mixedOrders = true := by kernel_rfl) : (Code.region id ops true).wp P Q a w := wp_region_held_drew hm hS h
/-- .. whose value is told by a law. -/
theorem tl {P : Program} {ops : Array Oper} {Q : Exit → Act → World → Prop} {md : Region.Mode} {S : World → Prop} (i : Nat) {dst : Option Tmp} {op : Op} {ty : TypeId} {pos : String} {af : Array Edge} {gd : Option (Nat × Bool)} {v : Value} {fuel : Nat} {listed : Array Bool} {a a' : Act} {w : World} (hi : ops[i]? = some ⟨dst, op, ty, pos, af, gd⟩)
    (hy : YieldsIf P ops S ⟨dst, op, ty, pos, af, gd⟩ v a) (h : wpAnyH P md ops Q S fuel (listed.setIfInBounds i true) a' w)
    (hs : Region.noSelect ops = true := by kernel_rfl) (hf : Region.free md ops listed i = true := by kernel_rfl) (hr : (Region.ready md ops listed).contains i = true := by kernel_rfl)
    (hQ : ∀ c a w, Q (.panic c) (a.put dst v) w → Q (.panic c) a w := by exact fun _ _ _ h => h)
    (ha : a.put dst v = a' := by (conv => (lhs; try simp only [Act.put, List.setIfInBounds_toArray, List.set_cons_zero, List.set_cons_succ])); (try rfl)) (hS : S w := by assumption) : wpAnyH P md ops Q S (fuel + 1) listed a w :=
  wpAnyH_take hi hs hf hr hQ hy hS (by rw [ha]; exact h)
/-- The one operation that may come up. -/
theorem rd {P : Program} {ops : Array Oper} {Q : Exit → Act → World → Prop} {md : Region.Mode} {S : World → Prop} (i : Nat) {dst : Option Tmp} {op : Op} {ty : TypeId} {pos : String} {af : Array Edge} {gd : Option (Nat × Bool)} {fuel : Nat} {listed : Array Bool} {a : Act} {w : World} (hi : ops[i]? = some ⟨dst, op, ty, pos, af, gd⟩) (h : (∀ K' : Act → World → Prop, Shut (∀ a w, S w → (S w → wpAnyH P md ops Q S fuel (listed.setIfInBounds i true) a w) → K' a w) → if Region.wanted ⟨dst, op, ty, pos, af, gd⟩ (yielded ops a.tmps) = true then Oper.wp P ⟨dst, op, ty, pos, af, gd⟩ a w K' Q else K' (a.put dst undef) w))
    (hr : Region.ready md ops listed = [i] := by kernel_rfl) : wpAnyH P md ops Q S (fuel + 1) listed a w :=
  wpAnyH_ready hr (by simp) (AllReadyH.cons hi h AllReadyH.nil)
/-- .. of two. -/
theorem rd2 {P : Program} {ops : Array Oper} {Q : Exit → Act → World → Prop} {md : Region.Mode} {S : World → Prop} (i j : Nat) {dst : Option Tmp} {op : Op} {ty : TypeId} {pos : String} {af : Array Edge} {gd : Option (Nat × Bool)} {dst2 : Option Tmp} {op2 : Op} {ty2 : TypeId} {pos2 : String} {af2 : Array Edge} {gd2 : Option (Nat × Bool)} {fuel : Nat} {listed : Array Bool} {a : Act} {w : World} (hi : ops[i]? = some ⟨dst, op, ty, pos, af, gd⟩) (hj : ops[j]? = some ⟨dst2, op2, ty2, pos2, af2, gd2⟩) (h : (∀ K' : Act → World → Prop, Shut (∀ a w, S w → (S w → wpAnyH P md ops Q S fuel (listed.setIfInBounds i true) a w) → K' a w) → if Region.wanted ⟨dst, op, ty, pos, af, gd⟩ (yielded ops a.tmps) = true then Oper.wp P ⟨dst, op, ty, pos, af, gd⟩ a w K' Q else K' (a.put dst undef) w)) (h2 : (∀ K' : Act → World → Prop, Shut (∀ a w, S w → (S w → wpAnyH P md ops Q S fuel (listed.setIfInBounds j true) a w) → K' a w) → if Region.wanted ⟨dst2, op2, ty2, pos2, af2, gd2⟩ (yielded ops a.tmps) = true then Oper.wp P ⟨dst2, op2, ty2, pos2, af2, gd2⟩ a w K' Q else K' (a.put dst2 undef) w))
    (hr : Region.ready md ops listed = [i, j] := by kernel_rfl) : wpAnyH P md ops Q S (fuel + 1) listed a w :=
  wpAnyH_ready hr (by simp) (AllReadyH.cons hi h (AllReadyH.cons hj h2 AllReadyH.nil))
/-- Back into the region. -/
theorem ko {P : Program} {ops : Array Oper} {Q : Exit → Act → World → Prop} {md : Region.Mode} {S : World → Prop} {K : Act → World → Prop} {fuel : Nat} {listed : Array Bool} {a a' : Act} {w : World} (hK : Shut (∀ a w, S w → (S w → wpAnyH P md ops Q S fuel listed a w) → K a w)) (hS : S w) (h : S w → wpAnyH P md ops Q S fuel listed a' w)
    (ha : a = a' := by (conv => (lhs; try simp only [Act.put, List.setIfInBounds_toArray, List.set_cons_zero, List.set_cons_succ])); (try rfl)) : K a w := by
  subst ha
  exact hK.out _ _ hS h
end Go.Proofs.YtneihkegipcakaaGreat
/- Layer trace: what the layers below give. -/
namespace Go.Proofs.YtneihkegipcakaaGreat
open Go.RowKit
set_option maxRecDepth 100000
set_option linter.unusedVariables false
set_option linter.unusedSimpArgs false

/-- The array of halves that wait, in memory. -/
structure LV (w : World) (g : Nat) (W : Nat → List Int) : Prop where
  rg : ∀ k, k < 17 → w.rangeAt g (k * 32) (by8 (W k))
  l32 : ∀ k, (W k).length = 32
  th : w.there g 0 544
theorem LV.below {w w' : World} {g B : Nat} {W : Nat → List Int} (h : LV w g W) (hb : Below B w w') (hg : g < B) : LV w' g W :=
  ⟨fun k hk => range_below (h.rg k hk) hb hg, h.l32, there_below h.th hb hg⟩
theorem LV.lt {w : World} {g : Nat} {W : Nat → List Int} (h : LV w g W) : g < w.heap.size := by
  have := (h.th 0 (by omega)).1
  obtain ⟨v, hv⟩ := Option.isSome_iff_exists.1 this
  exact block_lt_of_cell hv
theorem LV.set {w : World} {g : Nat} {W : Nat → List Int} (h : LV w g W) {k : Nat} (hk : k < 17) {r : List Int} (hr : r.length = 32) : LV (w.setCells g (k * 32) (by8 r)) g (fun j => if j = k then r else W j) := by
  refine ⟨fun j hj => ?_, fun j => ?_, World.there_setCells h.th _ _ _⟩
  · show World.rangeAt _ _ _ (by8 (if j = k then r else W j))
    by_cases e : j = k
    · subst e
      rw [if_pos rfl]
      exact World.rangeAt_setCells_same _ _ _ _ (fun i hi => by
        rw [by8_len, hr] at hi
        have := h.th (j * 32 + i) (by omega)
        rwa [Nat.zero_add] at this)
    · rw [if_neg e]
      refine World.rangeAt_setCells_apart (h.rg j hj) _ _ _ (.inr ?_)
      rw [by8_len, by8_len, hr, h.l32]
      omega
  · show (if j = k then r else W j).length = 32
    split
    · exact hr
    · exact h.l32 j
theorem heap_setCells_other {k g : Nat} (hk : k ≠ g) : ∀ (vs : List Value) (o : Nat) (w : World), (w.setCells g o vs).heap[k]? = w.heap[k]?
  | [], _, _ => rfl
  | v :: r, o, w => by
    rw [World.setCells, heap_setCells_other hk r (o + 1)]
    exact Below.heap_setCell _ _ _ _ hk
theorem size_setCells (g : Nat) : ∀ (vs : List Value) (o : Nat) (w : World), (w.setCells g o vs).heap.size = w.heap.size
  | [], _, _ => rfl
  | v :: r, o, w => by rw [World.setCells, size_setCells g r (o + 1)]; simp [World.setCell]
theorem below_setCells {B : Nat} {a w : World} (h : Below B a w) {g : Nat} (hg : B ≤ g) : ∀ (vs : List Value) (o : Nat), Below B a (w.setCells g o vs) := by
  intro vs
  induction vs generalizing w with
  | nil => intro o; exact h
  | cons v r ih => intro o; rw [World.setCells]; exact ih (h.setCell (p := ⟨g, o, none⟩) hg v) (o + 1)
theorem Arr.setCellsOther {w : World} {g ty k : Nat} {C : Array Value} (h : Arr w g ty C) (hk : g ≠ k) (o : Nat) (vs : List Value) : Arr (w.setCells k o vs) g ty C := (heap_setCells_other hk vs o w).trans h
/-- What put does. -/
def PutPost (l : List (List Int)) (n : Nat) (W : Nat → List Int) (g : Nat) (w : World) (e : Ending) (w' : World) : Prop :=
  (∃ v, e = .returned v) ∧ ∃ w1 k r, Below w.heap.size w w1 ∧ k < 17 ∧ r.length = 32 ∧ w' = w1.setCells g (k * 32) (by8 r) ∧ Wt l (n + 1) (fun j => if j = k then r else W j)
theorem low_succ {n k : Nat} (h : n % 2 ^ k + 1 = 2 ^ k) (hb : (n / 2 ^ k) % 2 = 1) : n % 2 ^ (k + 1) + 1 = 2 ^ (k + 1) := by
  rw [Nat.mod_pow_succ, hb, Nat.mul_one, Nat.pow_succ]; omega
/-- A leaf of the first 2^16 comes up 16 levels at most. -/
theorem low_lt {n k : Nat} (h : n % 2 ^ k + 1 = 2 ^ k) (hn : n < 65536) : k ≤ 16 := by
  by_cases hk : k ≤ 16
  · exact hk
  · exfalso
    have h1 : n % 2 ^ k ≤ n := Nat.mod_le _ _
    have h2 : 2 ^ 17 ≤ 2 ^ k := Nat.pow_le_pow_right (by omega) (by omega)
    have h3 : (2 : Nat) ^ 17 = 131072 := by rfl
    omega
set_option maxRecDepth 100000 in
set_option maxHeartbeats 1000000 in
theorem put_any (l : List (List Int)) (n : Nat) (X : List Int) (W : Nat → List Int) (g : Nat) (w : World) (hX : X.length = 32) (hl : l[n]? = some X) (hn : n < 65536) (hL : LV w g W) (hW : Wt l n W) :
    Calls Tryz.prog 157 #[.pointer (some ⟨g, 0, none⟩), .int .i64 n, .agg (h8 X)] w (PutPost l n W g w) := by
  have A0 := Arr.new w 40 (h8 X)
  have hst := Hid.mk' (put_start hl)
  replace hW := Hid.mk' hW
  replace hl := Hid.mk' hl
  have hgl := hL.lt
  have hb1 := (alloc_bel' w (.cells (h8 X) 40)).alloc (by simp) (.cells (h8 X) 40)
  have A1 := Arr.new (w.alloc (.cells (h8 X) 40)) 40 (h8 X)
  rw [World.size_alloc] at A1
  go_enter Tryz.func157, Tryz.ntmps157
  go_wp2_with (first
    | (refine ld24 (by rfl) _ (by rfl) w.heap.size 0 (by rfl) X hX A0.range ?_)
    | (refine st24n (by rfl) _ _ (by rfl) (w.alloc (.cells (h8 X) 40)) (w.heap.size + 1) (by simp) (by rfl) X (by rfl) (by rfl) hX ?_))
  go_loopw [7] (fun d wr => ∃ (k : Nat) (r : List Int), d = .int .i64 (k : Int) ∧ Below w.heap.size w wr ∧ w.heap.size + 2 ≤ wr.heap.size ∧ Arr wr (w.heap.size + 1) 40 (h8 r) ∧ Hid (r.length = 32) ∧ Hid (n % 2 ^ k + 1 = 2 ^ k) ∧ Hid (r = tr k (l.drop ((n / 2 ^ k) * 2 ^ k))))
    (fun d _ => 20 - (intOf d).toNat)
  case atStart => exact ⟨0, X, rfl, hb1, by simp, A1, Hid.mk' hX, Hid.mk' (by simp [Nat.mod_one]), hst⟩
  case round =>
    obtain ⟨k, r, rfl, hbl, hsz, R1, hr, hlow, hrt⟩ := hrel
    clear A0 A1 hb1 hst
    have hk := low_lt hlow.out hn
    have hkI : (k : Int) < 17 := by omega
    have hsec := isSecond_any n k (by omega) (by omega)
    have hRk := range_below (hL.rg k (by omega)) hbl hgl
    cases hd : decide (n / 2 ^ k % 2 = 1) with
    | true =>
      rw [hd] at hsec
      have hd := Hid.mk' (of_decide_eq_true hd)
      go_wp2_with (first
        | (go_at_call 162; go_must (refine (hsec _).mono ?_; rintro e w2 ⟨rfl, rfl⟩)))
      refine wp_region_held_drew (S := fun _ => True) (by kernel_rfl) trivial (fun hHeld => ?_)
      refine wpAnyH_take (i := 0) (oi := ⟨_, _, _, _, _, _⟩) (v := ?_) rfl (by kernel_rfl) (by kernel_rfl) (by kernel_rfl) (fun _ _ _ h => h) (Or.inl ⟨by rfl, ?_⟩) (by assumption) ?_
      rotate_left
      · intro u hSw
        go_simp
        try (with_reducible rfl)
      try simp only [Act.put, List.setIfInBounds_toArray, List.set_cons_zero, List.set_cons_succ]
      refine wpAnyH_take (i := 1) (oi := ⟨_, _, _, _, _, _⟩) (v := ?_) rfl (by kernel_rfl) (by kernel_rfl) (by kernel_rfl) (fun _ _ _ h => h) (Or.inl ⟨by rfl, ?_⟩) (by assumption) ?_
      rotate_left
      · intro u hSw
        go_simp
        try (with_reducible rfl)
      try simp only [Act.put, List.setIfInBounds_toArray, List.set_cons_zero, List.set_cons_succ]
      refine wpAnyH_take (i := 2) (oi := ⟨_, _, _, _, _, _⟩) (v := ?_) rfl (by kernel_rfl) (by kernel_rfl) (by kernel_rfl) (fun _ _ _ h => h) (Or.inl ⟨by rfl, ?_⟩) (by assumption) ?_
      rotate_left
      · intro u hSw
        go_simp
        try (with_reducible rfl)
      try simp only [Act.put, List.setIfInBounds_toArray, List.set_cons_zero, List.set_cons_succ]
      refine wpAnyH_take (i := 3) (oi := ⟨_, _, _, _, _, _⟩) (v := ?_) rfl (by kernel_rfl) (by kernel_rfl) (by kernel_rfl) (fun _ _ _ h => h) (Or.inl ⟨by rfl, ?_⟩) (by assumption) ?_
      rotate_left
      · intro u hSw
        go_simp
        try (with_reducible rfl)
      try simp only [Act.put, List.setIfInBounds_toArray, List.set_cons_zero, List.set_cons_succ]
      refine wpAnyH_ready (rs := [4, 5]) (by kernel_rfl) (by simp) ?_
      refine AllReadyH.cons (o := ⟨_, _, _, _, _, _⟩) rfl (fun K hK => ?_) (AllReadyH.cons (o := ⟨_, _, _, _, _, _⟩) rfl (fun K hK => ?_) AllReadyH.nil)
      · refine step_want rfl (wp_load_mid 40 (.tmp 15) rfl g (k * 32) rfl (by8 (W k)) _ ((World.rangeAt_drew _ _ _ _).2 hRk) Tryz.underlying40 rfl (by rw [by8_len, hL.l32 k]; exact size24) ?_)
        refine hK.out _ _ trivial (fun hHeld => ?_)
        clear hK K
        try simp only [Act.put, List.setIfInBounds_toArray, List.set_cons_zero, List.set_cons_succ]
        refine wpAnyH_ready (rs := [5]) (by kernel_rfl) (by simp) ?_
        refine AllReadyH.cons (o := ⟨_, _, _, _, _, _⟩) rfl (fun K hK => ?_) AllReadyH.nil
        refine step_want rfl (wp_load_mid 40 (.tmp 6) rfl (w.heap.size + 1) 0 rfl (by8 r) _ R1.drew.range Tryz.underlying40 rfl (by rw [by8_len, hr.out]; exact size24) ?_)
        refine hK.out _ _ trivial (fun hHeld => ?_)
        clear hK K
        try simp only [Act.put, List.setIfInBounds_toArray, List.set_cons_zero, List.set_cons_succ]
        refine wpAnyH_ready (rs := [6]) (by kernel_rfl) (by simp) ?_
        refine AllReadyH.cons (o := ⟨_, _, _, _, _, _⟩) rfl (fun K hK => ?_) AllReadyH.nil
        go_simp
        refine (pair_h (W k) r _ (hL.l32 k) hr.out).mono ?_; rintro e w3 ⟨rfl, hb3⟩; have hs3 := hb3.size; simp at hs3; have S1 := R1.drew.below hb3 (by simp <;> omega)
        go_wp2_with fail
        refine hK.out _ _ trivial (fun hHeld => ?_)
        clear hK K
        try simp only [Act.put, List.setIfInBounds_toArray, List.set_cons_zero, List.set_cons_succ]
        refine wpAnyH_ready (rs := [7]) (by kernel_rfl) (by simp) ?_
        refine AllReadyH.cons (o := ⟨_, _, _, _, _, _⟩) rfl (fun K hK => ?_) AllReadyH.nil
        refine step_want rfl (wp_store_row 40 (.tmp 6) (.tmp 18) rfl (w.heap.size + 1) (h8 (pr (W k) r)) rfl rfl 40 _ S1 (s24h8 (pr_len _ _)) (by rw [h8_size, h8_size, hr.out, pr_len]) (h8_one _) ?_)
        refine hK.out _ _ trivial (fun hHeld => ?_)
        clear hK K
        try simp only [Act.put, List.setIfInBounds_toArray, List.set_cons_zero, List.set_cons_succ]
        refine wpAnyH_done (by kernel_rfl) ?_ _
        go_wp2_with fail
        go_roundw
        case rel => exact ⟨k + 1, pr (W k) r, by go_num, below_setRow (hbl.drew.trans (hb3.mono (by simp <;> omega))) (by omega) _, by simp <;> omega, S1.setRow _, Hid.mk' (pr_len _ _), Hid.mk' (low_succ hlow.out hd.out), Hid.mk' (wt_up hW.out hd.out hrt.out)⟩
        case measure => simp [intOf]; omega
      · refine step_want rfl (wp_load_mid 40 (.tmp 6) rfl (w.heap.size + 1) 0 rfl (by8 r) _ R1.drew.range Tryz.underlying40 rfl (by rw [by8_len, hr.out]; exact size24) ?_)
        refine hK.out _ _ trivial (fun hHeld => ?_)
        clear hK K
        try simp only [Act.put, List.setIfInBounds_toArray, List.set_cons_zero, List.set_cons_succ]
        refine wpAnyH_ready (rs := [4]) (by kernel_rfl) (by simp) ?_
        refine AllReadyH.cons (o := ⟨_, _, _, _, _, _⟩) rfl (fun K hK => ?_) AllReadyH.nil
        refine step_want rfl (wp_load_mid 40 (.tmp 15) rfl g (k * 32) rfl (by8 (W k)) _ ((World.rangeAt_drew _ _ _ _).2 hRk) Tryz.underlying40 rfl (by rw [by8_len, hL.l32 k]; exact size24) ?_)
        refine hK.out _ _ trivial (fun hHeld => ?_)
        clear hK K
        try simp only [Act.put, List.setIfInBounds_toArray, List.set_cons_zero, List.set_cons_succ]
        refine wpAnyH_ready (rs := [6]) (by kernel_rfl) (by simp) ?_
        refine AllReadyH.cons (o := ⟨_, _, _, _, _, _⟩) rfl (fun K hK => ?_) AllReadyH.nil
        go_simp
        refine (pair_h (W k) r _ (hL.l32 k) hr.out).mono ?_; rintro e w3 ⟨rfl, hb3⟩; have hs3 := hb3.size; simp at hs3; have S1 := R1.drew.below hb3 (by simp <;> omega)
        go_wp2_with fail
        refine hK.out _ _ trivial (fun hHeld => ?_)
        clear hK K
        try simp only [Act.put, List.setIfInBounds_toArray, List.set_cons_zero, List.set_cons_succ]
        refine wpAnyH_ready (rs := [7]) (by kernel_rfl) (by simp) ?_
        refine AllReadyH.cons (o := ⟨_, _, _, _, _, _⟩) rfl (fun K hK => ?_) AllReadyH.nil
        refine step_want rfl (wp_store_row 40 (.tmp 6) (.tmp 18) rfl (w.heap.size + 1) (h8 (pr (W k) r)) rfl rfl 40 _ S1 (s24h8 (pr_len _ _)) (by rw [h8_size, h8_size, hr.out, pr_len]) (h8_one _) ?_)
        refine hK.out _ _ trivial (fun hHeld => ?_)
        clear hK K
        try simp only [Act.put, List.setIfInBounds_toArray, List.set_cons_zero, List.set_cons_succ]
        refine wpAnyH_done (by kernel_rfl) ?_ _
        go_wp2_with fail
        go_roundw
        case rel => exact ⟨k + 1, pr (W k) r, by go_num, below_setRow (hbl.drew.trans (hb3.mono (by simp <;> omega))) (by omega) _, by simp <;> omega, S1.setRow _, Hid.mk' (pr_len _ _), Hid.mk' (low_succ hlow.out hd.out), Hid.mk' (wt_up hW.out hd.out hrt.out)⟩
        case measure => simp [intOf]; omega
    | false =>
      rw [hd] at hsec
      have hd : Hid ((n / 2 ^ k) % 2 = 0) := Hid.mk' (by have := of_decide_eq_false hd; omega)
      have hth : wr.there g (k * 32) 32 := fun j hj => by
        have := there_below hL.th hbl hgl (k * 32 + j) (by omega)
        rwa [Nat.zero_add] at this
      go_wp2_with (first
        | (go_at_call 162; go_must (refine (hsec _).mono ?_; rintro e w2 ⟨rfl, rfl⟩)))
      refine wp_region_held_drew (S := fun _ => True) (by kernel_rfl) trivial (fun hHeld => ?_)
      refine wpAnyH_take (i := 0) (oi := ⟨_, _, _, _, _, _⟩) (v := ?_) rfl (by kernel_rfl) (by kernel_rfl) (by kernel_rfl) (fun _ _ _ h => h) (Or.inl ⟨by rfl, ?_⟩) (by assumption) ?_
      rotate_left
      · intro u hSw
        go_simp
        try (with_reducible rfl)
      try simp only [Act.put, List.setIfInBounds_toArray, List.set_cons_zero, List.set_cons_succ]
      refine wpAnyH_take (i := 1) (oi := ⟨_, _, _, _, _, _⟩) (v := ?_) rfl (by kernel_rfl) (by kernel_rfl) (by kernel_rfl) (fun _ _ _ h => h) (Or.inl ⟨by rfl, ?_⟩) (by assumption) ?_
      rotate_left
      · intro u hSw
        go_simp
        try (with_reducible rfl)
      try simp only [Act.put, List.setIfInBounds_toArray, List.set_cons_zero, List.set_cons_succ]
      refine wpAnyH_take (i := 3) (oi := ⟨_, _, _, _, _, _⟩) (v := ?_) rfl (by kernel_rfl) (by kernel_rfl) (by kernel_rfl) (fun _ _ _ h => h) (Or.inl ⟨by rfl, ?_⟩) (by assumption) ?_
      rotate_left
      · intro u hSw
        go_simp
        try (with_reducible rfl)
      try simp only [Act.put, List.setIfInBounds_toArray, List.set_cons_zero, List.set_cons_succ]
      refine wpAnyH_ready (rs := [2]) (by kernel_rfl) (by simp) ?_
      refine AllReadyH.cons (o := ⟨_, _, _, _, _, _⟩) rfl (fun K hK => ?_) AllReadyH.nil
      refine step_want rfl (wp_load_mid 40 (.tmp 6) rfl (w.heap.size + 1) 0 rfl (by8 r) _ R1.drew.range Tryz.underlying40 rfl (by rw [by8_len, hr.out]; exact size24) ?_)
      refine hK.out _ _ trivial (fun hHeld => ?_)
      clear hK K
      try simp only [Act.put, List.setIfInBounds_toArray, List.set_cons_zero, List.set_cons_succ]
      refine wpAnyH_take (i := 4) (oi := ⟨_, _, _, _, _, _⟩) (v := ?_) rfl (by kernel_rfl) (by kernel_rfl) (by kernel_rfl) (fun _ _ _ h => h) (Or.inl ⟨by rfl, ?_⟩) (by assumption) ?_
      rotate_left
      · intro u hSw
        go_simp
        try (with_reducible rfl)
      try simp only [Act.put, List.setIfInBounds_toArray, List.set_cons_zero, List.set_cons_succ]
      refine wpAnyH_ready (rs := [5]) (by kernel_rfl) (by simp) ?_
      refine AllReadyH.cons (o := ⟨_, _, _, _, _, _⟩) rfl (fun K hK => ?_) AllReadyH.nil
      refine step_want rfl (wp_store_mid 40 (.tmp 25) (.tmp 23) rfl g (k * 32) (h8 r) rfl rfl (by rw [h8_size, hr.out]; exact (World.there_drew _ _ _ _).2 hth) (s24h8 hr.out) (h8_one _) ?_)
      refine hK.out _ _ trivial (fun hHeld => ?_)
      clear hK K
      refine wpAnyH_done (by kernel_rfl) ?_ _
      go_end0
      exact ⟨⟨_, rfl⟩, _, k, r, hbl.drew, by omega, hr.out, rfl, wt_stay hW.out hd.out hlow.out hrt.out⟩
end Go.Proofs.YtneihkegipcakaaGreat
/- Layer trace: what the layers below give. -/
namespace Go.Proofs.YtneihkegipcakaaGreat
open Go.RowKit
set_option maxRecDepth 100000
set_option linter.unusedVariables false
set_option linter.unusedSimpArgs false

/-- All are bytes. -/
def Bts (L : List Int) : Prop := ∀ x ∈ L, 0 ≤ x ∧ x ≤ 255
theorem Bts.nil : Bts [] := by simp [Bts]
theorem Bytes.belowB {w w' : World} {b off n B : Nat} {f : Nat → Int} (h : Bytes w b off n f) (hb : Below B w w') (hlt : b < B) : Bytes w' b off n f := fun t ht => (hb.cell (p := ⟨b, off + t, none⟩) hlt).trans (h t ht)
/-- A slice of bytes in blocks below N. -/
structure BS (N : Nat) (w : World) (sp : Option Addr) (n cap : Nat) (L : List Int) : Prop where
  len : Hid (n = L.length)
  nil : sp = none → n = 0 ∧ cap = 0
  le : n ≤ cap
  big : cap ≤ 9223372036854775807
  small : n ≤ 140737488355000
  at0 : 0 < n → ∃ b off, sp = some ⟨b, off, none⟩ ∧ b < N ∧ Bytes w b off n (bat L)
  bts : Bts L
theorem BS.mono {N N' : Nat} {w : World} {sp : Option Addr} {n cap : Nat} {L : List Int} (h : BS N w sp n cap L) (hN : N ≤ N') : BS N' w sp n cap L :=
  ⟨h.len, h.nil, h.le, h.big, h.small, fun h0 => let ⟨b, off, e, hb, hB⟩ := h.at0 h0; ⟨b, off, e, by omega, hB⟩, h.bts⟩
theorem BS.below {N : Nat} {w w' : World} {sp : Option Addr} {n cap : Nat} {L : List Int} (h : BS N w sp n cap L) (hb : Below N w w') : BS N w' sp n cap L :=
  ⟨h.len, h.nil, h.le, h.big, h.small, fun h0 => let ⟨b, off, e, hbN, hB⟩ := h.at0 h0; ⟨b, off, e, hbN, hB.belowB hb hbN⟩, h.bts⟩
theorem BS.here {N : Nat} {w : World} {sp : Option Addr} {n cap : Nat} {L : List Int} (h : BS N w sp n cap L) : BS w.heap.size w sp n cap L :=
  ⟨h.len, h.nil, h.le, h.big, h.small, fun h0 => let ⟨b, off, e, hbN, hB⟩ := h.at0 h0; ⟨b, off, e, block_lt_of_cell (hB 0 h0), hB⟩, h.bts⟩
theorem BS.sl {N : Nat} {w : World} {sp : Option Addr} {n cap : Nat} {L : List Int} (h : BS N w sp n cap L) : SlL w sp L := fun h0 => by
  have e := h.len.out
  obtain ⟨b, off, e1, -, hB⟩ := h.at0 (by omega)
  exact ⟨b, off, e1, by rw [← e]; exact hB⟩
theorem BS.nil0 (N : Nat) (w : World) : BS N w none 0 0 [] := ⟨rfl, fun _ => ⟨rfl, rfl⟩, Nat.le_refl _, by omega, by omega, fun h => absurd h (by omega), Bts.nil⟩
/-- .. where no block of it is turned. -/
theorem BS.grown {N : Nat} {w w' : World} {sp : Option Addr} {n cap g : Nat} {L : List Int} (h : BS N w sp n cap L) (hg : w.grownBy w' (some g)) (hne : ∀ b off, sp = some ⟨b, off, none⟩ → b ≠ g) : BS N w' sp n cap L :=
  ⟨h.len, h.nil, h.le, h.big, h.small, fun h0 => by
    obtain ⟨b, off, e, hbN, hB⟩ := h.at0 h0
    refine ⟨b, off, e, hbN, fun t ht => ?_⟩
    rw [World.cell?_of_block (w := w) (a := ⟨b, off + t, none⟩) (hg.block b (block_lt_of_cell (hB t ht)) (fun e' => hne b off e (Option.some.inj e')))]
    exact hB t ht, h.bts⟩
/-- What an own slice looks like. -/
theorem own_bs {w : World} {base n : Nat} {v : Value} {L : List Int} (h : w.ownsRow base 5 1 v n (by8 L)) (hL : Bts L) (hs : n ≤ 140737488355000) :
    ∃ sp cap, v = .slice sp n cap ∧ BS w.heap.size w sp n cap L ∧ (∀ g off, sp = some ⟨g, off, none⟩ → base ≤ g ∧ off = 0) := by
  obtain ⟨hl, h | ⟨g, cap, cur, rfl, hg, hh, hn, hm, hc, ht⟩⟩ := h
  · obtain ⟨rfl, rfl⟩ := h
    rw [by8_len] at hl
    refine ⟨none, 0, rfl, ⟨show _ = _ by omega, fun _ => ⟨rfl, rfl⟩, by omega, by omega, by omega, fun h0 => by omega, hL⟩, fun g off e => by cases e⟩
  · rw [by8_len, Nat.mul_one] at hl
    refine ⟨_, cap, rfl, ⟨show _ = _ by omega, (fun e => by cases e), hn, by unfold maxLen at hm; omega, hs, fun h0 => ⟨g, 0, rfl, (Array.getElem?_eq_some_iff.1 hh).1, fun t htl => ?_⟩, hL⟩, fun g' off e => by cases e; exact ⟨hg, rfl⟩⟩
    rw [Nat.zero_add, cell_of_row w g t cur 5 (0, 0) hh, ← Array.getElem?_toList, ← List.getElem?_take_of_lt (show t < n * 1 by omega), ht, by8_get (by omega)]
end Go.Proofs.YtneihkegipcakaaGreat
/- Layer trace: what the layers below give. -/
namespace Go.Proofs.YtneihkegipcakaaGreat
open Go.RowKit
set_option maxRecDepth 100000
set_option linter.unusedVariables false
set_option linter.unusedSimpArgs false

set_option maxRecDepth 100000 in
set_option maxHeartbeats 1000000 in
theorem kays_any (w : World) :
    Calls Tryz.prog 127 #[] w fun e w' => e = .returned (.agg kCells) ∧ Below w.heap.size w w' := by
  have s46 : (Tryz.prog.info? 205).map (·.size) = some kCells.size := by rw [kCells_size]; exact size46
  have o46 := one_ints kCells_size kCells_get
  go_enter Tryz.func127, Tryz.ntmps127
  go_wp2_with ((refine wpList_store_new w _ 205 (by rfl) 205 (.tmp 0) (.tmp 1) (by rfl) kCells (by rfl) (by rfl) s46 (Eq.trans (by rfl) kCells_size.symm) o46 ?_))
  exact bodyPost_ret (v := .agg kCells) (results_cell_row Tryz.results127 _ _ w.heap.size 205 _ (0, 0) _ rfl (Arr.new w 205 kCells) Tryz.underlying205 rfl s46) rfl ⟨rfl, (Below.refl _ _).alloc (Nat.le_refl _) _⟩
set_option maxRecDepth 100000 in
set_option maxHeartbeats 400000 in
theorem turn_any (x n : Int) (w : World) (h0 : 0 ≤ n) (h1 : n ≤ 31) :
    Calls Tryz.prog 128 #[.int .u32 x, .int .u64 n] w fun e w' => e = .returned (.int .u32 (rotr x n.toNat)) ∧ w' = w := by
  have e : (32 - n).toNat = 32 - n.toNat := by omega
  have E : Hid ((32 - n).toNat = 32 - n.toNat) := e
  clear e
  go_enter Tryz.func128, Tryz.ntmps128
  go_wp2
  go_ret
  refine ⟨?_, rfl⟩
  unfold rotr
  rw [← E.out]; rfl
theorem wrap32_nat (v : BitVec 32) : IntKind.u32.wrap (v.toNat : Int) = v.toNat := by
  have := v.isLt
  simp only [IntKind.wrap, IntKind.bits, IntKind.signed]; simp; omega
theorem of_nat32 (v : BitVec 32) : BitVec.ofInt 32 (v.toNat : Int) = v := by
  rw [BitVec.ofInt_natCast, BitVec.ofNat_toNat]; simp
theorem bits_and (x y : Int) : bits .and .u32 x y = ((BitVec.ofInt 32 x &&& BitVec.ofInt 32 y).toNat : Int) := wrap32_nat _
theorem bits_or (x y : Int) : bits .or .u32 x y = ((BitVec.ofInt 32 x ||| BitVec.ofInt 32 y).toNat : Int) := wrap32_nat _
theorem bits_xor (x y : Int) : bits .xor .u32 x y = ((BitVec.ofInt 32 x ^^^ BitVec.ofInt 32 y).toNat : Int) := wrap32_nat _
theorem cho_xor (x y z : Int) : bits .xor .u32 (bits .and .u32 x y) (bits .and .u32 (bits .xor .u32 IntKind.u32.max x) z) = cho x y z := by
  unfold cho
  simp only [bits_and, bits_or, bits_xor, of_nat32]
  have hm : BitVec.ofInt 32 IntKind.u32.max = BitVec.allOnes 32 := by decide
  rw [hm]
  congr 2
  ext i hi
  simp only [BitVec.getElem_xor, BitVec.getElem_and, BitVec.getElem_or, BitVec.getElem_allOnes]
  generalize (BitVec.ofInt 32 x)[i] = a
  generalize (BitVec.ofInt 32 y)[i] = b
  generalize (BitVec.ofInt 32 z)[i] = c
  cases a <;> cases b <;> cases c <;> rfl
theorem maj_xor (x y z : Int) : bits .xor .u32 (bits .xor .u32 (bits .and .u32 x y) (bits .and .u32 x z)) (bits .and .u32 y z) = maj x y z := by
  unfold maj
  simp only [bits_and, bits_or, bits_xor, of_nat32]
  congr 2
  ext i hi
  simp only [BitVec.getElem_xor, BitVec.getElem_and, BitVec.getElem_or]
  generalize (BitVec.ofInt 32 x)[i] = a
  generalize (BitVec.ofInt 32 y)[i] = b
  generalize (BitVec.ofInt 32 z)[i] = c
  cases a <;> cases b <;> cases c <;> rfl
end Go.Proofs.YtneihkegipcakaaGreat
