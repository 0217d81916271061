/- Ax, T5, T6, T7, Ir0, T8, T9. -/
import Derived.Test.YtoopgppahfnncaaDoorX02
import Derived.Deep.RegionHeld
import Derived.KernelRfl
import Derived.WalkKit
import Derived.Test.YtoopgppahfnncaaDoorX03
import Derived.Handy
import Derived.BigQuiet
import Derived.BigRegion
import Derived.LoopNIn
import Derived.LoopIn
import Derived.LoopTactic
import Derived.Laws.AppendOwn
import Derived.Laws.OwnMore
import Derived.Maps.AppendAt
import Derived.Laws.Tables
import Derived.Great.BuildSlice
import Derived.ChangeKeysEq
import Derived.ChangeOld
import Derived.Deep.DeepCutAuto
import Derived.Deep.DrawnRows
import Derived.Deep.MidRow
import Derived.Deep.OwnRows
import Derived.Deep.QuietTactic
import Derived.Deep.RegionHeld3
import Derived.Deep.RegionLaw
import Derived.Deep.RegionWith
import Derived.Deep.WholeRow
import Derived.DeepKeys3
import Derived.Great.FillDense
import Derived.Laws.AppendOwnNone
import Derived.Laws.BitsLemmas
import Derived.Laws.BytesArg
import Derived.Laws.CopyOwn
import Derived.Laws.ResultCell
import Derived.Lib.SlBytesConst
import Derived.OpenShut
import Derived.OwnWalkIn
import Derived.ProofKit
import Derived.RangeFuncBound
import Derived.RangeFuncCalls
import Derived.RangeFuncLeaves
import Derived.RangeFuncNested
import Derived.RangeFuncRecord
import Derived.Recover
import Derived.Shelf.Abstract
import Derived.Shelf.RegionOpen
import Derived.ShutString
import Derived.SizedLaws
import Derived.TacticsInMore
import Derived.WalkLawsBesides
import Derived.WalkSpells
import Derived.Test.YtoopgppahfnncaaDoorX01
import Derived.Lib.AppendIntMem
/- A drawn region, operation by operation. -/
namespace Go.Proofs.YtoopgppahfnncaaDoor
open Go.RowKit
set_option maxRecDepth 100000
set_option linter.unusedVariables false
set_option linter.unusedSimpArgs false

/-- An operation that only yields, taken ahead of the rest. -/
theorem tk {P : Program} {ops : Array Oper} {Q : Exit → Act → World → Prop} {md : Region.Mode} {S : World → Prop} (i : Nat) {dst : Option Tmp} {op : Op} {ty : TypeId} {pos : String} {af : Array Edge} {gd : Option (Nat × Bool)} {v : Value} {fuel : Nat} {listed : Array Bool} {a a' : Act} {w : World} (hi : ops[i]? = some ⟨dst, op, ty, pos, af, gd⟩)
    (h : wpAnyH P md ops Q S fuel (listed.setIfInBounds i true) a' w)
    (hs : Region.noSelect ops = true := by kernel_rfl) (hf : Region.free md ops listed i = true := by kernel_rfl) (hr : (Region.ready md ops listed).contains i = true := by kernel_rfl)
    (hw : Region.wanted ⟨dst, op, ty, pos, af, gd⟩ (yielded ops a.tmps) = true := by rfl)
    (hy : ∀ u, S u → (execOp a.eval ⟨dst, op, ty, pos, af, gd⟩).run P u = .ok (.value v) u := by (intro u hSw; go_simp; try (with_reducible rfl)))
    (hQ : ∀ c a w, Q (.panic c) (a.put dst v) w → Q (.panic c) a w := by exact fun _ _ _ h => h)
    (ha : a.put dst v = a' := by (conv => (lhs; try simp only [Act.put, List.setIfInBounds_toArray, List.set_cons_zero, List.set_cons_succ])); (try rfl)) (hS : S w := by assumption) : wpAnyH P md ops Q S (fuel + 1) listed a w :=
  wpAnyH_take hi hs hf hr hQ (Or.inl ⟨hw, hy⟩) hS (by rw [ha]; exact h)
theorem tks {P : Program} {ops : Array Oper} {Q : Exit → Act → World → Prop} {md : Region.Mode} {S : World → Prop} (i : Nat) {dst : Option Tmp} {op : Op} {ty : TypeId} {pos : String} {af : Array Edge} {gd : Option (Nat × Bool)} {v : Value} {fuel : Nat} {listed : Array Bool} {a a' : Act} {w : World} (hi : ops[i]? = some ⟨dst, op, ty, pos, af, gd⟩)
    (h : wpAnyH P md ops Q S fuel (listed.setIfInBounds i true) a' w)
    (hs : Region.noSelect ops = true := by kernel_rfl) (hf : Region.free md ops listed i = true := by kernel_rfl) (hr : (Region.ready md ops listed).contains i = true := by kernel_rfl)
    (hw : Region.wanted ⟨dst, op, ty, pos, af, gd⟩ (yielded ops a.tmps) = true := by rfl)
    (hy : ∀ u, S u → (execOp a.eval ⟨dst, op, ty, pos, af, gd⟩).run P u = .ok (.value v) u := by (intro u hSw; subst hSw; go_simp; try (with_reducible rfl)))
    (hQ : ∀ c a w, Q (.panic c) (a.put dst v) w → Q (.panic c) a w := by exact fun _ _ _ h => h)
    (ha : a.put dst v = a' := by (conv => (lhs; try simp only [Act.put, List.setIfInBounds_toArray, List.set_cons_zero, List.set_cons_succ])); (try rfl)) (hS : S w := by assumption) : wpAnyH P md ops Q S (fuel + 1) listed a w :=
  wpAnyH_take hi hs hf hr hQ (Or.inl ⟨hw, hy⟩) hS (by rw [ha]; exact h)
theorem tk2 {P : Program} {ops : Array Oper} {Q : Exit → Act → World → Prop} {md : Region.Mode} {S : World → Prop} (i : Nat) {dst : Option Tmp} {op : Op} {ty : TypeId} {pos : String} {af : Array Edge} {gd : Option (Nat × Bool)} {v : Value} {fuel : Nat} {listed : Array Bool} {a a' : Act} {w : World} (hi : ops[i]? = some ⟨dst, op, ty, pos, af, gd⟩)
    (h : wpAnyH P md ops Q S fuel (listed.setIfInBounds i true) a' w)
    (hs : Region.noSelect ops = true := by kernel_rfl) (hf : Region.free md ops listed i = true := by kernel_rfl) (hr : (Region.ready md ops listed).contains i = true := by kernel_rfl)
    (hw : Region.wanted ⟨dst, op, ty, pos, af, gd⟩ (yielded ops a.tmps) = true := by rfl)
    (hy : ∀ u, S u → (execOp a.eval ⟨dst, op, ty, pos, af, gd⟩).run P u = .ok (.value v) u := by (intro u hSw; obtain ⟨s1, s2⟩ := hSw; go_simp; try (with_reducible rfl)))
    (hQ : ∀ c a w, Q (.panic c) (a.put dst v) w → Q (.panic c) a w := by exact fun _ _ _ h => h)
    (ha : a.put dst v = a' := by (conv => (lhs; try simp only [Act.put, List.setIfInBounds_toArray, List.set_cons_zero, List.set_cons_succ])); (try rfl)) (hS : S w := by assumption) : wpAnyH P md ops Q S (fuel + 1) listed a w :=
  wpAnyH_take hi hs hf hr hQ (Or.inl ⟨hw, hy⟩) hS (by rw [ha]; exact h)
theorem tk3 {P : Program} {ops : Array Oper} {Q : Exit → Act → World → Prop} {md : Region.Mode} {S : World → Prop} (i : Nat) {dst : Option Tmp} {op : Op} {ty : TypeId} {pos : String} {af : Array Edge} {gd : Option (Nat × Bool)} {v : Value} {fuel : Nat} {listed : Array Bool} {a a' : Act} {w : World} (hi : ops[i]? = some ⟨dst, op, ty, pos, af, gd⟩)
    (h : wpAnyH P md ops Q S fuel (listed.setIfInBounds i true) a' w)
    (hs : Region.noSelect ops = true := by kernel_rfl) (hf : Region.free md ops listed i = true := by kernel_rfl) (hr : (Region.ready md ops listed).contains i = true := by kernel_rfl)
    (hw : Region.wanted ⟨dst, op, ty, pos, af, gd⟩ (yielded ops a.tmps) = true := by rfl)
    (hy : ∀ u, S u → (execOp a.eval ⟨dst, op, ty, pos, af, gd⟩).run P u = .ok (.value v) u := by (intro u hSw; obtain ⟨s1, s2, s3⟩ := hSw; go_simp; try (with_reducible rfl)))
    (hQ : ∀ c a w, Q (.panic c) (a.put dst v) w → Q (.panic c) a w := by exact fun _ _ _ h => h)
    (ha : a.put dst v = a' := by (conv => (lhs; try simp only [Act.put, List.setIfInBounds_toArray, List.set_cons_zero, List.set_cons_succ])); (try rfl)) (hS : S w := by assumption) : wpAnyH P md ops Q S (fuel + 1) listed a w :=
  wpAnyH_take hi hs hf hr hQ (Or.inl ⟨hw, hy⟩) hS (by rw [ha]; exact h)
theorem dn {P : Program} {ops : Array Oper} {Q : Exit → Act → World → Prop} {md : Region.Mode} {S : World → Prop} {listed : Array Bool} {a : Act} {w : World} {fuel : Nat} (h : Q .normal a w) (hr : Region.ready md ops listed = [] := by kernel_rfl) : wpAnyH P md ops Q S fuel listed a w := wpAnyH_done hr h fuel
theorem rgn {P : Program} {ops : Array Oper} {Q : Exit → Act → World → Prop} (S : World → Prop) {id : Nat} {a : Act} {w : World} (hS : S w.drew) (h : S w.drew → wpAnyH P .any ops Q S ops.size (Array.replicate ops.size false) a w.drew) (hm : P.follows .mixedOrders = true := by kernel_rfl) : (Code.region id ops true).wp P Q a w := wp_region_held_drew hm hS h
/-- .. whose value is told by a law. -/
theorem tl {P : Program} {ops : Array Oper} {Q : Exit → Act → World → Prop} {md : Region.Mode} {S : World → Prop} (i : Nat) {dst : Option Tmp} {op : Op} {ty : TypeId} {pos : String} {af : Array Edge} {gd : Option (Nat × Bool)} {v : Value} {fuel : Nat} {listed : Array Bool} {a a' : Act} {w : World} (hi : ops[i]? = some ⟨dst, op, ty, pos, af, gd⟩)
    (hy : YieldsIf P ops S ⟨dst, op, ty, pos, af, gd⟩ v a) (h : wpAnyH P md ops Q S fuel (listed.setIfInBounds i true) a' w)
    (hs : Region.noSelect ops = true := by kernel_rfl) (hf : Region.free md ops listed i = true := by kernel_rfl) (hr : (Region.ready md ops listed).contains i = true := by kernel_rfl)
    (hQ : ∀ c a w, Q (.panic c) (a.put dst v) w → Q (.panic c) a w := by exact fun _ _ _ h => h)
    (ha : a.put dst v = a' := by (conv => (lhs; try simp only [Act.put, List.setIfInBounds_toArray, List.set_cons_zero, List.set_cons_succ])); (try rfl)) (hS : S w := by assumption) : wpAnyH P md ops Q S (fuel + 1) listed a w :=
  wpAnyH_take hi hs hf hr hQ hy hS (by rw [ha]; exact h)
/-- The one operation that may come up. -/
theorem rd {P : Program} {ops : Array Oper} {Q : Exit → Act → World → Prop} {md : Region.Mode} {S : World → Prop} (i : Nat) {dst : Option Tmp} {op : Op} {ty : TypeId} {pos : String} {af : Array Edge} {gd : Option (Nat × Bool)} {fuel : Nat} {listed : Array Bool} {a : Act} {w : World} (hi : ops[i]? = some ⟨dst, op, ty, pos, af, gd⟩) (h : (∀ K' : Act → World → Prop, Shut (∀ a w, S w → (S w → wpAnyH P md ops Q S fuel (listed.setIfInBounds i true) a w) → K' a w) → if Region.wanted ⟨dst, op, ty, pos, af, gd⟩ (yielded ops a.tmps) = true then Oper.wp P ⟨dst, op, ty, pos, af, gd⟩ a w K' Q else K' (a.put dst undef) w))
    (hr : Region.ready md ops listed = [i] := by kernel_rfl) : wpAnyH P md ops Q S (fuel + 1) listed a w :=
  wpAnyH_ready hr (by simp) (AllReadyH.cons hi h AllReadyH.nil)
/-- .. of two. -/
theorem rd2 {P : Program} {ops : Array Oper} {Q : Exit → Act → World → Prop} {md : Region.Mode} {S : World → Prop} (i j : Nat) {dst : Option Tmp} {op : Op} {ty : TypeId} {pos : String} {af : Array Edge} {gd : Option (Nat × Bool)} {dst2 : Option Tmp} {op2 : Op} {ty2 : TypeId} {pos2 : String} {af2 : Array Edge} {gd2 : Option (Nat × Bool)} {fuel : Nat} {listed : Array Bool} {a : Act} {w : World} (hi : ops[i]? = some ⟨dst, op, ty, pos, af, gd⟩) (hj : ops[j]? = some ⟨dst2, op2, ty2, pos2, af2, gd2⟩) (h : (∀ K' : Act → World → Prop, Shut (∀ a w, S w → (S w → wpAnyH P md ops Q S fuel (listed.setIfInBounds i true) a w) → K' a w) → if Region.wanted ⟨dst, op, ty, pos, af, gd⟩ (yielded ops a.tmps) = true then Oper.wp P ⟨dst, op, ty, pos, af, gd⟩ a w K' Q else K' (a.put dst undef) w)) (h2 : (∀ K' : Act → World → Prop, Shut (∀ a w, S w → (S w → wpAnyH P md ops Q S fuel (listed.setIfInBounds j true) a w) → K' a w) → if Region.wanted ⟨dst2, op2, ty2, pos2, af2, gd2⟩ (yielded ops a.tmps) = true then Oper.wp P ⟨dst2, op2, ty2, pos2, af2, gd2⟩ a w K' Q else K' (a.put dst2 undef) w))
    (hr : Region.ready md ops listed = [i, j] := by kernel_rfl) : wpAnyH P md ops Q S (fuel + 1) listed a w :=
  wpAnyH_ready hr (by simp) (AllReadyH.cons hi h (AllReadyH.cons hj h2 AllReadyH.nil))
/-- Back into the region. -/
theorem ko {P : Program} {ops : Array Oper} {Q : Exit → Act → World → Prop} {md : Region.Mode} {S : World → Prop} {K : Act → World → Prop} {fuel : Nat} {listed : Array Bool} {a a' : Act} {w : World} (hK : Shut (∀ a w, S w → (S w → wpAnyH P md ops Q S fuel listed a w) → K a w)) (hS : S w) (h : S w → wpAnyH P md ops Q S fuel listed a' w)
    (ha : a = a' := by (conv => (lhs; try simp only [Act.put, List.setIfInBounds_toArray, List.set_cons_zero, List.set_cons_succ])); (try rfl)) : K a w := by
  subst ha
  exact hK.out _ _ hS h
end Go.Proofs.YtoopgppahfnncaaDoor
/- Layer ir: the document's text of an expression. -/
namespace Go.Proofs.YtoopgppahfnncaaDoor
open Go.Shelf Go.RowKit Go.Sort
set_option maxRecDepth 100000
set_option linter.unusedVariables false
set_option linter.unusedSimpArgs false

theorem tk12 {P : Program} {ops : Array Oper} {Q : Exit → Act → World → Prop} {md : Region.Mode} {S : World → Prop} (i : Nat) {dst : Option Tmp} {op : Op} {ty : TypeId} {pos : String} {af : Array Edge} {gd : Option (Nat × Bool)} {v : Value} {fuel : Nat} {listed : Array Bool} {a a' : Act} {w : World} (hi : ops[i]? = some ⟨dst, op, ty, pos, af, gd⟩)
    (h : wpAnyH P md ops Q S fuel (listed.setIfInBounds i true) a' w)
    (hs : Region.noSelect ops = true := by kernel_rfl) (hf : Region.free md ops listed i = true := by kernel_rfl) (hr : (Region.ready md ops listed).contains i = true := by kernel_rfl)
    (hw : Region.wanted ⟨dst, op, ty, pos, af, gd⟩ (yielded ops a.tmps) = true := by rfl)
    (hy : ∀ u, S u → (execOp a.eval ⟨dst, op, ty, pos, af, gd⟩).run P u = .ok (.value v) u := by (intro u hSw; obtain ⟨s0, s1, s2, s3, s4, s5, s6, s7, s8, s9, s10, s11⟩ := hSw; go_simp; try (with_reducible rfl)))
    (hQ : ∀ c a w, Q (.panic c) (a.put dst v) w → Q (.panic c) a w := by exact fun _ _ _ h => h)
    (ha : a.put dst v = a' := by (conv => (lhs; try simp only [Act.put, List.setIfInBounds_toArray, List.set_cons_zero, List.set_cons_succ])); (try rfl)) (hS : S w := by assumption) : wpAnyH P md ops Q S (fuel + 1) listed a w :=
  wpAnyH_take hi hs hf hr hQ (Or.inl ⟨hw, hy⟩) hS (by rw [ha]; exact h)

theorem addlen (a b : List UInt8) : (tx a).size + (tx b).size = (tx (a ++ b)).size := by rw [tx_size, tx_size, tx_size, List.length_append]
/-- A call that makes an expression's text. -/
def DTx (F : Nat) (N : Nat) (vs : Int) (d : Nat) : Prop := ∀ (w : World) (cs : List Value) (t : ExT d), N ≤ w.heap.size → Tb w → ExM N w d cs t → okT vs d t → Calls Tryd.prog F #[.agg cs.toArray] w (TxP (xT d t) w)
set_option maxHeartbeats 4000000 in
theorem dtx_s {N d : Nat} {vs : Int} (hd : d ≤ 8) (hE : DTx 46 N vs d) : DTx 46 N vs (d + 1) := by
  intro w cs t hN hT hM hok0
  obtain ⟨hm, hk, hl⟩ := hok0
  obtain ⟨sp, m, cap, rfl, hok, hS⟩ := hM
  have hlen := hS.len
  have b0 := ab w (.cells (exC t.nd.k t.nd.n t.nd.v t.nd.o (.slice sp m cap)).toArray 80)
  have htU := hT.bl b0
  obtain ⟨r, hr⟩ : ∃ r, r = xT (d + 1) t := ⟨_, rfl⟩
  replace hr : r = xTn (xT d) t.nd := hr
  have hres : xT (d + 1) t = r := by rw [hr]; rfl
  rw [hres]
  clear hres
  obtain ⟨⟨k, nn, v, o, l⟩, ht⟩ : ∃ q : ExN (ExT d), q = t.nd := ⟨_, rfl⟩
  rw [← ht] at hr b0 hS hlen htU hm hok hl ⊢
  clear ht hk
  replace hlen : Hid (m = l.length) := hlen
  replace hS : RS N w 5 (ExM N w d) sp m cap l := hS
  have hv64 : I64 v := hok.v
  have hn64 : U64 nn := hok.n
  clear hok
  replace hm : mayE vs ⟨k, nn, v, o, l⟩ = true := hm
  have A := Arr.new w 80 (exC k nn v o (.slice sp m cap)).toArray
  unfold exC at *
  replace b0 : Below w.heap.size w (w.alloc (.cells #[.int .u8 k, .int .u64 nn, .int .i64 v, .int .u8 o, .slice sp m cap] 80)) := b0
  replace htU : Tb (w.alloc (.cells #[.int .u8 k, .int .u64 nn, .int .i64 v, .int .u8 o, .slice sp m cap] 80)) := htU
  replace A : Arr (w.alloc (.cells #[.int .u8 k, .int .u64 nn, .int .i64 v, .int .u8 o, .slice sp m cap] 80)) w.heap.size 80 #[.int .u8 k, .int .u64 nn, .int .i64 v, .int .u8 o, .slice sp m cap] := A
  replace hr : r = xTn (xT d) ⟨k, nn, v, o, l⟩ := hr
  have a0 := A.cell 0
  have a1 := A.cell 1
  have a2 := A.cell 2
  have a3 := A.cell 3
  have a4 := A.cell 4
  unfold mayE at hm
  unfold xTn at hr
  simp only at hm hr
  by_cases h1 : k = 1
  · rw [if_pos h1] at hr
    subst h1
    have hx := utoa_any nn _ hn64 htU
    rw [← hr] at hx
    clear hr hm hS hl hE
    unfold TxP at hx ⊢
    generalize tx r = s at *
    go_enter Tryd.func46, Tryd.ntmps46
    go_wp2_with (go_at_call 60; go_must (refine hx.mono ?_; rintro e w1 ⟨rfl, hb1⟩))
    go_ret
    exact ⟨rfl, b0.trans (hb1.mono b0.size)⟩
  rw [if_neg h1] at hr hm
  by_cases h2 : k = 2
  · rw [if_pos h2] at hr
    subst h2
    have hx := itoa_any v _ hv64 htU
    have hle := itoa_len v hv64
    rw [← tx_size] at hle
    have he : tx r = ⟨#[118]⟩ ++ tx (Lib.itoa v) := by rw [hr]; exact (tx_app [118] _).symm
    unfold TxP at hx ⊢
    rw [he]
    clear he hr hm hS hl hE
    generalize tx (Lib.itoa v) = s at *
    have hs : ¬ 9223372036854775807 < 1 + s.size := by omega
    clear hle
    go_enter Tryd.func46, Tryd.ntmps46
    go_wp2_with (go_at_call 20; go_must (refine hx.mono ?_; rintro e w1 ⟨rfl, hb1⟩))
    go_ret
    exact ⟨rfl, b0.trans (hb1.mono b0.size)⟩
  rw [if_neg h2] at hr hm
  have hb9 : 64 * 2 ^ d ≤ 64 * 2 ^ 8 := Nat.mul_le_mul_left _ (Nat.pow_le_pow_right (by omega) hd)
  by_cases h3 : k = 3
  · rw [if_pos h3] at hr hm
    simp only [decide_eq_true_eq] at hm
    obtain ⟨ho5, ho16, hl2, -, -⟩ := hm
    match l, hl2, hlen, hS, hr, hl with
    | [x, y], hl2, hlen, hS, hr, hl =>
      have hm2 : m = 2 := hlen.out
      subst hm2
      obtain ⟨g, off, rfl, hg, hR⟩ := hS.at0 (by omega)
      obtain ⟨cs1, hrg1, hM1⟩ := hR 0 x rfl
      have hrg1 := rb hrg1 b0 (by omega)
      have hM1 := ExM.below (b0.mono hN) d cs1 x hM1
      obtain ⟨ek, en, ev, eo, es, em, ec, rfl⟩ := hM1.cells
      have c0 := hrg1 0 _ rfl
      have c1 := hrg1 1 _ rfl
      have c2 := hrg1 2 _ rfl
      have c3 := hrg1 3 _ rfl
      have c4 := hrg1 4 _ rfl
      simp only [Nat.zero_mul, Nat.add_zero] at c0 c1 c2 c3 c4
      obtain ⟨cs2, hrg2, hM2⟩ := hR 1 y rfl
      have hrg2 := rb hrg2 b0 (by omega)
      have hM2 := ExM.below (b0.mono hN) d cs2 y hM2
      obtain ⟨fk, fn, fv, fo, fs, fm, fc, rfl⟩ := hM2.cells
      have e0 := hrg2 0 _ rfl
      have e1 := hrg2 1 _ rfl
      have e2 := hrg2 2 _ rfl
      have e3 := hrg2 3 _ rfl
      have e4 := hrg2 4 _ rfl
      simp only [Nat.one_mul, Nat.add_zero] at e0 e1 e2 e3 e4
      have hA := fun u (hb : Below (w.alloc (.cells #[.int .u8 k, .int .u64 nn, .int .i64 v, .int .u8 o, .slice (some ⟨g, off, none⟩) 2 cap] 80)).heap.size (w.alloc (.cells #[.int .u8 k, .int .u64 nn, .int .i64 v, .int .u8 o, .slice (some ⟨g, off, none⟩) 2 cap] 80)) u) => hE u _ x (by have := b0.size; have := hb.size; omega) (htU.bl hb) (ExM.below (hb.mono (by have := b0.size; omega)) d _ x hM1) (hl x (by simp))
      have hO := sign61_any o
      have lA := xT_len vs d x (hl x (by simp))
      have lB := xT_len vs d y (hl y (by simp))
      have lO := sgn_len o
      have hBy := fun u (hb : Below (w.alloc (.cells #[.int .u8 k, .int .u64 nn, .int .i64 v, .int .u8 o, .slice (some ⟨g, off, none⟩) 2 cap] 80)).heap.size (w.alloc (.cells #[.int .u8 k, .int .u64 nn, .int .i64 v, .int .u8 o, .slice (some ⟨g, off, none⟩) 2 cap] 80)) u) => hE u _ y (by have := b0.size; have := hb.size; omega) (htU.bl hb) (ExM.below (hb.mono (by have := b0.size; omega)) d _ y hM2) (hl y (by simp))
      have he : tx r = ⟨#[40, 32]⟩ ++ tx (xT d x) ++ ⟨#[32]⟩ ++ tx (sgn o) ++ ⟨#[32]⟩ ++ tx (xT d y) ++ ⟨#[32, 41]⟩ := by
        rw [hr]
        simp only [← tx_app]
        rfl
      rw [← tx_size] at lA lB lO
      unfold TxP at hA hO hBy ⊢
      rw [he]
      clear he hr hl hS hR hrg1 hrg2 hM1 hM2 hE
      generalize tx (xT d x) = sA at *
      generalize tx (xT d y) = sB at *
      generalize tx (sgn o) = sO at *
      have q1 : ¬ 9223372036854775807 < 2 + sA.size := by omega
      have q2 : ¬ 9223372036854775807 < 2 + sA.size + 1 := by omega
      have q3 : ¬ 9223372036854775807 < 2 + sA.size + 1 + sO.size := by omega
      have q4 : ¬ 9223372036854775807 < 2 + sA.size + 1 + sO.size + 1 := by omega
      have q5 : ¬ 9223372036854775807 < 2 + sA.size + 1 + sO.size + 1 + sB.size := by omega
      have q6 : ¬ 9223372036854775807 < 2 + sA.size + 1 + sO.size + 1 + sB.size + 2 := by omega
      clear lA lB lO hb9 hlen hl2
      subst h3
      go_enter Tryd.func46, Tryd.ntmps46
      go_upto_region 7 with fail
      generalize hU : w.alloc (.cells #[.int .u8 3, .int .u64 nn, .int .i64 v, .int .u8 o, .slice (some ⟨g, off, none⟩) 2 cap] 80) = U at *
      have hgU : g < U.heap.size := block_lt_of_cell c0
      have hwU : w.heap.size < U.heap.size := A.lt
      have hS0 : ∀ u, Below U.heap.size U u → u.cell? ⟨w.heap.size, 3, none⟩ = some (.int .u8 o) ∧ u.cell? ⟨w.heap.size, 4, none⟩ = some (.slice (some ⟨g, off, none⟩) 2 cap) ∧ u.cell? ⟨g, off, none⟩ = some (.int .u8 ek) ∧ u.cell? ⟨g, off + 1, none⟩ = some (.int .u64 en) ∧ u.cell? ⟨g, off + 2, none⟩ = some (.int .i64 ev) ∧ u.cell? ⟨g, off + 3, none⟩ = some (.int .u8 eo) ∧ u.cell? ⟨g, off + 4, none⟩ = some (.slice es em ec) ∧ u.cell? ⟨g, off + 5, none⟩ = some (.int .u8 fk) ∧ u.cell? ⟨g, off + 5 + 1, none⟩ = some (.int .u64 fn) ∧ u.cell? ⟨g, off + 5 + 2, none⟩ = some (.int .i64 fv) ∧ u.cell? ⟨g, off + 5 + 3, none⟩ = some (.int .u8 fo) ∧ u.cell? ⟨g, off + 5 + 4, none⟩ = some (.slice fs fm fc) := fun u hb => ⟨(hb.cell hwU).trans a3, (hb.cell hwU).trans a4, (hb.cell hgU).trans c0, (hb.cell hgU).trans c1, (hb.cell hgU).trans c2, (hb.cell hgU).trans c3, (hb.cell hgU).trans c4, (hb.cell hgU).trans e0, (hb.cell hgU).trans e1, (hb.cell hgU).trans e2, (hb.cell hgU).trans e3, (hb.cell hgU).trans e4⟩
      have hD0 : Below U.heap.size U U.drew := (Below.refl _ _).drew
      refine rgn (fun u => u.cell? ⟨w.heap.size, 3, none⟩ = some (.int .u8 o) ∧ u.cell? ⟨w.heap.size, 4, none⟩ = some (.slice (some ⟨g, off, none⟩) 2 cap) ∧ u.cell? ⟨g, off, none⟩ = some (.int .u8 ek) ∧ u.cell? ⟨g, off + 1, none⟩ = some (.int .u64 en) ∧ u.cell? ⟨g, off + 2, none⟩ = some (.int .i64 ev) ∧ u.cell? ⟨g, off + 3, none⟩ = some (.int .u8 eo) ∧ u.cell? ⟨g, off + 4, none⟩ = some (.slice es em ec) ∧ u.cell? ⟨g, off + 5, none⟩ = some (.int .u8 fk) ∧ u.cell? ⟨g, off + 5 + 1, none⟩ = some (.int .u64 fn) ∧ u.cell? ⟨g, off + 5 + 2, none⟩ = some (.int .i64 fv) ∧ u.cell? ⟨g, off + 5 + 3, none⟩ = some (.int .u8 fo) ∧ u.cell? ⟨g, off + 5 + 4, none⟩ = some (.slice fs fm fc)) (hS0 _ hD0) (fun hSw => ?_)
      refine tk12 0 rfl ?_
      refine tk12 1 rfl ?_
      refine tk12 2 rfl ?_
      refine tk12 3 rfl ?_
      refine tk12 7 rfl ?_
      refine tk12 8 rfl ?_
      refine tk12 12 rfl ?_
      refine tk12 13 rfl ?_
      refine tk12 14 rfl ?_
      refine tk12 15 rfl ?_
      refine rd 4 rfl (fun K hK => ?_)
      go_simp
      refine (hA _ hD0).mono ?_
      rintro e w1 ⟨rfl, hbw1⟩
      have hBw1 := hD0.trans (hbw1.mono hD0.size)
      go_wp2_with fail
      refine hK.out _ _ (hS0 _ hBw1) (fun hHeld => ?_)
      clear hK K
      try simp only [Act.put, List.setIfInBounds_toArray, List.set_cons_zero, List.set_cons_succ]
      refine tk12 5 rfl ?_
      refine tk12 6 rfl ?_
      refine rd 9 rfl (fun K hK => ?_)
      go_simp
      refine (hO w1 ⟨ho5, ho16⟩).mono ?_
      rintro e w2 ⟨rfl, hbw2⟩
      have hBw2 := hBw1.trans (hbw2.mono hBw1.size)
      go_wp2_with fail
      refine hK.out _ _ (hS0 _ hBw2) (fun hHeld => ?_)
      clear hK K
      try simp only [Act.put, List.setIfInBounds_toArray, List.set_cons_zero, List.set_cons_succ]
      refine tk12 10 rfl ?_
      refine tk12 11 rfl ?_
      refine rd 16 rfl (fun K hK => ?_)
      go_simp
      refine (hBy _ hBw2).mono ?_
      rintro e w3 ⟨rfl, hbw3⟩
      have hBw3 := hBw2.trans (hbw3.mono hBw2.size)
      go_wp2_with fail
      refine hK.out _ _ (hS0 _ hBw3) (fun hHeld => ?_)
      clear hK K
      try simp only [Act.put, List.setIfInBounds_toArray, List.set_cons_zero, List.set_cons_succ]
      refine tk12 17 rfl ?_
      refine tk12 18 rfl ?_
      refine tk12 19 rfl ?_
      refine dn ?_
      go_wp2_with fail
      go_ret
      exact ⟨rfl, b0.trans (hBw3.mono b0.size)⟩
  rw [if_neg h3] at hr hm
  by_cases h4 : k = 4
  · rw [if_pos h4] at hm
    simp only [decide_eq_true_eq] at hm
    obtain ⟨hl1, -, -, -⟩ := hm
    match l, hl1, hlen, hS, hr, hl with
    | [x], hl1, hlen, hS, hr, hl =>
      have hm1 : m = 1 := hlen.out
      subst hm1
      obtain ⟨g, off, rfl, hg, hR⟩ := hS.at0 (by omega)
      obtain ⟨cs1, hrg1, hM1⟩ := hR 0 x rfl
      have hrg1 := rb hrg1 b0 (by omega)
      have hM1 := ExM.below (b0.mono hN) d cs1 x hM1
      obtain ⟨ek, en, ev, eo, es, em, ec, rfl⟩ := hM1.cells
      have c0 := hrg1 0 _ rfl
      have c1 := hrg1 1 _ rfl
      have c2 := hrg1 2 _ rfl
      have c3 := hrg1 3 _ rfl
      have c4 := hrg1 4 _ rfl
      simp only [Nat.zero_mul, Nat.add_zero] at c0 c1 c2 c3 c4
      have hA := fun u (hb : Below (w.alloc (.cells #[.int .u8 k, .int .u64 nn, .int .i64 v, .int .u8 o, .slice (some ⟨g, off, none⟩) 1 cap] 80)).heap.size (w.alloc (.cells #[.int .u8 k, .int .u64 nn, .int .i64 v, .int .u8 o, .slice (some ⟨g, off, none⟩) 1 cap] 80)) u) => hE u _ x (by have := b0.size; have := hb.size; omega) (htU.bl hb) (ExM.below (hb.mono (by have := b0.size; omega)) d _ x hM1) (hl x (by simp))
      have hx := hA _ (Below.refl _ _)
      have lA := xT_len vs d x (hl x (by simp))
      have he : tx r = ⟨#[91, 32]⟩ ++ tx (xT d x) ++ ⟨#[32, 93]⟩ := by
        rw [hr]
        simp only [← tx_app]
        rfl
      rw [← tx_size] at lA
      unfold TxP at hx ⊢
      rw [he]
      clear he hr hl hS hR hrg1 hM1 hE hA
      generalize tx (xT d x) = sA at *
      have q1 : ¬ 9223372036854775807 < 2 + sA.size := by omega
      have q2 : ¬ 9223372036854775807 < 2 + sA.size + 2 := by omega
      clear lA hb9 hlen hl1
      subst h4
      unfold exC at *
      go_enter Tryd.func46, Tryd.ntmps46
      go_wp2_with (go_at_call 46; go_must (refine hx.mono ?_; rintro e w1 ⟨rfl, hb1⟩))
      go_ret
      exact ⟨rfl, b0.trans (hb1.mono b0.size)⟩
  · rw [if_neg h4] at hm
    cases hm
theorem dtx_any (N : Nat) (vs : Int) : ∀ d : Nat, d ≤ 9 → DTx 46 N vs d
  | 0, _ => fun _ _ _ _ _ _ h => by cases h
  | d + 1, h => dtx_s (by omega) (dtx_any N vs d (by omega))
end Go.Proofs.YtoopgppahfnncaaDoor
/- Layer ir: the document's row of texts. -/
namespace Go.Proofs.YtoopgppahfnncaaDoor
open Go.Shelf Go.RowKit Go.Sort
set_option maxRecDepth 100000
set_option linter.unusedVariables false
set_option linter.unusedSimpArgs false


/-- Texts with something between. -/
def jr {α : Type} (X : α → List UInt8) (sep : List UInt8) : List α → Nat → List UInt8 → List UInt8
  | [], _, s => s
  | a :: r, j, s => jr X sep r (j + 1) ((if j = 0 then s else s ++ sep) ++ X a)
theorem jr_drop {α : Type} {X : α → List UInt8} {sep : List UInt8} {l : List α} {j : Nat} {a : α} (h : l[j]? = some a) (s : List UInt8) : jr X sep (l.drop j) j s = jr X sep (l.drop (j + 1)) (j + 1) ((if j = 0 then s else s ++ sep) ++ X a) := by
  obtain ⟨hj, rfl⟩ := List.getElem?_eq_some_iff.1 h
  rw [List.drop_eq_getElem_cons hj, jr]
set_option maxHeartbeats 2000000 in
theorem row_any {N d : Nat} {vs : Int} {sp : Option Addr} {n cap : Nat} {l : List (ExT d)} (sep : List UInt8) (hd : d ≤ 8) (hsep : sep.length ≤ 2) (w : World) (hS : RS N w 5 (ExM N w d) sp n cap l) (hok : ∀ a ∈ l, okT vs d a) (hN : N ≤ w.heap.size) (hT : Tb w) :
    Calls Tryd.prog 47 #[.slice sp n cap, .string (tx sep)] w (TxP (jr (xT d) sep l 0 []) w) := by
  have hlen := hS.len
  have hsm := hS.small
  obtain ⟨r, hr⟩ : ∃ r, r = jr (xT d) sep l 0 [] := ⟨_, rfl⟩
  rw [← hr]
  replace hr := hid hr
  unfold TxP
  have hsz : (tx sep).size ≤ 2 := by rw [tx_size]; exact hsep
  obtain ⟨sB, hsB⟩ : ∃ sB, sB = tx sep := ⟨_, rfl⟩
  rw [← hsB] at hsz ⊢
  replace hsB := hid hsB
  have hK : 64 * 2 ^ d ≤ 16384 := by have : 2 ^ d ≤ 2 ^ 8 := Nat.pow_le_pow_right (by omega) hd; omega
  go_enter Tryd.func47, Tryd.ntmps47
  go_upto_region 3 with fail
  go_loopw [5, 6] (fun s i wr => ∃ (j : Nat) (c : List UInt8), s = .string (tx c) ∧ i = .int .i64 (j : Int) ∧ j ≤ n ∧ c.length ≤ 20000 * j ∧ Hid (r = jr (xT d) sep (l.drop j) j c) ∧ Below w.heap.size w wr)
    (fun _ i _ => n - (intOf i).toNat)
  case atStart => exact ⟨0, [], rfl, rfl, by omega, by simp, hid (by rw [List.drop_zero]; exact hr.out), Below.refl _ _⟩
  case round =>
    obtain ⟨j, c, rfl, rfl, hj, hc, hf, hb⟩ := hrel
    by_cases hlt : j < n
    · obtain ⟨t, ht⟩ : ∃ t, l[j]? = some t := ⟨l[j]'(by rw [← hlen.out]; exact hlt), List.getElem?_eq_getElem _⟩
      obtain ⟨g, off, rfl, hg, hR⟩ := hS.at0 (by omega)
      obtain ⟨cs, hrg, hM⟩ := hR j t ht
      have hrg2 := rb hrg hb (by omega)
      have hM2 := ExM.below (hb.mono hN) d cs t hM
      have hokt := hok t (List.mem_of_getElem? ht)
      have hle := xT_len vs d t hokt
      obtain ⟨ek, en, ev, eo, es, em, ec, rfl⟩ := hM.cells
      have c0 := hrg2 0 _ rfl
      have c1 := hrg2 1 _ rfl
      have c2 := hrg2 2 _ rfl
      have c3 := hrg2 3 _ rfl
      have c4 := hrg2 4 _ rfl
      simp only [Nat.add_zero] at c0
      have hlt' : (j : Int) < n := by omega
      have h0 : (0 : Int) ≤ j := by omega
      have hx := dtx_any N vs d (by omega) wr _ t (by have := hb.size; omega) (hT.bl hb) hM2 hokt
      have hfd := jr_drop (X := xT d) (sep := sep) ht c
      rw [← hf.out] at hfd
      have hw1 : IntKind.i64.wrap ((j : Int) + 1) = ((j + 1 : Nat) : Int) := by rw [IntKind.wrap_i64]; omega
      clear hS hR hrg hrg2 hM hM2 hok hlen ht hf hokt
      unfold TxP at hx
      have hcz : (tx c).size ≤ 20000 * j := by rw [tx_size]; exact hc
      have hxz : (tx (xT d t)).size ≤ 16384 := by rw [tx_size]; omega
      by_cases hj0 : j = 0
      · subst hj0
        simp only [Nat.zero_mul, Nat.add_zero] at c0 c1 c2 c3 c4
        rw [if_pos rfl] at hfd
        have hrn : Hid (r = jr (xT d) sep (l.drop (0 + 1)) (0 + 1) (c ++ xT d t)) := hid hfd
        have hap : tx (c ++ xT d t) = tx c ++ tx (xT d t) := (tx_app _ _).symm
        have hln : (c ++ xT d t).length ≤ 20000 * (0 + 1) := by rw [List.length_append]; omega
        clear hfd
        replace hap := hid hap
        generalize hA : tx (xT d t) = sA at *
        generalize hC : tx c = sC at *
        have q1 : ¬ 9223372036854775807 < sC.size + sA.size := by omega
        replace hA := hid hA
        replace hC := hid hC
        unfold exC at *
        go_wp2_with (go_at_call 46; go_must (refine hx.mono ?_; rintro e w1 ⟨rfl, hb1⟩))
        go_roundw
        case rel => exact ⟨0 + 1, c ++ xT d t, by rw [hap.out], by go_num, by omega, hln, hrn, hb.trans (hb1.mono hb.size)⟩
        case measure => simp [intOf]; omega
      · rw [if_neg hj0] at hfd
        have hj1 : (0 : Int) < j := by omega
        have hrn : Hid (r = jr (xT d) sep (l.drop (j + 1)) (j + 1) (c ++ sep ++ xT d t)) := hid hfd
        have hap : tx (c ++ sep ++ xT d t) = tx c ++ sB ++ tx (xT d t) := by rw [hsB.out, tx_app, tx_app]
        have hln : (c ++ sep ++ xT d t).length ≤ 20000 * (j + 1) := by rw [List.length_append, List.length_append]; omega
        clear hfd
        replace hap := hid hap
        generalize hA : tx (xT d t) = sA at *
        generalize hC : tx c = sC at *
        have q0 : ¬ 9223372036854775807 < sC.size + sB.size := by omega
        have q1 : ¬ 9223372036854775807 < sC.size + sB.size + sA.size := by omega
        replace hA := hid hA
        replace hC := hid hC
        unfold exC at *
        go_wp2_with (go_at_call 46; go_must (refine hx.mono ?_; rintro e w1 ⟨rfl, hb1⟩))
        go_roundw
        case rel => exact ⟨j + 1, c ++ sep ++ xT d t, by rw [hap.out], by go_num, by omega, hln, hrn, hb.trans (hb1.mono hb.size)⟩
        case measure => simp [intOf]; omega
    · obtain rfl : j = n := by omega
      have hrn : Hid (r = c) := hid (by rw [hf.out, hlen.out, List.drop_length]; rfl)
      clear hS hok hf hlen
      go_wp2_with fail
      go_ret
      rw [hrn.out]
      exact ⟨rfl, hb⟩
end Go.Proofs.YtoopgppahfnncaaDoor
/- Layer ir: texts of expressions. -/
namespace Go.Proofs.YtoopgppahfnncaaDoor
open Go.Shelf Go.RowKit Go.Sort
set_option maxRecDepth 100000
set_option linter.unusedVariables false
set_option linter.unusedSimpArgs false

theorem info_parts' {e : TypeId} {z : Value} {s b : Nat} (h : (Tryd.prog.info? e).map (fun i => (i.zero, i.size, i.bytes)) = some (some z, s, b)) : ∃ i, Tryd.prog.info? e = some i ∧ i.zero = some z ∧ i.size = s ∧ i.bytes = b := by
  cases h0 : Tryd.prog.info? e with
  | none => rw [h0] at h; cases h
  | some i =>
    rw [h0] at h
    simp only [Option.map_some, Option.some.injEq, Prod.mk.injEq] at h
    exact ⟨i, rfl, h.1, h.2.1, h.2.2⟩
theorem own_slc {w : World} {base e z n : Nat} {v : Value} {xs : List Value} (h : w.ownsRow base e z v n xs) : ∃ sp cap, v = .slice sp n cap := by
  rcases h.2 with ⟨rfl, rfl⟩ | ⟨g, cap, cur, rfl, -⟩
  · exact ⟨_, _, rfl⟩
  · exact ⟨_, _, rfl⟩
theorem own_mv {w w' : World} {base e z n : Nat} {v : Value} {xs : List Value} (h : w.ownsRow base e z v n xs) (h1 : ∀ k, v.ownBlock = some k → w'.heap[k]? = w.heap[k]?) : w'.ownsRow base e z v n xs := by
  refine ⟨h.1, ?_⟩
  rcases h.2 with h' | ⟨g, cap, cur, rfl, a, b, c⟩
  · exact .inl h'
  · exact .inr ⟨g, cap, cur, rfl, a, (h1 g rfl).trans b, c⟩
theorem own_in {w : World} {base e z n : Nat} {v : Value} {xs : List Value} (h : w.ownsRow base e z v n xs) : ∀ k, v.ownBlock = some k → base ≤ k ∧ k < w.heap.size := by
  intro k hk
  rcases h.2 with ⟨rfl, -⟩ | ⟨g, cap, cur, rfl, a, b, -⟩
  · cases hk
  · cases hk
    exact ⟨a, (Array.getElem?_eq_some_iff.1 b).1⟩
theorem info9 : (Tryd.prog.info? 9).map (fun i => (i.zero, i.size, i.bytes)) = some (some (.string ⟨#[]⟩), 1, 16) := by kernel_rfl
/-- Texts as cells. -/
def sx (l : List (List UInt8)) : List Value := l.map fun s => .string (tx s)
theorem sx_len (l : List (List UInt8)) : (sx l).length = l.length := List.length_map _
theorem bl_grown {N : Nat} {w w1 w2 : World} {row : Option Nat} (h : Below N w w1) (hN : N ≤ w1.heap.size) (hg : w1.grownBy w2 row) (hr : ∀ k, row = some k → N ≤ k) : Below N w w2 :=
  h.trans ⟨hg.os, hg.tape, hg.output, hg.size, fun i hi => hg.block i (by omega) (fun e => by have := hr i e.symm; omega)⟩
/-- append of one text. -/
theorem wp_ap9 {ops : Array Oper} {rest : List Oper} {o : Oper} {a : Act} {w : World} {Q : Exit → Act → World → Prop} (hgd : o.guard = none) (s x : Operand) (ho : o.op = .call { callee := .builtin .append, args := #[s, x], argTypes := #[45, 45] })
    (base n : Nat) (v : Value) (xs : List Value) (y : Value) (hs : a.eval s = v) (hown : w.ownsRow base 9 1 v n xs) (hy : y.oneCell' = true) (gx c : Nat) (hx : a.eval x = .slice (some ⟨gx, 0, none⟩) 1 c) (ty : Nat) (hA : Arr w gx ty #[y]) (hb : n ≤ 1000000) (hbase : base ≤ w.heap.size)
    (h : ∀ sp cp w', w'.ownsRow base 9 1 (.slice sp (n + 1) cp) (n + 1) (xs ++ [y]) → w.grownBy w' v.ownBlock → wpList Tryd.prog ops Q rest (a.put o.dst (.slice sp (n + 1) cp)) w') : wpList Tryd.prog ops Q (o :: rest) a w := by
  obtain ⟨i0, hi0, hz0, hz1, hz2⟩ := info_parts' info9
  obtain ⟨v', w', hr, h2, h3, -, h5⟩ := run_append_own_at (P := Tryd.prog) w base 45 o.type 9 i0 (.string ⟨#[]⟩) 1 16 Tryd.underlying45 hi0 hz0 hz1 hz2 rfl (by omega) v n _ hown ⟨gx, 0, none⟩ 1 c [y] rfl (fun j u hj => by
    rw [Addr.add_mid, Nat.zero_add, hA.cell]
    simpa using hj) (fun u hu => by simp at hu; subst hu; exact hy) (by unfold maxLen; omega) (by omega) hbase
  obtain ⟨sp, cp, rfl⟩ := own_slc h2
  refine wpList_plain hgd fun _ hK => ?_
  unfold Oper.wp
  simp only [execOp, ho, resolve, invoke, builtin, Sem.run_bind, Sem.run_pure, Result.andThen_ok, List.map_toArray, List.map_cons, List.map_nil, hs, hx, hr]
  exact hK _ _ (h sp cp w' h2 h3)
set_option maxHeartbeats 2000000 in
theorem texts_any {N d : Nat} {vs : Int} (hE : DTx 59 N vs d) (w : World) {sp : Option Addr} {n cap : Nat} {l : List (ExT d)} (hS : RS N w 5 (ExM N w d) sp n cap l) (hok : ∀ a ∈ l, okT vs d a) (hn : n ≤ 1000000) (hN : N ≤ w.heap.size) (hT : Tb w) :
    Calls Tryd.prog 43 #[.slice sp n cap] w fun e w' => (∃ v, e = .returned v ∧ w'.ownsRow w.heap.size 9 1 v n (sx (l.map (xT d)))) ∧ Below w.heap.size w w' := by
  have hlen := hS.len
  go_enter Tryd.func43, Tryd.ntmps43
  go_upto_region 3 with fail
  go_loopw [3, 8] (fun a i wr => ∃ (j : Nat), i = .int .i64 (j : Int) ∧ j ≤ n ∧ wr.ownsRow w.heap.size 9 1 a j (sx ((l.take j).map (xT d))) ∧ Below w.heap.size w wr)
    (fun _ i _ => n - (intOf i).toNat)
  case atStart => exact ⟨0, rfl, by omega, World.ownsRow_nil _ _ _ _, Below.refl _ _⟩
  case round =>
    obtain ⟨j, rfl, hj, ho, hb⟩ := hrel
    by_cases hlt : j < n
    · obtain ⟨t, ht⟩ : ∃ t, l[j]? = some t := ⟨l[j]'(by rw [← hlen.out]; exact hlt), List.getElem?_eq_getElem _⟩
      obtain ⟨g, off, rfl, hg, hR⟩ := hS.at0 (by omega)
      obtain ⟨cs, hrg, hM⟩ := hR j t ht
      have hrg2 := rb hrg hb (by omega)
      have hM2 := ExM.below (hb.mono hN) d cs t hM
      have hokt := hok t (List.mem_of_getElem? ht)
      obtain ⟨ek, en, ev, eo, es, em, ec, rfl⟩ := hM.cells
      have c0 := hrg2 0 _ rfl
      have c1 := hrg2 1 _ rfl
      have c2 := hrg2 2 _ rfl
      have c3 := hrg2 3 _ rfl
      have c4 := hrg2 4 _ rfl
      simp only [Nat.add_zero] at c0
      have hgl := block_lt_of_cell c0
      have hlt' : (j : Int) < n := by omega
      have h0 : (0 : Int) ≤ j := by omega
      have hB1 := hb.alloc hb.size (.cells (exC ek en ev eo (.slice es em ec)).toArray 80)
      have hx := hE (wr.alloc (.cells (exC ek en ev eo (.slice es em ec)).toArray 80)) _ t (by have := hB1.size; omega) (hT.bl hB1) (ExM.below (((ab wr _).mono (by have := hb.size; omega))) d _ t hM2) hokt
      have hw1 : IntKind.i64.wrap ((j : Int) + 1) = ((j + 1 : Nat) : Int) := by rw [IntKind.wrap_i64]; omega
      have hsx : sx ((l.take (j + 1)).map (xT d)) = sx ((l.take j).map (xT d)) ++ [.string (tx (xT d t))] := by
        obtain ⟨hj', rfl⟩ := List.getElem?_eq_some_iff.1 ht
        rw [List.take_add_one, ht, List.map_append]
        simp [sx]
      replace hsx := hid hsx
      clear hS hR hrg hrg2 hM hM2 hok hlen ht hokt hE
      unfold TxP at hx
      generalize tx (xT d t) = sA at *
      generalize sx ((l.take j).map (xT d)) = xs at *
      obtain ⟨asp, acp, rfl⟩ := own_slc ho
      unfold exC at *
      go_wp2_with (first
        | (go_at_call 59; go_must (refine hx.mono ?_; rintro e w1 ⟨rfl, hb1⟩; have ho1 : w1.ownsRow w.heap.size 9 1 (.slice asp j acp) j xs := own_mv (ho.alloc (.cells #[.int .u8 ek, .int .u64 en, .int .i64 ev, .int .u8 eo, .slice es em ec] 80)) (fun k hk => hb1.block k ((own_in (ho.alloc _) k hk).2)); have hB2 := hB1.trans (hb1.mono hB1.size)))
        | (refine wp_ap9 (by rfl) (.tmp 12) (.tmp 15) (by rfl) w.heap.size j (.slice asp j acp) xs (.string sA) (by rfl) (ho1.alloc _) rfl _ _ (by rfl) 9 (Arr.new w1 9 _) (by omega) (by have := hB2.size; have := (ab w1 (.cells #[.string sA] 9)).size; omega) ?_; intro sp1 cp1 w2 ho2 hg2))
      go_roundw
      case rel => exact ⟨j + 1, by go_num, by omega, by rw [hsx.out]; exact ho2, bl_grown (hB2.alloc (by have := hB2.size; omega) _) (by have := hB2.size; have := (ab w1 (.cells #[.string sA] 9)).size; omega) hg2 (fun k hk => (own_in ho1 k hk).1)⟩
      case measure => simp [intOf]; omega
    · obtain rfl : j = n := by omega
      obtain ⟨asp, acp, rfl⟩ := own_slc ho
      have ho' : wr.ownsRow w.heap.size 9 1 (.slice asp j acp) j (sx (l.map (xT d))) := by rw [hlen.out, List.take_length] at ho; rw [hlen.out]; exact ho
      clear hS hok hlen hE ho
      go_wp2_with fail
      go_ret
      exact ⟨⟨_, rfl, ho'⟩, hb⟩
end Go.Proofs.YtoopgppahfnncaaDoor
/- Layer ir: what the layers below give. -/
namespace Go.Proofs.YtoopgppahfnncaaDoor
open Go.RowKit
set_option maxRecDepth 100000
set_option linter.unusedVariables false
set_option linter.unusedSimpArgs false

def doR : Option Nat → Int
  | some n => n
  | none => -1
def DoP (r : Option Nat) (w : World) (e : Ending) (w' : World) : Prop := e = .returned (.int .i64 (doR r)) ∧ Below w.heap.size w w'
/-- What a kind asks of an expression's own numbers. -/
def fB {α : Type} (vs : Int) (t : ExN α) : Bool :=
  if t.k = 1 then decide (t.v = 0 ∧ t.o = 0) else if t.k = 2 then decide (t.n = 0 ∧ t.o = 0 ∧ 0 ≤ t.v ∧ t.v < vs)
  else if t.k = 3 then decide (t.n = 0 ∧ t.v = 0 ∧ 5 ≤ t.o ∧ t.o ≤ 16) else if t.k = 4 then decide (t.n = 0 ∧ t.v = 0 ∧ t.o = 0) else false
def pN (k : Int) : Int := if k = 3 then 2 else if k = 4 then 1 else 0
theorem mayE_f {α : Type} {vs : Int} {t : ExN α} : mayE vs t = true ↔ fB vs t = true ∧ (t.l.length : Int) = pN t.k := by
  unfold mayE fB pN
  by_cases h1 : t.k = 1
  · simp [h1]
    constructor <;> intro h <;> simp_all
  by_cases h2 : t.k = 2
  · simp [h2]
    constructor <;> intro h <;> simp_all
  by_cases h3 : t.k = 3
  · simp [h3]
    constructor <;> intro h <;> simp_all
  by_cases h4 : t.k = 4
  · simp [h4]
    constructor <;> intro h <;> simp_all
  · simp [h1, h2, h3, h4]
theorem exN_f {vs : Int} {d : Nat} {t : ExT (d + 1)} {n : Nat} (hn : n ≠ 0) : exN vs (d + 1) t n = if fB vs t.nd = true then (if (t.nd.l.length : Int) = pN t.nd.k then fld (exN vs d) t.nd.l (n - 1) else none) else none := by
  have e : exN vs (d + 1) t n = if n = 0 ∨ mayE vs t.nd = false then none else fld (exN vs d) t.nd.l (n - 1) := rfl
  rw [e]
  have hm := mayE_f (vs := vs) (t := t.nd)
  by_cases h1 : fB vs t.nd = true
  · rw [if_pos h1]
    by_cases h2 : (t.nd.l.length : Int) = pN t.nd.k
    · rw [if_pos h2, if_neg]
      rintro (h | h)
      · exact hn h
      · rw [hm.2 ⟨h1, h2⟩] at h; cases h
    · rw [if_neg h2, if_pos]
      right
      cases h3 : mayE vs t.nd with
      | false => rfl
      | true => exact absurd (hm.1 h3).2 h2
  · rw [if_neg h1, if_pos]
    right
    cases h3 : mayE vs t.nd with
    | false => rfl
    | true => exact absurd (hm.1 h3).1 h1
end Go.Proofs.YtoopgppahfnncaaDoor
/- Layer ir: the text of an expression. -/
namespace Go.Proofs.YtoopgppahfnncaaDoor
open Go.Shelf Go.RowKit Go.Sort
set_option maxRecDepth 100000
set_option linter.unusedVariables false
set_option linter.unusedSimpArgs false


theorem own_row {w : World} {base n : Nat} {v : Value} {xs : List Value} (h : w.ownsRow base 9 1 v n xs) (hn : 0 < n) : ∃ g cp cur, v = .slice (some ⟨g, 0, none⟩) n cp ∧ base ≤ g ∧ n ≤ cp ∧ Arr w g 9 cur ∧ ∀ j y, xs[j]? = some y → w.cell? ⟨g, j, none⟩ = some y := by
  rcases h.2 with ⟨rfl, h0⟩ | ⟨g, cap, cur, rfl, h1, h2, h3, h4, h5, h6⟩
  · omega
  · refine ⟨g, cap, cur, rfl, h1, h3, h2, fun j y hy => ?_⟩
    have := h.cells (g := g) rfl j y hy
    rwa [Addr.add_mid, Nat.zero_add] at this
set_option maxHeartbeats 4000000 in
theorem etx_s {N d : Nat} {vs : Int} (hd : d ≤ 8) (hE : DTx 59 N vs d) : DTx 59 N vs (d + 1) := by
  intro w cs t hN hT hM hok0
  obtain ⟨hm, hk, hl⟩ := hok0
  obtain ⟨sp, m, cap, rfl, hok, hS⟩ := hM
  have hlen := hS.len
  have b0 := ab w (.cells (exC t.nd.k t.nd.n t.nd.v t.nd.o (.slice sp m cap)).toArray 80)
  have htU := hT.bl b0
  obtain ⟨r, hr⟩ : ∃ r, r = xT (d + 1) t := ⟨_, rfl⟩
  replace hr : r = xTn (xT d) t.nd := hr
  have hres : xT (d + 1) t = r := by rw [hr]; rfl
  rw [hres]
  clear hres
  obtain ⟨⟨k, nn, v, o, l⟩, ht⟩ : ∃ q : ExN (ExT d), q = t.nd := ⟨_, rfl⟩
  rw [← ht] at hr b0 hS hlen htU hm hok hl ⊢
  clear ht hk
  replace hlen : Hid (m = l.length) := hlen
  replace hS : RS N w 5 (ExM N w d) sp m cap l := hS
  have hv64 : I64 v := hok.v
  have hn64 : U64 nn := hok.n
  clear hok
  replace hm : mayE vs ⟨k, nn, v, o, l⟩ = true := hm
  have A := Arr.new w 80 (exC k nn v o (.slice sp m cap)).toArray
  unfold exC at *
  replace b0 : Below w.heap.size w (w.alloc (.cells #[.int .u8 k, .int .u64 nn, .int .i64 v, .int .u8 o, .slice sp m cap] 80)) := b0
  replace htU : Tb (w.alloc (.cells #[.int .u8 k, .int .u64 nn, .int .i64 v, .int .u8 o, .slice sp m cap] 80)) := htU
  replace A : Arr (w.alloc (.cells #[.int .u8 k, .int .u64 nn, .int .i64 v, .int .u8 o, .slice sp m cap] 80)) w.heap.size 80 #[.int .u8 k, .int .u64 nn, .int .i64 v, .int .u8 o, .slice sp m cap] := A
  replace hr : r = xTn (xT d) ⟨k, nn, v, o, l⟩ := hr
  have hm' := (mayE_f.1 hm).2
  have hm2 : m ≤ 2 := by
    have h1 : ((⟨k, nn, v, o, l⟩ : ExN (ExT d)).l.length : Int) = (m : Int) := by rw [hlen.out]
    rw [h1] at hm'
    unfold pN at hm'
    split at hm' <;> first | omega | (split at hm' <;> omega)
  have hx43 := texts_any hE (w.alloc (.cells #[.int .u8 k, .int .u64 nn, .int .i64 v, .int .u8 o, .slice sp m cap] 80)) (hS.imp (b0.mono hN) (ExM.below (b0.mono hN) d)) hl (by omega) (by have := b0.size; omega) htU
  have a0 := A.cell 0
  have a4 := A.cell 4
  clear hS hE hm2 hm'
  unfold mayE at hm
  unfold xTn at hr
  simp only at hm hr
  by_cases h1 : k = 1
  · rw [if_pos h1] at hr
    subst h1
    have hx := fun u hu => utoa_any nn u hn64 hu
    rw [← hr] at hx
    clear hr hm hl
    unfold TxP at hx ⊢
    generalize tx r = s at *
    go_enter Tryd.func59, Tryd.ntmps59
    go_wp2_with (first
      | (go_at_call 43; go_must (refine hx43.mono ?_; rintro e w1 ⟨⟨pv, rfl, hown⟩, hb1⟩; obtain ⟨psp, pcp, rfl⟩ := own_slc hown; have A1 := A.bl hb1; have k0 := A1.cell 0; have k1 := A1.cell 1; have k2 := A1.cell 2; have k3 := A1.cell 3; have hT1 := htU.bl hb1; have hB1 := b0.trans (hb1.mono b0.size)))
      | (go_at_call 60; go_must (refine (hx _ hT1).mono ?_; rintro e w2 ⟨rfl, hb2⟩)))
    go_ret
    exact ⟨rfl, hB1.trans (hb2.mono hB1.size)⟩
  rw [if_neg h1] at hr hm
  by_cases h2 : k = 2
  · rw [if_pos h2] at hr
    subst h2
    have hx := fun u hu => varText_any v u hv64 hu
    rw [← hr] at hx
    clear hr hm hl
    unfold TxP at hx ⊢
    generalize tx r = s at *
    go_enter Tryd.func59, Tryd.ntmps59
    go_wp2_with (first
      | (go_at_call 43; go_must (refine hx43.mono ?_; rintro e w1 ⟨⟨pv, rfl, hown⟩, hb1⟩; obtain ⟨psp, pcp, rfl⟩ := own_slc hown; have A1 := A.bl hb1; have k0 := A1.cell 0; have k1 := A1.cell 1; have k2 := A1.cell 2; have k3 := A1.cell 3; have hT1 := htU.bl hb1; have hB1 := b0.trans (hb1.mono b0.size)))
      | (go_at_call 44; go_must (refine (hx _ hT1).mono ?_; rintro e w2 ⟨rfl, hb2⟩)))
    go_ret
    exact ⟨rfl, hB1.trans (hb2.mono hB1.size)⟩
  rw [if_neg h2] at hr hm
  have hb9 : 64 * 2 ^ d ≤ 64 * 2 ^ 8 := Nat.mul_le_mul_left _ (Nat.pow_le_pow_right (by omega) hd)
  by_cases h3 : k = 3
  · rw [if_pos h3] at hr hm
    simp only [decide_eq_true_eq] at hm
    obtain ⟨ho5, ho16, hl2, -, -⟩ := hm
    match l, hl2, hlen, hx43, hr, hl with
    | [x, y], hl2, hlen, hx43, hr, hl =>
      have hm2 : m = 2 := hlen.out
      subst hm2
      have hO := sign71_any o
      have lA := xT_len vs d x (hl x (by simp))
      have lB := xT_len vs d y (hl y (by simp))
      have lO := sgn_len o
      have he : tx r = ⟨#[40, 32]⟩ ++ tx (xT d x) ++ ⟨#[32]⟩ ++ tx (sgn o) ++ ⟨#[32]⟩ ++ tx (xT d y) ++ ⟨#[32, 41]⟩ := by
        rw [hr]
        simp only [← tx_app]
        rfl
      rw [← tx_size] at lA lB lO
      simp only [sx, List.map_cons, List.map_nil] at hx43
      unfold TxP at hO ⊢
      rw [he]
      clear he hr hl
      generalize tx (xT d x) = sA at *
      generalize tx (xT d y) = sB at *
      generalize tx (sgn o) = sO at *
      have q1 : ¬ 9223372036854775807 < 2 + sA.size := by omega
      have q2 : ¬ 9223372036854775807 < 2 + sA.size + 1 := by omega
      have q3 : ¬ 9223372036854775807 < 2 + sA.size + 1 + sO.size := by omega
      have q4 : ¬ 9223372036854775807 < 2 + sA.size + 1 + sO.size + 1 := by omega
      have q5 : ¬ 9223372036854775807 < 2 + sA.size + 1 + sO.size + 1 + sB.size := by omega
      have q6 : ¬ 9223372036854775807 < 2 + sA.size + 1 + sO.size + 1 + sB.size + 2 := by omega
      clear lA lB lO hb9 hlen hl2
      subst h3
      go_enter Tryd.func59, Tryd.ntmps59
      go_upto_region 8 with (go_at_call 43; go_must (refine hx43.mono ?_; rintro e w1 ⟨⟨pv, rfl, hown⟩, hb1⟩; obtain ⟨psp, pcp, rfl⟩ := own_slc hown; have A1 := A.bl hb1; have k0 := A1.cell 0; have k1 := A1.cell 1; have k2 := A1.cell 2; have k3 := A1.cell 3; have hT1 := htU.bl hb1; have hB1 := b0.trans (hb1.mono b0.size)))
      obtain ⟨G, cp, cur, hpe, hG1, hG2, hG3, hG4⟩ := own_row hown (by omega)
      cases hpe
      have g0 := hG4 0 _ rfl
      have g1 := hG4 1 _ rfl
      clear hx43 hown hG4
      have hGl : G < w1.heap.size := hG3.lt
      have hwl : w.heap.size < w1.heap.size := A1.lt
      have hS0 : ∀ u, Below w1.heap.size w1 u → u.cell? ⟨w.heap.size, 3, none⟩ = some (.int .u8 o) ∧ u.cell? ⟨G, 0, none⟩ = some (.string sA) ∧ u.cell? ⟨G, 1, none⟩ = some (.string sB) := fun u hb => ⟨(hb.cell hwl).trans k3, (hb.cell hGl).trans g0, (hb.cell hGl).trans g1⟩
      have hD0 : Below w1.heap.size w1 w1.drew := (Below.refl _ _).drew
      refine rgn (fun u => u.cell? ⟨w.heap.size, 3, none⟩ = some (.int .u8 o) ∧ u.cell? ⟨G, 0, none⟩ = some (.string sA) ∧ u.cell? ⟨G, 1, none⟩ = some (.string sB)) (hS0 _ hD0) (fun hSw => ?_)
      refine tk3 0 rfl ?_
      refine tk3 1 rfl ?_
      refine tk3 2 rfl ?_
      refine tk3 3 rfl ?_
      refine tk3 4 rfl ?_
      refine tk3 5 rfl ?_
      refine tk3 6 rfl ?_
      refine tk3 10 rfl ?_
      refine tk3 11 rfl ?_
      refine tk3 12 rfl ?_
      refine rd 7 rfl (fun K hK => ?_)
      go_simp
      refine (hO _ ⟨ho5, ho16⟩).mono ?_
      rintro e w2 ⟨rfl, hb2⟩
      have hB2 := hD0.trans (hb2.mono hD0.size)
      go_wp2_with fail
      refine hK.out _ _ (hS0 _ hB2) (fun hHeld => ?_)
      clear hK K
      try simp only [Act.put, List.setIfInBounds_toArray, List.set_cons_zero, List.set_cons_succ]
      refine tk3 8 rfl ?_
      refine tk3 9 rfl ?_
      refine tk3 13 rfl ?_
      refine tk3 14 rfl ?_
      refine tk3 15 rfl ?_
      refine dn ?_
      go_wp2_with fail
      go_ret
      exact ⟨rfl, hB1.trans (hB2.mono hB1.size)⟩
  rw [if_neg h3] at hr hm
  by_cases h4 : k = 4
  · rw [if_pos h4] at hm
    simp only [decide_eq_true_eq] at hm
    obtain ⟨hl1, -, -, -⟩ := hm
    match l, hl1, hlen, hx43, hr, hl with
    | [x], hl1, hlen, hx43, hr, hl =>
      have hm1 : m = 1 := hlen.out
      subst hm1
      have lA := xT_len vs d x (hl x (by simp))
      have he : tx r = ⟨#[91, 32]⟩ ++ tx (xT d x) ++ ⟨#[32, 93]⟩ := by
        rw [hr]
        simp only [← tx_app]
        rfl
      rw [← tx_size] at lA
      simp only [sx, List.map_cons, List.map_nil] at hx43
      unfold TxP
      rw [he]
      clear he hr hl
      generalize tx (xT d x) = sA at *
      have q1 : ¬ 9223372036854775807 < 2 + sA.size := by omega
      have q2 : ¬ 9223372036854775807 < 2 + sA.size + 2 := by omega
      clear lA hb9 hlen hl1
      subst h4
      go_enter Tryd.func59, Tryd.ntmps59
      go_wp2_with (go_at_call 43; go_must (refine hx43.mono ?_; rintro e w1 ⟨⟨pv, rfl, hown⟩, hb1⟩; obtain ⟨psp, pcp, rfl⟩ := own_slc hown; have A1 := A.bl hb1; have k0 := A1.cell 0; have k1 := A1.cell 1; have k2 := A1.cell 2; have k3 := A1.cell 3; have hT1 := htU.bl hb1; have hB1 := b0.trans (hb1.mono b0.size); obtain ⟨G, cp, cur, hpe, hG1, hG2, hG3, hG4⟩ := own_row hown (by omega); cases hpe; have g0 := hG4 0 _ rfl; clear hG4))
      go_ret
      exact ⟨rfl, hB1⟩
  · rw [if_neg h4] at hm
    cases hm
theorem etx_any (N : Nat) (vs : Int) : ∀ d : Nat, d ≤ 9 → DTx 59 N vs d
  | 0, _ => fun _ _ _ _ _ _ h => by cases h
  | d + 1, h => etx_s (by omega) (etx_any N vs d (by omega))
end Go.Proofs.YtoopgppahfnncaaDoor
/- Layer ir: a line of words put behind a text. -/
namespace Go.Proofs.YtoopgppahfnncaaDoor
open Go.Shelf Go.RowKit Go.Sort
set_option maxRecDepth 100000
set_option linter.unusedVariables false
set_option linter.unusedSimpArgs false


open Go.Lib in
theorem bdf_keep {B b : Nat} {bs : List Value} {w w' : World} (h : IsBuilderF 44 5 B b bs w) (hb : Below w.heap.size w w') : IsBuilderF 44 5 B b bs w' := by
  have key : ∀ p, BuilderAtF 44 5 B b p bs w → BuilderAtF 44 5 B b p bs w' := fun p ⟨h1, v, h2, h3, h4⟩ => ⟨h1, v, (hb.block b (Array.getElem?_eq_some_iff.1 h2).1).trans h2, h3.kept (row := none) ⟨hb.os, hb.tape, hb.output, hb.size, fun k hk _ => hb.block k hk⟩ (by cases v.ownBlock <;> simp), h4⟩
  exact h.elim (fun x => .inl (key _ x)) (fun x => .inr (key _ x))
/-- The builder of a text. -/
def BX (N b : Nat) (t : List UInt8) (w : World) : Prop := Lib.IsBuilderF 44 5 N b (Lib.byteCells t) w
theorem BX.keep {N b : Nat} {t : List UInt8} {w w' : World} (h : BX N b t w) (hb : Below w.heap.size w w') : BX N b t w' := bdf_keep h hb
theorem BX.bl {N b : Nat} {t : List UInt8} {w : World} (h : BX N b t w) : N ≤ b ∧ b < w.heap.size := by
  rcases h with h | h
  · exact ⟨h.1, h.lt⟩
  · exact ⟨h.1, h.lt⟩
/-- The builder was written to, and nothing else was. -/
structure BK (N b : Nat) (w w' : World) : Prop where
  bl : Below N w w'
  ok : Lib.OthersKept 5 (some b) w w'
theorem BK.trans {N b : Nat} {w w' w2 : World} (h : BK N b w w') (k : BK N b w' w2) : BK N b w w2 := ⟨h.bl.trans k.bl, h.ok.trans k.ok⟩
theorem BK.ob {N b : Nat} {w w' : World} (hN : N ≤ w.heap.size) (h : Below w.heap.size w w') : BK N b w w' := ⟨h.mono hN, fun k o hk _ _ => (h.block k (Array.getElem?_eq_some_iff.1 hk).1).trans hk⟩
theorem BK.arr {N b g ty : Nat} {C : Array Value} {w w' : World} (h : BK N b w w') (hA : Arr w g ty C) (hne : g ≠ b) (ht : ty ≠ 5) : Arr w' g ty C :=
  h.ok g _ hA (fun e => hne (by cases e; rfl)) (fun c fz e => by cases e; exact ht rfl)
/-- Words with blanks between. -/
def ln (ws : List (List UInt8)) : List UInt8 := Lib.join ws [32] ++ [10]
set_option maxHeartbeats 1000000 in
theorem put16_any {N b g o c : Nat} {ws : List (List UInt8)} {t : List UInt8} (w : World) (hB : BX N b t w) (hN : N ≤ w.heap.size) (hcells : ∀ j s, ws[j]? = some s → w.cell? ⟨g, o + j, none⟩ = some (.string (tx s))) (hg : g < w.heap.size) (hc : ws.length ≤ c) (hw : ws.length ≤ 1000) (hlen : t.length + (ln ws).length ≤ 1000000000) :
    Calls Tryd.prog 16 #[.slice (some ⟨g, o, none⟩) ws.length c, .pointer (some ⟨b, 0, none⟩)] w fun e w' => e = .returned (.tuple #[]) ∧ BX N b (t ++ ln ws) w' ∧ BK N b w w' := by
  unfold ln at hlen ⊢
  rw [List.length_append, List.length_singleton] at hlen
  have hmap : (ws.map tx).map (·.data.toList) = ws := by
    rw [List.map_map]
    conv => rhs; rw [← List.map_id ws]
    exact List.map_congr_left (fun a _ => rfl)
  have hJ := Tryd.strings_Join g o c (ws.map tx) ⟨#[32]⟩ w (fun j x hx => by
    rw [List.getElem?_map] at hx
    cases hs : ws[j]? with
    | none => rw [hs] at hx; cases hx
    | some s => rw [hs] at hx; cases hx; exact hcells j s hs) hg (by rw [List.length_map]; omega) (by rw [List.length_map]; omega) (by rw [hmap]; show (Lib.join ws [32]).length ≤ _; omega)
  rw [hmap, List.length_map] at hJ
  change Calls Tryd.prog 18 #[.slice (some ⟨g, o, none⟩) ws.length c, .string ⟨#[32]⟩] w (fun e w' => e = .returned (.string (tx (Lib.join ws [32]))) ∧ Below w.heap.size w w') at hJ
  have hz : (tx (Lib.join ws [32])).size = (Lib.join ws [32]).length := tx_size _
  have hbc : Lib.strCells (tx (Lib.join ws [32])) = Lib.byteCells (Lib.join ws [32]) := rfl
  generalize Lib.join ws [32] = J at *
  obtain ⟨sJ, hsJ⟩ : ∃ s, s = tx J := ⟨_, rfl⟩
  rw [← hsJ] at hJ hz hbc
  replace hsJ := hid hsJ
  replace hbc := hid hbc
  have hW := fun (u : World) (h : BX N b t u) (hNu : N ≤ u.heap.size) => Tryd.Builder_WriteString_k N b (Lib.byteCells t) sJ u h (by rw [Lib.byteCells_length, hz]; omega) hNu
  have hY := fun (u : World) (h : Lib.IsBuilderF 44 5 N b (Lib.byteCells (t ++ J)) u) (hNu : N ≤ u.heap.size) => Tryd.Builder_WriteByte_k N b (Lib.byteCells (t ++ J)) 10 u h (by rw [Lib.byteCells_length, List.length_append]; omega) hNu
  clear hcells hlen hz
  go_enter Tryd.func16, Tryd.ntmps16
  go_wp2_with (first
    | (go_at_call 18; go_must (refine hJ.mono ?_; rintro e w1 ⟨rfl, hb1⟩; have hN1 : N ≤ w1.heap.size := Nat.le_trans hN hb1.size))
    | (go_at_call 17; go_must (refine (hW _ (hB.keep hb1) hN1).mono ?_; rintro e w2 ⟨rfl, hB2, hb2, ho2⟩; have hB2' : Lib.IsBuilderF 44 5 N b (Lib.byteCells (t ++ J)) w2 := .inr (by rw [Lib.byteCells_append, ← hbc.out]; exact hB2); have hN2 : N ≤ w2.heap.size := Nat.le_trans hN1 hb2.size))
    | (go_at_call 19; go_must (refine (hY _ hB2' hN2).mono ?_; rintro e w3 ⟨rfl, hB3, hb3, ho3⟩)))
  go_end0
  exact ⟨rfl, .inr (by rw [← List.append_assoc, Lib.byteCells_append]; exact hB3), (BK.ob hN hb1).trans ((BK.mk hb2 ho2).trans ⟨hb3, ho3⟩)⟩
end Go.Proofs.YtoopgppahfnncaaDoor
