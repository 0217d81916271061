/- Ax, Ph, Se, Sw, QCa, V2. -/
import Derived.Deep.RegionHeld
import Derived.KernelRfl
import Derived.BigRegion
import Derived.WalkKit
import Derived.Test.YtbfelelngoonjaaX03
import Derived.BigQuiet
import Derived.ChangeKeysEq
import Derived.Deep.DeepCutAuto
import Derived.Deep.DrawnRows
import Derived.Deep.MidRow
import Derived.Deep.QuietTactic
import Derived.Deep.RegionHeld3
import Derived.Deep.RegionLaw
import Derived.Deep.RegionWith
import Derived.Deep.WholeRow
import Derived.Great.BuildSlice
import Derived.Great.FillDense
import Derived.Laws.AppendOwnNone
import Derived.Laws.BitsLemmas
import Derived.Laws.BytesArg
import Derived.Laws.CopyOwn
import Derived.Laws.CopyRow
import Derived.Laws.MakeOwn
import Derived.Laws.OwnMore
import Derived.Laws.Tables
import Derived.Lib.SlBytesConst
import Derived.LoopIn
import Derived.LoopNIn
import Derived.Maps.AppendAt
import Derived.OwnWalkIn
import Derived.RangeFuncBound
import Derived.RangeFuncCalls
import Derived.RangeFuncLeaves
import Derived.RangeFuncNested
import Derived.RangeFuncRecord
import Derived.Shelf.Abstract
import Derived.Shelf.RegionOpen
import Derived.TacticsInMore
import Derived.WalkLawsBesides
import Derived.WalkSpells
import Derived.Test.YtbfelelngoonjaaX01
import Derived.Test.YtbfelelngoonjaaX06
import Derived.Test.YtbfelelngoonjaaX13
import Derived.Test.YtbfelelngoonjaaX14
import Derived.Lib.AppendZeros
import Derived.Test.YtbfelelngoonjaaX02
import Derived.Test.YtbfelelngoonjaaX04
import Derived.Test.YtbfelelngoonjaaX05
import Derived.Test.YtbfelelngoonjaaX12
import Derived.Test.YtbfelelngoonjaaX16
import Derived.Test.YtbfelelngoonjaaX18
import Derived.Test.YtbfelelngoonjaaX22
import Derived.Test.YtbfelelngoonjaaX19
import Derived.Test.YtbfelelngoonjaaX23
import Derived.Test.YtbfelelngoonjaaX24
import Derived.ChangeOld
import Derived.OpenShut
import Derived.ProofKit
import Derived.ShutString
import Derived.SizedLaws
import Derived.Test.YtbfelelngoonjaaX11
import Derived.Test.YtbfelelngoonjaaX10
import Derived.Test.YtbfelelngoonjaaX21
import Derived.DeepKeys3
/- A row of a region that draws its order, in short. -/
namespace Go.Proofs.Ytbfelelngoonjaa
open Go.RowKit
/-- An operation that only yields, taken ahead of the rest. -/
theorem tk {P : Program} {ops : Array Oper} {Q : Exit → Act → World → Prop} {md : Region.Mode} {S : World → Prop} (i : Nat) {dst : Option Tmp} {op : Op} {ty : TypeId} {pos : String} {af : Array Edge} {gd : Option (Nat × Bool)} {v : Value} {fuel : Nat} {listed : Array Bool} {a a' : Act} {w : World} (hi : ops[i]? = some ⟨dst, op, ty, pos, af, gd⟩)
    (h : wpAnyH P md ops Q S fuel (listed.setIfInBounds i true) a' w)
    (hs : Region.noSelect ops = true := by kernel_rfl) (hf : Region.free md ops listed i = true := by kernel_rfl) (hr : (Region.ready md ops listed).contains i = true := by kernel_rfl)
    (hw : Region.wanted ⟨dst, op, ty, pos, af, gd⟩ (yielded ops a.tmps) = true := by rfl)
    (hy : ∀ u, S u → (execOp a.eval ⟨dst, op, ty, pos, af, gd⟩).run P u = .ok (.value v) u := by (intro u hSw; go_simp; try (with_reducible rfl)))
    (hQ : ∀ c a w, Q (.panic c) (a.put dst v) w → Q (.panic c) a w := by exact fun _ _ _ h => h)
    (ha : a.put dst v = a' := by (conv => (lhs; try simp only [Act.put, List.setIfInBounds_toArray, List.set_cons_zero, List.set_cons_succ])); (try rfl)) (hS : S w := by assumption) : wpAnyH P md ops Q S (fuel + 1) listed a w :=
  wpAnyH_take hi hs hf hr hQ (Or.inl ⟨hw, hy⟩) hS (by rw [ha]; exact h)
theorem tks {P : Program} {ops : Array Oper} {Q : Exit → Act → World → Prop} {md : Region.Mode} {S : World → Prop} (i : Nat) {dst : Option Tmp} {op : Op} {ty : TypeId} {pos : String} {af : Array Edge} {gd : Option (Nat × Bool)} {v : Value} {fuel : Nat} {listed : Array Bool} {a a' : Act} {w : World} (hi : ops[i]? = some ⟨dst, op, ty, pos, af, gd⟩)
    (h : wpAnyH P md ops Q S fuel (listed.setIfInBounds i true) a' w)
    (hs : Region.noSelect ops = true := by kernel_rfl) (hf : Region.free md ops listed i = true := by kernel_rfl) (hr : (Region.ready md ops listed).contains i = true := by kernel_rfl)
    (hw : Region.wanted ⟨dst, op, ty, pos, af, gd⟩ (yielded ops a.tmps) = true := by rfl)
    (hy : ∀ u, S u → (execOp a.eval ⟨dst, op, ty, pos, af, gd⟩).run P u = .ok (.value v) u := by (intro u hSw; subst hSw; go_simp; try (with_reducible rfl)))
    (hQ : ∀ c a w, Q (.panic c) (a.put dst v) w → Q (.panic c) a w := by exact fun _ _ _ h => h)
    (ha : a.put dst v = a' := by (conv => (lhs; try simp only [Act.put, List.setIfInBounds_toArray, List.set_cons_zero, List.set_cons_succ])); (try rfl)) (hS : S w := by assumption) : wpAnyH P md ops Q S (fuel + 1) listed a w :=
  wpAnyH_take hi hs hf hr hQ (Or.inl ⟨hw, hy⟩) hS (by rw [ha]; exact h)
theorem tk2 {P : Program} {ops : Array Oper} {Q : Exit → Act → World → Prop} {md : Region.Mode} {S : World → Prop} (i : Nat) {dst : Option Tmp} {op : Op} {ty : TypeId} {pos : String} {af : Array Edge} {gd : Option (Nat × Bool)} {v : Value} {fuel : Nat} {listed : Array Bool} {a a' : Act} {w : World} (hi : ops[i]? = some ⟨dst, op, ty, pos, af, gd⟩)
    (h : wpAnyH P md ops Q S fuel (listed.setIfInBounds i true) a' w)
    (hs : Region.noSelect ops = true := by kernel_rfl) (hf : Region.free md ops listed i = true := by kernel_rfl) (hr : (Region.ready md ops listed).contains i = true := by kernel_rfl)
    (hw : Region.wanted ⟨dst, op, ty, pos, af, gd⟩ (yielded ops a.tmps) = true := by rfl)
    (hy : ∀ u, S u → (execOp a.eval ⟨dst, op, ty, pos, af, gd⟩).run P u = .ok (.value v) u := by (intro u hSw; obtain ⟨s1, s2⟩ := hSw; go_simp; try (with_reducible rfl)))
    (hQ : ∀ c a w, Q (.panic c) (a.put dst v) w → Q (.panic c) a w := by exact fun _ _ _ h => h)
    (ha : a.put dst v = a' := by (conv => (lhs; try simp only [Act.put, List.setIfInBounds_toArray, List.set_cons_zero, List.set_cons_succ])); (try rfl)) (hS : S w := by assumption) : wpAnyH P md ops Q S (fuel + 1) listed a w :=
  wpAnyH_take hi hs hf hr hQ (Or.inl ⟨hw, hy⟩) hS (by rw [ha]; exact h)
theorem tk3 {P : Program} {ops : Array Oper} {Q : Exit → Act → World → Prop} {md : Region.Mode} {S : World → Prop} (i : Nat) {dst : Option Tmp} {op : Op} {ty : TypeId} {pos : String} {af : Array Edge} {gd : Option (Nat × Bool)} {v : Value} {fuel : Nat} {listed : Array Bool} {a a' : Act} {w : World} (hi : ops[i]? = some ⟨dst, op, ty, pos, af, gd⟩)
    (h : wpAnyH P md ops Q S fuel (listed.setIfInBounds i true) a' w)
    (hs : Region.noSelect ops = true := by kernel_rfl) (hf : Region.free md ops listed i = true := by kernel_rfl) (hr : (Region.ready md ops listed).contains i = true := by kernel_rfl)
    (hw : Region.wanted ⟨dst, op, ty, pos, af, gd⟩ (yielded ops a.tmps) = true := by rfl)
    (hy : ∀ u, S u → (execOp a.eval ⟨dst, op, ty, pos, af, gd⟩).run P u = .ok (.value v) u := by (intro u hSw; obtain ⟨s1, s2, s3⟩ := hSw; go_simp; try (with_reducible rfl)))
    (hQ : ∀ c a w, Q (.panic c) (a.put dst v) w → Q (.panic c) a w := by exact fun _ _ _ h => h)
    (ha : a.put dst v = a' := by (conv => (lhs; try simp only [Act.put, List.setIfInBounds_toArray, List.set_cons_zero, List.set_cons_succ])); (try rfl)) (hS : S w := by assumption) : wpAnyH P md ops Q S (fuel + 1) listed a w :=
  wpAnyH_take hi hs hf hr hQ (Or.inl ⟨hw, hy⟩) hS (by rw [ha]; exact h)
theorem dn {P : Program} {ops : Array Oper} {Q : Exit → Act → World → Prop} {md : Region.Mode} {S : World → Prop} {listed : Array Bool} {a : Act} {w : World} {fuel : Nat} (h : Q .normal a w) (hr : Region.ready md ops listed = [] := by kernel_rfl) : wpAnyH P md ops Q S fuel listed a w := wpAnyH_done hr h fuel
theorem rgn {P : Program} {ops : Array Oper} {Q : Exit → Act → World → Prop} (S : World → Prop) {id : Nat} {a : Act} {w : World} (hS : S w.drew) (h : S w.drew → wpAnyH P .any ops Q S ops.size (Array.replicate ops.size false) a w.drew) (hm : P.follows .mixedOrders = true := by kernel_rfl) : (Code.region id ops true).wp P Q a w := wp_region_held_drew hm hS h
/-- .. whose value is told by a law. -/
theorem tl {P : Program} {ops : Array Oper} {Q : Exit → Act → World → Prop} {md : Region.Mode} {S : World → Prop} (i : Nat) {dst : Option Tmp} {op : Op} {ty : TypeId} {pos : String} {af : Array Edge} {gd : Option (Nat × Bool)} {v : Value} {fuel : Nat} {listed : Array Bool} {a a' : Act} {w : World} (hi : ops[i]? = some ⟨dst, op, ty, pos, af, gd⟩)
    (hy : YieldsIf P ops S ⟨dst, op, ty, pos, af, gd⟩ v a) (h : wpAnyH P md ops Q S fuel (listed.setIfInBounds i true) a' w)
    (hs : Region.noSelect ops = true := by kernel_rfl) (hf : Region.free md ops listed i = true := by kernel_rfl) (hr : (Region.ready md ops listed).contains i = true := by kernel_rfl)
    (hQ : ∀ c a w, Q (.panic c) (a.put dst v) w → Q (.panic c) a w := by exact fun _ _ _ h => h)
    (ha : a.put dst v = a' := by (conv => (lhs; try simp only [Act.put, List.setIfInBounds_toArray, List.set_cons_zero, List.set_cons_succ])); (try rfl)) (hS : S w := by assumption) : wpAnyH P md ops Q S (fuel + 1) listed a w :=
  wpAnyH_take hi hs hf hr hQ hy hS (by rw [ha]; exact h)
/-- The one operation that may come up. -/
theorem rd {P : Program} {ops : Array Oper} {Q : Exit → Act → World → Prop} {md : Region.Mode} {S : World → Prop} (i : Nat) {dst : Option Tmp} {op : Op} {ty : TypeId} {pos : String} {af : Array Edge} {gd : Option (Nat × Bool)} {fuel : Nat} {listed : Array Bool} {a : Act} {w : World} (hi : ops[i]? = some ⟨dst, op, ty, pos, af, gd⟩) (h : (∀ K' : Act → World → Prop, Shut (∀ a w, S w → (S w → wpAnyH P md ops Q S fuel (listed.setIfInBounds i true) a w) → K' a w) → if Region.wanted ⟨dst, op, ty, pos, af, gd⟩ (yielded ops a.tmps) = true then Oper.wp P ⟨dst, op, ty, pos, af, gd⟩ a w K' Q else K' (a.put dst undef) w))
    (hr : Region.ready md ops listed = [i] := by kernel_rfl) : wpAnyH P md ops Q S (fuel + 1) listed a w :=
  wpAnyH_ready hr (by simp) (AllReadyH.cons hi h AllReadyH.nil)
/-- .. of two. -/
theorem rd2 {P : Program} {ops : Array Oper} {Q : Exit → Act → World → Prop} {md : Region.Mode} {S : World → Prop} (i j : Nat) {dst : Option Tmp} {op : Op} {ty : TypeId} {pos : String} {af : Array Edge} {gd : Option (Nat × Bool)} {dst2 : Option Tmp} {op2 : Op} {ty2 : TypeId} {pos2 : String} {af2 : Array Edge} {gd2 : Option (Nat × Bool)} {fuel : Nat} {listed : Array Bool} {a : Act} {w : World} (hi : ops[i]? = some ⟨dst, op, ty, pos, af, gd⟩) (hj : ops[j]? = some ⟨dst2, op2, ty2, pos2, af2, gd2⟩) (h : (∀ K' : Act → World → Prop, Shut (∀ a w, S w → (S w → wpAnyH P md ops Q S fuel (listed.setIfInBounds i true) a w) → K' a w) → if Region.wanted ⟨dst, op, ty, pos, af, gd⟩ (yielded ops a.tmps) = true then Oper.wp P ⟨dst, op, ty, pos, af, gd⟩ a w K' Q else K' (a.put dst undef) w)) (h2 : (∀ K' : Act → World → Prop, Shut (∀ a w, S w → (S w → wpAnyH P md ops Q S fuel (listed.setIfInBounds j true) a w) → K' a w) → if Region.wanted ⟨dst2, op2, ty2, pos2, af2, gd2⟩ (yielded ops a.tmps) = true then Oper.wp P ⟨dst2, op2, ty2, pos2, af2, gd2⟩ a w K' Q else K' (a.put dst2 undef) w))
    (hr : Region.ready md ops listed = [i, j] := by kernel_rfl) : wpAnyH P md ops Q S (fuel + 1) listed a w :=
  wpAnyH_ready hr (by simp) (AllReadyH.cons hi h (AllReadyH.cons hj h2 AllReadyH.nil))
/-- Back into the region. -/
theorem ko {P : Program} {ops : Array Oper} {Q : Exit → Act → World → Prop} {md : Region.Mode} {S : World → Prop} {K : Act → World → Prop} {fuel : Nat} {listed : Array Bool} {a a' : Act} {w : World} (hK : Shut (∀ a w, S w → (S w → wpAnyH P md ops Q S fuel listed a w) → K a w)) (hS : S w) (h : S w → wpAnyH P md ops Q S fuel listed a' w)
    (ha : a = a' := by (conv => (lhs; try simp only [Act.put, List.setIfInBounds_toArray, List.set_cons_zero, List.set_cons_succ])); (try rfl)) : K a w := by
  subst ha
  exact hK.out _ _ hS h
end Go.Proofs.Ytbfelelngoonjaa
/- Layer oracle: what the layers below give. -/
namespace Go.Proofs.Ytbfelelngoonjaa
open Go.RowKit
set_option maxRecDepth 100000
set_option linter.unusedVariables false
set_option linter.unusedSimpArgs false

/-- A witness' cells. -/
def wtC (sp : Option Addr) (n cap : Nat) (o : List Int) (c : Int) : List Value := .slice sp n cap :: (by8 o ++ [.int .u64 c])
def wtA (sp : Option Addr) (n cap : Nat) (o : List Int) (c : Int) : Array Value := (wtC sp n cap o c).toArray
end Go.Proofs.Ytbfelelngoonjaa
/- Layer oracle: what the layers below give. -/
namespace Go.Proofs.Ytbfelelngoonjaa
open Go.RowKit
set_option maxRecDepth 100000
set_option linter.unusedVariables false
set_option linter.unusedSimpArgs false

/-- A thing: an account, a withdrawal, a root. -/
def thC (a : Ac) (b : Ou) (R : List Int) : List Value := a.cells ++ (b.cells ++ by8 R)
def thA (a : Ac) (b : Ou) (R : List Int) : Array Value := (thC a b R).toArray
end Go.Proofs.Ytbfelelngoonjaa
/- Layer oracle: what the layers below give. -/
namespace Go.Proofs.Ytbfelelngoonjaa
open Go.RowKit
set_option maxRecDepth 100000
set_option linter.unusedVariables false
set_option linter.unusedSimpArgs false

/-- A row and a block of another type. -/
theorem own_arr_ne {w : World} {base e s n g ty : Nat} {v : Value} {xs : List Value} {C : Array Value} (h : w.ownsRow base e s v n xs) (hA : Arr w g ty C) (hne : ty ≠ e) : v.ownBlock ≠ some g := fun q => by
  obtain ⟨-, h' | ⟨g', cap, cur, rfl, hg, hh, -⟩⟩ := h
  · obtain ⟨rfl, -⟩ := h'; cases q
  · have e1 : g' = g := Option.some.inj q
    subst e1
    unfold Arr at hA
    rw [hh] at hA
    have := Option.some.inj hA
    injection this with h1 h2 h3
    exact hne h2.symm
/-- What stays all the way. -/
structure BF (w : World) (ps : List Ac) (sp : Option Addr) (n cap : Nat) (a : Ac) (b : Ou) (R : List Int) (wsp : Option Addr) (wn wcap : Nat) (o : List Int) (c : Int) (b7 b8 : Nat) (W : World) : Prop where
  a3 : Arr W w.heap.size 38 (stA ps sp n cap)
  a7 : Arr W b7 55 (thA a b R)
  a8 : Arr W b8 44 (wtA wsp wn wcap o c)
  bel : Below w.heap.size w W
section
variable {w : World} {ps : List Ac} {sp : Option Addr} {n cap : Nat} {a : Ac} {b : Ou} {R : List Int} {wsp : Option Addr} {wn wcap : Nat} {o : List Int} {c : Int} {b7 b8 : Nat} {W W' : World}
theorem BF.below (h : BF w ps sp n cap a b R wsp wn wcap o c b7 b8 W) (hb : Below W.heap.size W W') : BF w ps sp n cap a b R wsp wn wcap o c b7 b8 W' := ⟨h.a3.bel hb, h.a7.bel hb, h.a8.bel hb, h.bel.trans (hb.mono h.bel.size)⟩
theorem BF.grown {base k : Nat} {v : Value} {xs : List Value} (h : BF w ps sp n cap a b R wsp wn wcap o c b7 b8 W) (ho : W.ownsRow base 71 33 v k xs) (hb : w.heap.size ≤ base) (hg : W.grownBy W' v.ownBlock) : BF w ps sp n cap a b R wsp wn wcap o c b7 b8 W' :=
  ⟨h.a3.grown hg (fun e => own_arr_ne ho h.a3 (by decide) e.symm), h.a7.grown hg (fun e => own_arr_ne ho h.a7 (by decide) e.symm), h.a8.grown hg (fun e => own_arr_ne ho h.a8 (by decide) e.symm), grown_below h.bel hg (fun k hk => by have := own_ge ho k hk; omega) h.bel.size⟩
end
end Go.Proofs.Ytbfelelngoonjaa
/- Layer oracle: what the layers below give. -/
namespace Go.Proofs.Ytbfelelngoonjaa
open Go.RowKit
set_option maxRecDepth 100000
set_option linter.unusedVariables false
set_option linter.unusedSimpArgs false

set_option maxRecDepth 100000 in
set_option maxHeartbeats 400000 in
theorem equal_any (sp sp' : Option Addr) (n n' cap cap' : Nat) (L M : List Int) (N N' : Nat) (w : World) (hS : BS N w sp n cap L) (hS' : BS N' w sp' n' cap' M) :
    Calls Try.prog 65 #[.slice sp n cap, .slice sp' n' cap'] w fun e w' => e = .returned (.bool (decide (L = M))) ∧ w' = w := by
  have c1 := conv_bytes sp n cap L w hS.len.out hS.nil hS.sl
  have c2 := conv_bytes sp' n' cap' M w hS'.len.out hS'.nil hS'.sl
  have E := Hid.mk' (str_eq hS.bts hS'.bts)
  go_enter Try.func65, Try.ntmps65
  go_wp2
  go_ret
  exact ⟨by rw [← E.out]; rfl, rfl⟩
set_option maxRecDepth 100000 in
set_option maxHeartbeats 400000 in
/-- bytes.Clone. -/
theorem clone_any (sp : Option Addr) (n cap : Nat) (L : List Int) (N : Nat) (w : World) (hS : BS N w sp n cap L) :
    Calls Try.prog 30 #[.slice sp n cap] w fun e w' => ∃ v, e = .returned v ∧ w'.ownsRow w.heap.size 5 1 v n (by8 L) ∧ Below w.heap.size w w' := by
  have hn := hS.len
  have hsm := hS.small
  have q22 : ∀ (w : World) (a : Option Addr) (n c n' c' : Nat), (binOp .eql 29 (.slice a n c) (.slice none n' c')).run Try.prog w = .ok (.bool a.isNone) w := fun w a n c n' c' => Lib.run_eql_slice_nil w _ _ a n c n' c' Try.underlying29
  cases sp with
  | none =>
    obtain ⟨rfl, rfl⟩ := hS.nil rfl
    go_enter Try.func30, Try.ntmps30
    go_wp2
    go_ret
    obtain rfl : L = [] := List.eq_nil_of_length_eq_zero hn.out.symm
    exact ⟨_, rfl, World.ownsRow_nil _ _ _ _, Below.refl _ _⟩
  | some ad =>
    have hlit : (w.alloc (.cells #[] 5)).ownsRow w.heap.size 5 1 (.slice (some ⟨w.heap.size, 0, none⟩) 0 0) 0 (by8 []) := World.ownsRow_lit _ _ _ (Nat.le_refl _) (by unfold maxLen; omega) rfl
    have hS' := (hS.here.below ((Below.refl _ _).alloc (Nat.le_refl _) (.cells #[] 5))).sl
    go_enter Try.func30, Try.ntmps30
    go_wp2_with (at_builtin; go_must (refine append_bytes (by rfl) (.tmp 5) (.tmp 6) (by rfl) w.heap.size _ 0 [] (by rfl) hlit (some ad) n cap L (by rfl) hn.out (fun e => by cases e) hS' (by omega) (by simp) ?_; intro v1 w1 hown1 hg1))
    go_ret
    refine ⟨v1, rfl, ?_, ((Below.refl _ _).alloc (Nat.le_refl _) _).grown hg1 (by simp) (fun k e => by simp [Value.ownBlock] at e; omega)⟩
    simpa using hown1
set_option maxRecDepth 100000 in
set_option maxHeartbeats 400000 in
/-- The reference's Copy. -/
theorem copy01_any (sp : Option Addr) (n cap : Nat) (L : List Int) (N : Nat) (w : World) (hS : BS N w sp n cap L) :
    Calls Try.prog 33 #[.slice sp n cap] w fun e w' => ∃ v, e = .returned v ∧ w'.ownsRow w.heap.size 5 1 v n (by8 L) ∧ Below w.heap.size w w' := by
  have hn := hS.len
  have hsm := hS.small
  have hni := hS.nil
  have hlit : (w.alloc (.cells #[] 5)).ownsRow w.heap.size 5 1 (.slice (some ⟨w.heap.size, 0, none⟩) 0 0) 0 (by8 []) := World.ownsRow_lit _ _ _ (Nat.le_refl _) (by unfold maxLen; omega) rfl
  have hS' := (hS.here.below ((Below.refl _ _).alloc (Nat.le_refl _) (.cells #[] 5))).sl
  go_enter Try.func33, Try.ntmps33
  go_wp2_with (at_builtin; go_must (refine append_bytes (by rfl) (.tmp 3) (.tmp 4) (by rfl) w.heap.size _ 0 [] (by rfl) hlit sp n cap L (by rfl) hn.out hni hS' (by omega) (by simp) ?_; intro v1 w1 hown1 hg1))
  go_ret
  refine ⟨v1, rfl, ?_, ((Below.refl _ _).alloc (Nat.le_refl _) _).grown hg1 (by simp) (fun k e => by simp [Value.ownBlock] at e; omega)⟩
  simpa using hown1
end Go.Proofs.Ytbfelelngoonjaa
/- Layer oracle: is there an oracle; a new one; a copy of an entry. -/
namespace Go.Proofs.Ytbfelelngoonjaa
open Go.RowKit
set_option maxRecDepth 100000
set_option linter.unusedVariables false
set_option linter.unusedSimpArgs false


theorem isThere_nil (w : World) : Calls Try.prog 25 #[.pointer none] w fun e w' => e = .returned (.bool false) ∧ w' = w := by
  have q : ∀ w : World, (binOp .neq 24 (.pointer none) (.pointer none)).run Try.prog w = .ok (.bool false) w := fun w => rfl
  go_enter Try.func25, Try.ntmps25
  go_wp2
  go_ret
  exact ⟨rfl, rfl⟩
theorem isThere_any (gO gm : Nat) (w : World) (cg : w.cell? ⟨gO, 0, none⟩ = some (.map (some gm))) : Calls Try.prog 25 #[.pointer (some ⟨gO, 0, none⟩)] w fun e w' => e = .returned (.bool true) ∧ w' = w := by
  have q1 : ∀ w : World, (binOp .neq 24 (.pointer (some ⟨gO, 0, none⟩)) (.pointer none)).run Try.prog w = .ok (.bool true) w := fun w => by kernel_rfl
  have q2 : ∀ w : World, (binOp .neq 66 (.map (some gm)) (.map none)).run Try.prog w = .ok (.bool true) w := fun w => by kernel_rfl
  go_enter Try.func25, Try.ntmps25
  go_wp2
  go_ret
  exact ⟨rfl, rfl⟩
theorem new_any (w : World) : Calls Try.prog 7 #[] w fun e w' => e = .returned (.pointer (some ⟨w.heap.size + 1, 0, none⟩)) ∧ w' = (w.alloc (.map #[] 0)).alloc (.cells #[.map (some w.heap.size), .slice none 0 0] 68) := by
  have hmm := @run_makeMap Try.prog
  have hbt : Try.prog.built 68 [(0, .map (some w.heap.size))] = some #[.map (some w.heap.size), .slice none 0 0] := by rfl
  go_enter Try.func7, Try.ntmps7
  go_wp2_with (refine bdT (by rfl) 68 _ (by rfl) (by rfl) hbt ?_)
  go_ret
  exact ⟨by simp, rfl⟩
theorem all_any (p : Value) (w : World) (hp : ∃ a, p = .pointer a) : Calls Try.prog 34 #[p] w fun e w' => e = .returned (.func (Fn.func 57) #[] #[.pointer (some ⟨w.heap.size, 0, none⟩)]) ∧ w' = w.alloc (.cells #[p] 24) := by
  obtain ⟨a, rfl⟩ := hp
  have hmf : ∀ (fn : Fn) (first cap : Array Value) (w : World), (Instr.makeFunc fn first cap).run Try.prog w = .ok (.func fn first cap) w := fun _ _ _ _ => rfl
  go_enter Try.func34, Try.ntmps34
  go_wp2
  go_ret
  exact ⟨rfl, rfl⟩

theorem y5c {ops : Array Oper} {S : World → Prop} {op : Oper} {a : Act} (hw : Region.wanted op (yielded ops a.tmps) = true) (x : Operand) (ho : op.op = .load 29 x)
    (b o : Nat) (hx : a.eval x = .pointer (some ⟨b, o, none⟩)) (e : En) (hS : ∀ w, S w → w.rangeAt b o e.cells) : YieldsIf Try.prog ops S op (.slice e.sp e.n e.cap) a :=
  .inl ⟨hw, fun w hw => by
    have cc := range_c0 (hS w hw)
    unfold execOp
    simp only [ho, hx]
    go_simp⟩

theorem y_bd {ops : Array Oper} {S : World → Prop} {op : Oper} {a : Act} (hw : Region.wanted op (yielded ops a.tmps) = true) (t : TypeId) (parts : Array (Nat × Operand)) (ho : op.op = .build t parts) {ps : List (Nat × Value)} (hp : parts.toList.map (fun p => (p.1, a.eval p.2)) = ps) {C : Array Value} (hb : Try.prog.built t ps = some C) : YieldsIf Try.prog ops S op (.agg C) a :=
  .inl ⟨hw, fun w _ => by
    have e : (parts.map fun (i, x) => (i, a.eval x)).toList = ps := by rw [Array.toList_map]; exact hp
    unfold execOp
    simp only [ho, Sem.run_bind, run_build w t _ C (by rw [e]; exact hb), Result.andThen_ok, Sem.run_pure]⟩
/-- A copy of an entry. -/
def CoP (e : En) (w : World) (r : Ending) (w' : World) : Prop :=
  ∃ sp cp, r = .returned (.agg (En.arr ⟨sp, e.n, cp, e.bs, e.sm⟩)) ∧ EnOK w'.heap.size w' ⟨sp, e.n, cp, e.bs, e.sm⟩ ∧ (∀ b off, sp = some ⟨b, off, none⟩ → w.heap.size ≤ b ∧ b < w'.heap.size) ∧ Below w.heap.size w w'
set_option maxHeartbeats 1000000 in
theorem copyOf_any (e : En) (N : Nat) (w : World) (he : EnOK N w e) : Calls Try.prog 35 #[.agg e.arr] w (CoP e w) := by
  have he32 := he.s32
  have hBt := he.body.bts
  have hns := he.body.small
  have hzz : (En.arr ⟨none, 0, 0, [], Z32⟩).size = 33 := En.size Z32_len
  have A0 := (Arr.new w 71 e.arr).alloc (.cells (En.arr ⟨none, 0, 0, [], Z32⟩) 71)
  have Z0 := Arr.new (w.alloc (.cells e.arr 71)) 71 (En.arr ⟨none, 0, 0, [], Z32⟩)
  rw [World.size_alloc] at Z0
  have B0 := (alloc_bel' w (.cells e.arr 71)).alloc (by simp) (.cells (En.arr ⟨none, 0, 0, [], Z32⟩) 71)
  have BW := he.here.body.below B0
  have hs0 : ((w.alloc (.cells e.arr 71)).alloc (.cells (En.arr ⟨none, 0, 0, [], Z32⟩) 71)).heap.size = w.heap.size + 2 := by simp
  go_enter Try.func35, Try.ntmps35
  go_upto_region 1 with fail
  rw [← z77]
  generalize (w.alloc (.cells e.arr 71)).alloc (.cells (En.arr ⟨none, 0, 0, [], Z32⟩) 71) = W at *
  clear he
  refine rgn (fun u => Arr u w.heap.size 71 e.arr) A0.drew (fun hS => ?_)
  refine tk 0 rfl ?_
  refine tl 1 rfl (y5c (by rfl) (.tmp 3) rfl w.heap.size 0 rfl e (fun u hu => rangeE hu)) ?_
  refine tk 3 rfl ?_
  refine tl 4 rfl (y24 (by rfl) (.tmp 6) rfl w.heap.size (0 + 1) rfl e.sm he32 (fun u hu => range_sm (rangeE hu))) ?_
  refine rd 2 rfl (fun K hK => ?_)
  go_simp
  have BD : BS w.heap.size W.drew e.sp e.n e.cap e.bs := BW.below (Below.refl _ _).drew
  refine (clone_any e.sp e.n e.cap e.bs _ W.drew BD).mono ?_
  rintro r w4 ⟨vb, rfl, hown4, hb4⟩
  have U4 : Below W.heap.size W w4 := ((Below.refl _ _).drew).trans (hb4.mono (by simp))
  have hob := hown4
  obtain ⟨sp4, cp4, rfl, hB4, hg4⟩ := own_bs hown4 hBt hns
  have hlt4 : ∀ b off, sp4 = some ⟨b, off, none⟩ → b < w4.heap.size := fun b off q => own_lt hob (by rw [q]; rfl)
  clear hob hown4
  go_wp2_with fail
  refine ko hK (A0.below U4 A0.lt) (fun hS => ?_)
  refine tl 5 rfl (y_bd (by rfl) 71 #[(0, .tmp 5), (1, .tmp 7)] rfl (by rfl) (built54 sp4 e.n cp4 e.sm he32 e.bs)) ?_
  have Z4 := Z0.below U4 Z0.lt
  refine rd 6 rfl (fun K hK => ?_)
  refine step_want rfl (wp_store_row 71 (.tmp 2) (.tmp 8) rfl (w.heap.size + 1) (En.arr ⟨sp4, e.n, cp4, e.bs, e.sm⟩) rfl rfl 71 _ Z4 (s54 (e := ⟨sp4, e.n, cp4, e.bs, e.sm⟩) he32) (by rw [En.size (e := ⟨sp4, e.n, cp4, e.bs, e.sm⟩) he32]; exact hzz) (En.oneA _) ?_)
  refine ko hK ((A0.below U4 A0.lt).setRowOther _ (by omega)) (fun hS => ?_)
  refine dn ?_
  have hsz := U4.size
  have Gr := gb_row w4 (w.heap.size + 1) (En.arr ⟨sp4, e.n, cp4, e.bs, e.sm⟩)
  have hne : ∀ b off, sp4 = some ⟨b, off, none⟩ → b ≠ w.heap.size + 1 := fun b off q => by have h1 := (hg4 b off q).1; simp at h1; omega
  go_wp2_with fail
  refine bodyPost_ret (v := .agg (En.arr ⟨sp4, e.n, cp4, e.bs, e.sm⟩)) (res54 (e := ⟨sp4, e.n, cp4, e.bs, e.sm⟩) Try.results35 rfl he32 (Z4.setRow _)) rfl ⟨sp4, cp4, rfl, ⟨(hB4.grown Gr hne).here, he32⟩, fun b off q => by have h1 := (hg4 b off q).1; have h2 := hlt4 b off q; simp at h1; exact ⟨by omega, by simpa using h2⟩, ?_⟩
  exact below_setRow (B0.trans (U4.mono (by omega))) (by omega) _
end Go.Proofs.Ytbfelelngoonjaa
