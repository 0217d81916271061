/- Ch, Tp, Pa. -/
import Derived.Test.YtbfelelngoonjaaX01
import Derived.Test.YtbfelelngoonjaaX02
import Derived.Test.YtbfelelngoonjaaX04
import Derived.Test.YtbfelelngoonjaaX07
import Derived.Test.YtbfelelngoonjaaX05
import Derived.Test.YtbfelelngoonjaaX10
import Derived.Test.YtbfelelngoonjaaX06
import Derived.Test.YtbfelelngoonjaaX12
import Derived.BigQuiet
import Derived.BigRegion
import Derived.ChangeKeysEq
import Derived.Deep.DeepCutAuto
import Derived.Deep.DrawnRows
import Derived.Deep.MidRow
import Derived.Deep.QuietTactic
import Derived.Deep.RegionHeld3
import Derived.Deep.RegionLaw
import Derived.Deep.RegionWith
import Derived.Deep.WholeRow
import Derived.Great.BuildSlice
import Derived.Laws.AppendOwnNone
import Derived.Laws.BitsLemmas
import Derived.Laws.BytesArg
import Derived.Laws.CopyOwn
import Derived.Laws.Tables
import Derived.Lib.SlBytesConst
import Derived.LoopIn
import Derived.LoopNIn
import Derived.Maps.AppendAt
import Derived.OwnWalkIn
import Derived.RangeFuncBound
import Derived.RangeFuncCalls
import Derived.RangeFuncLeaves
import Derived.RangeFuncNested
import Derived.RangeFuncRecord
import Derived.Shelf.Abstract
import Derived.Shelf.RegionOpen
import Derived.TacticsInMore
import Derived.WalkKit
import Derived.WalkLawsBesides
import Derived.WalkSpells
import Derived.Test.YtbfelelngoonjaaX03
import Derived.ChangeOld
import Derived.OpenShut
import Derived.ProofKit
import Derived.ShutString
import Derived.SizedLaws
/- Layer oracle: what the layers below give. -/
namespace Go.Proofs.Ytbfelelngoonjaa
open Go.RowKit
set_option maxRecDepth 100000
set_option linter.unusedVariables false
set_option linter.unusedSimpArgs false

theorem info54 : (Try.prog.info? 71).map (fun i => (i.zero, i.size, i.bytes)) = some (some (.agg (En.arr ⟨none, 0, 0, [], Z32⟩)), 33, 56) := by kernel_rfl
def flatE (es : List En) : List Value := (es.map En.cells).flatten
theorem flatE_app (es : List En) (e : En) : flatE (es ++ [e]) = flatE es ++ e.cells := by simp [flatE]
theorem flatE_len {es : List En} (h : ∀ e ∈ es, e.sm.length = 32) : (flatE es).length = es.length * 33 := by
  induction es with
  | nil => rfl
  | cons a r ih =>
    have := ih (fun x hx => h x (by simp [hx]))
    have ha := En.len (h a (by simp))
    simp only [flatE, List.map_cons, List.flatten_cons, List.length_append, List.length_cons] at this ⊢
    omega
theorem flatE_at {es : List En} (h : ∀ e ∈ es, e.sm.length = 32) {i : Nat} {e : En} (he : es[i]? = some e) {j : Nat} {v : Value} (hv : e.cells[j]? = some v) : (flatE es)[i * 33 + j]? = some v := by
  induction es generalizing i with
  | nil => simp at he
  | cons a r ih =>
    have ha := En.len (h a (by simp))
    have hj : j < 33 := by
      have := (List.getElem?_eq_some_iff.1 hv).1
      rw [En.len (h e (List.mem_of_getElem? he))] at this; exact this
    simp only [flatE, List.map_cons, List.flatten_cons]
    cases i with
    | zero =>
      simp at he
      subst he
      rw [List.getElem?_append_left (by omega)]
      simpa using hv
    | succ i =>
      have := ih (fun x hx => h x (by simp [hx])) (i := i) (by simpa using he)
      rw [List.getElem?_append_right (by omega), ha, show (i + 1) * 33 + j - 33 = i * 33 + j by omega]
      exact this
theorem own_same {w w' : World} {base n e s : Nat} {v : Value} {xs : List Value} (h : w.ownsRow base e s v n xs) (hk : ∀ k, v.ownBlock = some k → w'.heap[k]? = w.heap[k]?) : w'.ownsRow base e s v n xs := by
  refine ⟨h.1, ?_⟩
  rcases h.2 with hn | ⟨g, cap, cur, rfl, hb0, hgg, rest⟩
  · exact .inl hn
  · exact .inr ⟨g, cap, cur, rfl, hb0, by rw [hk g rfl]; exact hgg, rest⟩
theorem own_lt {w : World} {base e s n b : Nat} {v : Value} {xs : List Value} (h : w.ownsRow base e s v n xs) (hb : v.ownBlock = some b) : b < w.heap.size := by
  rcases h.2 with ⟨rfl, -⟩ | ⟨g, cap, cur, rfl, -, hgg, -⟩
  · simp [Value.ownBlock] at hb
  · simp [Value.ownBlock] at hb; subst hb; exact (Array.getElem?_eq_some_iff.1 hgg).1
/-- A slice of entries of the call's own; no bytes lie in it, nor in block ax. -/
structure EO (base ax : Nat) (w : World) (v : Value) (es : List En) : Prop where
  own : w.ownsRow base 71 33 v es.length (flatE es)
  ok : ∀ e ∈ es, EnOK w.heap.size w e
  ap : ∀ e ∈ es, ∀ b off, e.sp = some ⟨b, off, none⟩ → base ≤ b ∧ b < w.heap.size ∧ some b ≠ v.ownBlock ∧ b ≠ ax
theorem EO.below {base ax : Nat} {w w' : World} {v : Value} {es : List En} (h : EO base ax w v es) (hb : Below w.heap.size w w') : EO base ax w' v es :=
  ⟨own_same h.own (fun k hk => hb.block k (own_lt h.own hk)), fun e he => ((h.ok e he).below hb).mono hb.size, fun e he b off hs => by have := h.ap e he b off hs; have := hb.size; exact ⟨by omega, by omega, (h.ap e he b off hs).2.2⟩⟩
theorem EO.grown {base ax : Nat} {w w' : World} {v : Value} {es : List En} (h : EO base ax w v es) (hg : w.grownBy w' (some ax)) (hv : v.ownBlock ≠ some ax) : EO base ax w' v es :=
  ⟨own_same h.own (fun k hk => hg.block k (own_lt h.own hk) (fun e => hv (hk.trans e))), fun e he => ⟨((h.ok e he).body.grown hg (fun b off hs => (h.ap e he b off hs).2.2.2)).mono hg.size, (h.ok e he).s32⟩, fun e he b off hs => by have := h.ap e he b off hs; have := hg.size; exact ⟨by omega, by omega, (h.ap e he b off hs).2.2⟩⟩
theorem EO.s32 {base ax : Nat} {w : World} {v : Value} {es : List En} (h : EO base ax w v es) : ∀ e ∈ es, e.sm.length = 32 := fun e he => (h.ok e he).s32
theorem EO.nil (base ax : Nat) (w : World) : EO base ax w (.slice none 0 0) [] := ⟨World.ownsRow_nil _ _ _ _, (fun e he => by cases he), (fun e he => by cases he)⟩
/-- .. as a slice of entries. -/
theorem EO.es {base ax : Nat} {w : World} {v : Value} {es : List En} (h : EO base ax w v es) (hn : es.length ≤ 140737488355328) : ∃ sp cap, v = .slice sp es.length cap ∧ ES w.heap.size w sp es.length cap es := by
  obtain ⟨-, h' | ⟨g, cap, cur, rfl, hg, hh, hnc, hcm, hc, ht⟩⟩ := h.own
  · obtain ⟨rfl, h0⟩ := h'
    obtain rfl : es = [] := List.eq_nil_of_length_eq_zero h0
    exact ⟨none, 0, rfl, ES.nil0 _ _⟩
  · refine ⟨_, cap, rfl, ⟨rfl, (fun e => by cases e), hnc, by unfold maxLen at hcm; omega, hn, fun h0 => ⟨g, 0, rfl, (Array.getElem?_eq_some_iff.1 hh).1, fun i e he j u hu => ?_⟩, h.ok⟩⟩
    have hi := (List.getElem?_eq_some_iff.1 he).1
    have hj : j < 33 := by
      have := (List.getElem?_eq_some_iff.1 hu).1
      rw [En.len (h.s32 e (List.mem_of_getElem? he))] at this; exact this
    rw [Nat.zero_add, cell_of_row w g _ cur 71 (0, 0) hh, ← Array.getElem?_toList, ← List.getElem?_take_of_lt (show i * 33 + j < es.length * 33 by omega), ht]
    exact flatE_at h.s32 he hu
/-- An entry appended. -/
theorem wp_appE {o : Oper} {a : Act} {w : World} {K : Act → World → Prop} {Q : Exit → Act → World → Prop} (s x : Operand) (ho : o.op = .call { callee := .builtin .append, args := #[s, x], argTypes := #[26, 26] })
    (base ax : Nat) (v : Value) (es : List En) (e : En) (hs : a.eval s = v) (hE : EO base ax w v es) (gx c : Nat) (hx : a.eval x = .slice (some ⟨gx, 0, none⟩) 1 c) (hA : Arr w gx 71 e.arr) (he : EnOK w.heap.size w e)
    (hap : ∀ b off, e.sp = some ⟨b, off, none⟩ → base ≤ b ∧ b < w.heap.size ∧ some b ≠ v.ownBlock ∧ b ≠ ax) (hk : es.length ≤ 1000000000) (hbase : base ≤ w.heap.size)
    (h : ∀ v' w', EO base ax w' v' (es ++ [e]) → w.grownBy w' v.ownBlock → (v'.ownBlock = v.ownBlock ∨ v'.ownBlock = some w.heap.size) → K (a.put o.dst v') w') : o.wp Try.prog a w K Q := by
  obtain ⟨i0, hi0, hz0, hz1, hz2⟩ := info_parts info54
  obtain ⟨v', w', hr, h2, h3, h4, h5⟩ := run_append_own_at (P := Try.prog) w base 26 o.type 71 i0 (.agg (En.arr ⟨none, 0, 0, [], Z32⟩)) 33 56 Try.underlying26 hi0 hz0 hz1 hz2 (En.size (e := ⟨none, 0, 0, [], Z32⟩) Z32_len) (by omega) v es.length _ hE.own ⟨gx, 0, none⟩ 1 c e.cells (by rw [En.len he.s32]) (fun j u hj => by
    rw [Addr.add_mid]; exact rangeE hA j u hj) e.one (by unfold maxLen; omega) (by omega) hbase
  unfold Oper.wp execOp
  simp only [ho, resolve, invoke, builtin, Sem.run_bind, Sem.run_pure, Result.andThen_ok, List.map_toArray, List.map_cons, List.map_nil, hs, hx, hr]
  have hne : ∀ b, b < w.heap.size → some b ≠ v.ownBlock → some b ≠ v'.ownBlock := fun b hb h' e' => by
    rcases h5 with h5 | h5
    · exact h' (e'.trans h5)
    · rw [h5] at e'; have := Option.some.inj e'; omega
  have keep : ∀ f : En, EnOK w.heap.size w f → (∀ b off, f.sp = some ⟨b, off, none⟩ → some b ≠ v.ownBlock) → EnOK w'.heap.size w' f := fun f hf hb => by
    refine ⟨⟨hf.body.len, hf.body.nil, hf.body.le, hf.body.big, hf.body.small, fun h0 => ?_, hf.body.bts⟩, hf.s32⟩
    obtain ⟨b, off, e1, hbN, hB⟩ := hf.body.at0 h0
    refine ⟨b, off, e1, Nat.lt_of_lt_of_le hbN h3.size, fun t ht => ?_⟩
    rw [World.cell?_of_block (w := w) (a := ⟨b, off + t, none⟩) (h3.block b hbN (hb b off e1))]
    exact hB t ht
  refine h v' w' ⟨?_, fun f hf => ?_, fun f hf b off hs' => ?_⟩ h3 h5
  · rw [flatE_app, List.length_append]; exact h2
  · rcases List.mem_append.1 hf with hf | hf
    · exact keep f (hE.ok f hf) (fun b off e1 => (hE.ap f hf b off e1).2.2.1)
    · simp at hf; subst hf; exact keep f he (fun b off e1 => (hap b off e1).2.2.1)
  · have := h3.size
    rcases List.mem_append.1 hf with hf | hf
    · obtain ⟨a1, a2, a3, a4⟩ := hE.ap f hf b off hs'
      exact ⟨a1, by omega, hne b a2 a3, a4⟩
    · simp at hf; subst hf
      obtain ⟨a1, a2, a3, a4⟩ := hap b off hs'
      exact ⟨a1, by omega, hne b a2 a3, a4⟩
theorem appE {ops : Array Oper} {rest : List Oper} {o : Oper} {a : Act} {w : World} {Q : Exit → Act → World → Prop} (hgd : o.guard = none) (s x : Operand) (ho : o.op = .call { callee := .builtin .append, args := #[s, x], argTypes := #[26, 26] })
    (base ax : Nat) (v : Value) (es : List En) (e : En) (hs : a.eval s = v) (hE : EO base ax w v es) (gx c : Nat) (hx : a.eval x = .slice (some ⟨gx, 0, none⟩) 1 c) (hA : Arr w gx 71 e.arr) (he : EnOK w.heap.size w e)
    (hap : ∀ b off, e.sp = some ⟨b, off, none⟩ → base ≤ b ∧ b < w.heap.size ∧ some b ≠ v.ownBlock ∧ b ≠ ax) (hk : es.length ≤ 1000000000) (hbase : base ≤ w.heap.size)
    (h : ∀ v' w', EO base ax w' v' (es ++ [e]) → w.grownBy w' v.ownBlock → (v'.ownBlock = v.ownBlock ∨ v'.ownBlock = some w.heap.size) → wpList Try.prog ops Q rest (a.put o.dst v') w') : wpList Try.prog ops Q (o :: rest) a w :=
  wpList_plain hgd fun _ hK => wp_appE s x ho base ax v es e hs hE gx c hx hA he hap hk hbase fun v' w' h1 h2 h3 => hK _ _ (h v' w' h1 h2 h3)
theorem apart {base ax : Nat} {v : Value} {sp : Option Addr} {n cap : Nat} {L : List Int} {N M K : Nat} {w : World} (hb : BS N w sp n cap L) (hn : 0 < n) (hg : ∀ g off, sp = some ⟨g, off, none⟩ → M ≤ g) (hob : ∀ k, v.ownBlock = some k → k < M) (hbase : base ≤ M) (hax : ax < M) (hNK : N ≤ K) : ∀ b off, sp = some ⟨b, off, none⟩ → base ≤ b ∧ b < K ∧ some b ≠ v.ownBlock ∧ b ≠ ax := by
  intro b off e
  have h1 := hg b off e
  obtain ⟨b', off', e', hb', -⟩ := hb.at0 hn
  rw [e] at e'; cases e'
  exact ⟨by omega, by omega, fun h' => by have := hob b h'.symm; omega, by omega⟩
/-- A literal of one entry. -/
theorem wp_bldE {o : Oper} {a : Act} {w : World} {K : Act → World → Prop} {Q : Exit → Act → World → Prop} (x : Operand) (ho : o.op = .buildSlice 26 1 #[(0, x)]) (e : En) (hx : a.eval x = .agg e.arr) (he : e.sm.length = 32)
    (h : K (a.put o.dst (.slice (some ⟨w.heap.size, 0, none⟩) 1 1)) (w.alloc (.cells e.arr 71))) : o.wp Try.prog a w K Q := by
  obtain ⟨i0, hi0, hz0, hz1, hz2⟩ := info_parts info54
  refine wp_buildSlice 26 71 1 _ ho e.arr i0 (.agg (En.arr ⟨none, 0, 0, [], Z32⟩)) Try.underlying26 hi0 hz0 (by rw [hz1]; omega) (by rw [hz1]; omega) ?_ h
  have e1 : (#[(0, x)].map fun (p : Nat × Operand) => (p.1, a.eval p.2)).toList = ([Value.agg e.arr].zipIdx 0).map fun x => (x.2, x.1) := by simp [hx]
  rw [hz1]
  refine Eq.trans (congrArg _ e1) ?_
  rw [Great.fill_whole (s := 33) (by omega) [.agg e.arr] _ (fun v hv => by simp only [List.mem_singleton] at hv; rw [hv]; exact En.size he) (by simp)]
  simp [Value.cells, En.arr]
theorem bldE {ops : Array Oper} {rest : List Oper} {o : Oper} {a : Act} {w : World} {Q : Exit → Act → World → Prop} (hgd : o.guard = none) (x : Operand) (ho : o.op = .buildSlice 26 1 #[(0, x)]) (e : En) (hx : a.eval x = .agg e.arr) (he : e.sm.length = 32)
    (h : wpList Try.prog ops Q rest (a.put o.dst (.slice (some ⟨w.heap.size, 0, none⟩) 1 1)) (w.alloc (.cells e.arr 71))) : wpList Try.prog ops Q (o :: rest) a w :=
  wpList_plain hgd fun _ hK => wp_bldE x ho e hx he (hK _ _ h)
/-- A path: the bytes of each level. -/
def pth : Nat → List Int → List (List Int) → List (List Int)
  | _, _, [] => []
  | m, X, Y :: r => pb m X Y :: pth (m / 2) (shl (pb m X Y)) r
theorem pth_len (m : Nat) (X : List Int) (ls : List (List Int)) : (pth m X ls).length = ls.length := by
  induction ls generalizing m X with
  | nil => rfl
  | cons Y r ih => simp [pth, ih]
/-- The node at level j. -/
def nd : Nat → List Int → List (List Int) → Nat → List Int
  | _, X, _, 0 => X
  | _, X, [], _ => X
  | m, X, Y :: r, j + 1 => nd (m / 2) (shl (pb m X Y)) r j
theorem nd_len {m : Nat} {X : List Int} {ls : List (List Int)} (hX : X.length = 32) (j : Nat) : (nd m X ls j).length = 32 := by
  induction ls generalizing m X j with
  | nil => cases j <;> exact hX
  | cons Y r ih =>
    cases j with
    | zero => exact hX
    | succ j => exact ih (shl_len _) j
theorem nd_bts {m : Nat} {X : List Int} {ls : List (List Int)} (hX : Bts X) (j : Nat) : Bts (nd m X ls j) := by
  induction ls generalizing m X j with
  | nil => cases j <;> exact hX
  | cons Y r ih =>
    cases j with
    | zero => exact hX
    | succ j => exact ih (shl_bts _) j
theorem nd_succ {m : Nat} {X Y : List Int} {ls : List (List Int)} {j : Nat} (h : ls[j]? = some Y) : nd m X ls (j + 1) = shl (pb (m / 2 ^ j) (nd m X ls j) Y) := by
  induction ls generalizing m X j with
  | nil => simp at h
  | cons Z r ih =>
    cases j with
    | zero => simp at h; subst h; simp [nd]
    | succ j =>
      have := ih (m := m / 2) (X := shl (pb m X Z)) (j := j) (by simpa using h)
      rw [nd, this, Nat.div_div_eq_div_mul, Nat.mul_comm 2, ← Nat.pow_succ]
      rfl
theorem pth_get {m : Nat} {X Y : List Int} {ls : List (List Int)} {j : Nat} (h : ls[j]? = some Y) : (pth m X ls)[j]? = some (pb (m / 2 ^ j) (nd m X ls j) Y) := by
  induction ls generalizing m X j with
  | nil => simp at h
  | cons Z r ih =>
    cases j with
    | zero => simp at h; subst h; simp [pth, nd]
    | succ j =>
      have := ih (m := m / 2) (X := shl (pb m X Z)) (j := j) (by simpa using h)
      simp only [pth, List.getElem?_cons_succ]
      rw [this, Nat.div_div_eq_div_mul, Nat.mul_comm 2, ← Nat.pow_succ]
      rfl
theorem fo_nd (m : Nat) (X : List Int) (ls : List (List Int)) : fo m X ls = nd m X ls ls.length := by
  induction ls generalizing m X with
  | nil => rfl
  | cons Y r ih =>
    rw [fo, ih, List.length_cons, nd]
    congr 1
    unfold pb pr
    by_cases h : m % 2 = 1
    · rw [if_pos h, if_neg (by omega)]
    · rw [if_neg h, if_pos (by omega)]
theorem take_succ' {α : Type} {l : List α} {j : Nat} {a : α} (h : l[j]? = some a) : l.take (j + 1) = l.take j ++ [a] := by
  rw [List.take_add_one, h]; rfl
/-- What Path answers. -/
def PaPost (i : Int) (X : List Int) (ls : List (List Int)) (w : World) (r : Ending) (w' : World) : Prop :=
  ∃ sp n cap es, r = .returned (.tuple #[.slice sp n cap, .int .i64 (foE i ls)]) ∧ ES w'.heap.size w' sp n cap es ∧ Hid (es.map En.bs = if FoOK i ls.length then pth i.toNat X ls else []) ∧ Hid (∀ e ∈ es, e.sm = shl e.bs) ∧ (∀ b off, sp = some ⟨b, off, none⟩ → w.heap.size ≤ b) ∧ Below w.heap.size w w'
end Go.Proofs.Ytbfelelngoonjaa
/- Layer oracle: what the layers below give. -/
namespace Go.Proofs.Ytbfelelngoonjaa
open Go.ChangeAt Go.ChangeShapes Go.RowKit Go.WideShapes
set_option maxRecDepth 100000
set_option linter.unusedVariables false
set_option linter.unusedSimpArgs false

theorem own : ownKnob Try.prog.godebug = none := by kernel_rfl
theorem bytes5 : Try.prog.bytesOf 5 = 1 := by kernel_rfl
/-- A SLICE OF BYTES THAT CAME IN. -/
theorem open_bytes {H : Type} {enc : TypeId × Value → H} {W : World} {base : Nat} {b0 : Nat} {v : Value} {d : DataW H} {p : List MemPlace} {ts : List TypeId} {ds : List (DataW H)} {j : Nat}
    (hv : Value.okWide Try.prog W .any b0 29 v) (h : DataW.Trod enc Try.prog W base (fun _ => true) true 29 v d p)
    (hsz : (DataW.weightsEach Try.prog ts ds).all (· ≤ reachBytes) = true) (ht : ts[j]? = some 29) (hd : ds[j]? = some d) :
    ∃ (sp : Option Addr) (n cap : Nat) (L : List Int), v = .slice sp n cap ∧ n = L.length ∧ (sp = none → n = 0 ∧ cap = 0) ∧ SlL W sp L ∧ n ≤ cap ∧ cap ≤ 140737488351232 ∧ ∀ x ∈ L, (Lit.int .u8 x).wf = true := by
  obtain ⟨a0, len0, cap0, rfl⟩ := okWide_slice Try.underlying29 hv
  obtain ⟨fuel, hf⟩ := h
  rcases open_ints Try.underlying29 Try.underlying5 (by kernel_rfl) hf with ⟨hcs, _⟩ | ⟨x, l, c, zs, hcs, _, hl, hm, hz, hx, hcell, hwz⟩
  · simp [Value.cells] at hcs
    obtain ⟨rfl, rfl, rfl⟩ := hcs
    exact ⟨none, 0, 0, [], rfl, rfl, fun _ => ⟨rfl, rfl⟩, fun h => absurd h (by simp), Nat.le_refl _, by omega, by simp⟩
  · simp [Value.cells] at hcs
    obtain ⟨rfl, rfl, rfl⟩ := hcs
    have hz' : zs.length = cap0 := by simpa using hz
    have hd' : d = .slice (lits .u8 (zs.take len0)) (lits .u8 (zs.drop len0)) := (Prod.ext_iff.1 hx).1
    subst hd'
    have hr := sized_slice hsz ht hd Try.underlying29
    rw [bytes5] at hr
    simp only [lits, List.length_map, List.length_take, List.length_drop, reachBytes] at hr
    refine ⟨some x, len0, cap0, zs.take len0, rfl, by simp; omega, (fun h => by cases h), ?_, hl, by omega, fun y hy => hwz y (List.mem_of_mem_take hy)⟩
    intro h0
    have h0' : 0 < zs.length := by simp at h0; omega
    obtain ⟨b, off, rfl, hc⟩ := ints_at hcell h0'
    refine ⟨b, off, rfl, fun t ht => ?_⟩
    have htl : t < len0 := by simp at ht; omega
    rw [hc t (by omega)]
    simp [bat, List.getElem?_take_of_lt htl]
end Go.Proofs.Ytbfelelngoonjaa
/- Layer oracle: what the layers below give. -/
namespace Go.Proofs.Ytbfelelngoonjaa
open Go.RowKit
set_option maxRecDepth 100000
set_option linter.unusedVariables false
set_option linter.unusedSimpArgs false

/-- A number in eight bytes. -/
def e8 (n : Int) : List Int := (List.range 8).map fun j => n / 2 ^ (56 - 8 * j) % 256
theorem e8_len (n : Int) : (e8 n).length = 8 := by simp [e8]
/-- An account. -/
structure Ac where
  bal : Int
  non : Int
  lk : List Int
structure Ou where
  tw : Int
  am : Int
/-- Its bytes. -/
def acb (a : Ac) : List Int := e8 a.bal ++ e8 a.non ++ a.lk
def oub (o : Ou) : List Int := e8 o.tw ++ e8 o.am
/-- A leaf. -/
def lf (b : List Int) : List Int := shl (0 :: b)
def al (ps : List Ac) : List (List Int) := ps.map fun a => lf (acb a)
def ol (os : List Ou) : List (List Int) := os.map fun o => lf (oub o)
theorem lf_len (b : List Int) : (lf b).length = 32 := shl_len _
theorem al_len (ps : List Ac) : (al ps).length = ps.length := by simp [al]
theorem ol_len (os : List Ou) : (ol os).length = os.length := by simp [ol]
theorem al_32 (ps : List Ac) : ∀ x ∈ al ps, x.length = 32 := by
  intro x hx; simp only [al, List.mem_map] at hx; obtain ⟨a, -, rfl⟩ := hx; exact lf_len _
theorem ol_32 (os : List Ou) : ∀ x ∈ ol os, x.length = 32 := by
  intro x hx; simp only [ol, List.mem_map] at hx; obtain ⟨a, -, rfl⟩ := hx; exact lf_len _
/-- The sum that stands for a number. -/
def cnt (n : Int) : List Int := List.replicate 24 0 ++ e8 n
theorem cnt_len (n : Int) : (cnt n).length = 32 := by simp [cnt, e8_len]
/-- All balances together. -/
def tt : List Ac → Int → Option Int
  | [], t => some t
  | a :: r, t => if a.bal > 4611686018427387904 - t then none else tt r (t + a.bal)
/-- The root of both trees' roots and the number. -/
def jn (a o : List Int) (n : Int) : List Int := pr (pr a o) (cnt n)
theorem jn_len (a o : List Int) (n : Int) : (jn a o n).length = 32 := pr_len _ _
def may (ps : List Ac) (n : Nat) : Bool := (tt ps 0).isSome && decide (n ≤ 32)
/-- The bytes of the pairs of a level. -/
def lvl : List (List Int) → List (List Int)
  | x :: y :: r => (1 :: (x ++ y)) :: lvl r
  | _ => []
/-- .. of all levels. -/
def prs : Nat → List (List Int) → List (List Int)
  | 0, _ => []
  | d + 1, l => lvl l ++ prs d ((lvl l).map shl)
def pad (l : List (List Int)) : List (List Int) := l ++ List.replicate (32 - l.length) Z32
theorem pad_len {l : List (List Int)} (h : l.length ≤ 32) : (pad l).length = 32 := by simp [pad]; omega
theorem pad_32 {l : List (List Int)} (h : ∀ x ∈ l, x.length = 32) : ∀ x ∈ pad l, x.length = 32 := by
  intro x hx
  rcases List.mem_append.1 hx with h1 | h1
  · exact h x h1
  · rw [(List.mem_replicate.1 h1).2]; exact Z32_len
theorem pad_tr (d : Nat) (l : List (List Int)) : tr d (pad l) = tr d l := tr_pad d l _
theorem lvl_len : ∀ (k : Nat) (l : List (List Int)), l.length = 2 * k → (lvl l).length = k
  | 0, l, h => by
    have : l = [] := List.eq_nil_of_length_eq_zero (by omega)
    subst this; rfl
  | k + 1, x :: y :: r, h => by
    simp only [lvl, List.length_cons] at h ⊢
    rw [lvl_len k r (by omega)]
  | k + 1, [], h => by simp at h
  | k + 1, [x], h => by simp at h; omega
theorem lvl_get : ∀ (l : List (List Int)) (i : Nat) (x y : List Int), l[2 * i]? = some x → l[2 * i + 1]? = some y → (lvl l)[i]? = some (1 :: (x ++ y))
  | [], i, x, y, hx, hy => by simp at hx
  | [z], 0, x, y, hx, hy => by simp at hy
  | [z], i + 1, x, y, hx, hy => by simp at hx
  | a :: b :: r, 0, x, y, hx, hy => by
    simp at hx hy; subst hx; subst hy; simp [lvl]
  | a :: b :: r, i + 1, x, y, hx, hy => by
    have e1 : 2 * (i + 1) = 2 * i + 1 + 1 := by omega
    rw [e1] at hx hy
    simp only [lvl, List.getElem?_cons_succ] at hx hy ⊢
    exact lvl_get r i x y hx hy
theorem lvl_drop : ∀ (k : Nat) (l : List (List Int)), lvl (l.drop (2 * k)) = (lvl l).drop k
  | 0, l => by simp
  | k + 1, [] => by simp [lvl]
  | k + 1, [x] => by
    rw [List.drop_eq_nil_of_le (by simp; omega)]; simp [lvl]
  | k + 1, x :: y :: r => by
    rw [show 2 * (k + 1) = 2 * k + 1 + 1 by omega]
    simp only [List.drop_succ_cons, lvl]
    exact lvl_drop k r
/-- A level up. -/
theorem tr_lvl (d : Nat) : ∀ l : List (List Int), 2 ^ (d + 1) ≤ l.length → tr (d + 1) l = tr d ((lvl l).map shl) := by
  induction d with
  | zero =>
    intro l h
    match l, h with
    | x :: y :: r, _ => simp [tr, lvl, pr]
  | succ d ih =>
    intro l h
    have h2 : 2 ^ (d + 1 + 1) = 2 ^ (d + 1) + 2 ^ (d + 1) := by rw [Nat.pow_succ 2 (d + 1)]; omega
    rw [tr_succ (d + 1), ih l (by omega), ih (l.drop (2 ^ (d + 1))) (by rw [List.length_drop]; omega), tr_succ d]
    rw [← List.map_drop, ← lvl_drop, Nat.pow_succ, Nat.mul_comm 2]
theorem prs_len (d : Nat) : ∀ l : List (List Int), l.length = 2 ^ d → (prs d l).length + 1 = 2 ^ d := by
  induction d with
  | zero => intro l h; rfl
  | succ d ih =>
    intro l h
    have h1 := lvl_len (2 ^ d) l (by rw [h, Nat.pow_succ]; omega)
    have h2 := ih ((lvl l).map shl) (by simp [h1])
    simp only [prs, List.length_append, h1]
    rw [Nat.pow_succ]; omega
/-- All that is summed. -/
def knB (ps : List Ac) (os : List Ou) : List (List Int) :=
  ps.map (fun a => 0 :: acb a) ++ os.map (fun o => 0 :: oub o) ++ prs 5 (pad (al ps)) ++ prs 5 (pad (ol os)) ++
    [1 :: (tr 5 (al ps) ++ tr 5 (ol os)), 1 :: (pr (tr 5 (al ps)) (tr 5 (ol os)) ++ cnt os.length)]
theorem knB_len {ps : List Ac} {os : List Ou} (ha : ps.length = 32) (ho : os.length ≤ 32) : (knB ps os).length = 96 + os.length := by
  have h1 := prs_len 5 (pad (al ps)) (pad_len (by rw [al_len]; omega))
  have h2 := prs_len 5 (pad (ol os)) (pad_len (by rw [ol_len]; omega))
  simp only [knB, List.length_append, List.length_map, List.length_cons, List.length_nil]
  omega
/-- The root. -/
def rtS (ps : List Ac) (os : List Ou) : List Int := jn (tr 5 (al ps)) (tr 5 (ol os)) os.length
end Go.Proofs.Ytbfelelngoonjaa
