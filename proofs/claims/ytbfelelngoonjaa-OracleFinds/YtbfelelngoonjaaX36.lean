/- Sr, Sg. -/
import Derived.Test.YtbfelelngoonjaaX01
import Derived.Test.YtbfelelngoonjaaX02
import Derived.Test.YtbfelelngoonjaaX04
import Derived.Test.YtbfelelngoonjaaX06
import Derived.Test.YtbfelelngoonjaaX10
import Derived.Test.YtbfelelngoonjaaX13
import Derived.Test.YtbfelelngoonjaaX14
import Derived.Test.YtbfelelngoonjaaX17
import Derived.Test.YtbfelelngoonjaaX18
import Derived.Test.YtbfelelngoonjaaX19
import Derived.Test.YtbfelelngoonjaaX21
import Derived.Test.YtbfelelngoonjaaX23
import Derived.BigQuiet
import Derived.BigRegion
import Derived.ChangeKeysEq
import Derived.Deep.DeepCutAuto
import Derived.Deep.DrawnRows
import Derived.Deep.MidRow
import Derived.Deep.QuietTactic
import Derived.Deep.RegionHeld3
import Derived.Deep.RegionLaw
import Derived.Deep.RegionWith
import Derived.Deep.WholeRow
import Derived.Great.BuildSlice
import Derived.Great.FillDense
import Derived.Laws.AppendOwnNone
import Derived.Laws.BitsLemmas
import Derived.Laws.BytesArg
import Derived.Laws.CopyOwn
import Derived.Laws.CopyRow
import Derived.Laws.MakeOwn
import Derived.Laws.OwnMore
import Derived.Laws.Tables
import Derived.Lib.AppendZeros
import Derived.Lib.SlBytesConst
import Derived.LoopIn
import Derived.LoopNIn
import Derived.Maps.AppendAt
import Derived.OwnWalkIn
import Derived.RangeFuncBound
import Derived.RangeFuncCalls
import Derived.RangeFuncLeaves
import Derived.RangeFuncNested
import Derived.RangeFuncRecord
import Derived.Shelf.Abstract
import Derived.Shelf.RegionOpen
import Derived.TacticsInMore
import Derived.WalkKit
import Derived.WalkLawsBesides
import Derived.WalkSpells
import Derived.Test.YtbfelelngoonjaaX03
import Derived.Test.YtbfelelngoonjaaX05
import Derived.Test.YtbfelelngoonjaaX12
import Derived.Test.YtbfelelngoonjaaX16
import Derived.Test.YtbfelelngoonjaaX20
import Derived.Test.YtbfelelngoonjaaX22
import Derived.Test.YtbfelelngoonjaaX33
import Derived.Test.YtbfelelngoonjaaX24
/- Layer oracle: what the layers below give. -/
namespace Go.Proofs.Ytbfelelngoonjaa
open Go.RowKit
set_option maxRecDepth 100000
set_option linter.unusedVariables false
set_option linter.unusedSimpArgs false

theorem flatE_app2 (es fs : List En) : flatE (es ++ fs) = flatE es ++ flatE fs := by simp [flatE]
theorem flatE_of {es : List En} (hl : ∀ e ∈ es, e.sm.length = 32) {j : Nat} {v : Value} (h : (flatE es)[j]? = some v) : ∃ e, es[j / 33]? = some e ∧ e.cells[j % 33]? = some v := by
  have hj := (List.getElem?_eq_some_iff.1 h).1
  rw [flatE_len hl] at hj
  have hd : j / 33 < es.length := by omega
  obtain ⟨X, hX⟩ : ∃ X, es[j / 33]? = some X := ⟨es[j / 33], List.getElem?_eq_getElem hd⟩
  have h32 := En.len (hl X (List.mem_of_getElem? hX))
  have hm : j % 33 < 33 := Nat.mod_lt _ (by omega)
  have hc : j % 33 < X.cells.length := by omega
  have h1 := flatE_at hl hX (List.getElem?_eq_getElem hc)
  rw [Nat.div_add_mod' j 33, h] at h1
  exact ⟨X, hX, by rw [List.getElem?_eq_getElem hc, Option.some.inj h1]⟩
theorem flatE_one (es : List En) : ∀ v ∈ flatE es, v.oneCell' = true := by
  intro v hv
  simp only [flatE, List.mem_flatten, List.mem_map] at hv
  obtain ⟨l, ⟨e, -, rfl⟩, hv⟩ := hv
  exact e.one v hv
theorem wp_appEs {o : Oper} {a : Act} {w : World} {K : Act → World → Prop} {Q : Exit → Act → World → Prop} (s x : Operand) (ho : o.op = .call { callee := .builtin .append, args := #[s, x], argTypes := #[26, 26] })
    (base ax : Nat) (v : Value) (es fs : List En) (hs : a.eval s = v) (hE : EO base ax w v es) (gx ox m c : Nat) (hm : m = fs.length) (hx : a.eval x = .slice (some ⟨gx, ox, none⟩) m c) (hR : ∀ i e, fs[i]? = some e → w.rangeAt gx (ox + i * 33) e.cells) (hF : ∀ e ∈ fs, EnOK w.heap.size w e)
    (hap : ∀ e ∈ fs, ∀ b off, e.sp = some ⟨b, off, none⟩ → base ≤ b ∧ b < w.heap.size ∧ some b ≠ v.ownBlock ∧ b ≠ ax) (hk : es.length ≤ 1000000) (hk2 : m ≤ 1000000) (hbase : base ≤ w.heap.size)
    (h : ∀ v' w', EO base ax w' v' (es ++ fs) → w.grownBy w' v.ownBlock → (v'.ownBlock = v.ownBlock ∨ v'.ownBlock = some w.heap.size) → K (a.put o.dst v') w') : o.wp Try.prog a w K Q := by
  obtain ⟨i0, hi0, hz0, hz1, hz2⟩ := info_parts info54
  have hf32 : ∀ e ∈ fs, e.sm.length = 32 := fun e he => (hF e he).s32
  obtain ⟨v', w', hr, h2, h3, h4, h5⟩ := run_append_own_at (P := Try.prog) w base 26 o.type 71 i0 (.agg (En.arr ⟨none, 0, 0, [], Z32⟩)) 33 56 Try.underlying26 hi0 hz0 hz1 hz2 (En.size (e := ⟨none, 0, 0, [], Z32⟩) Z32_len) (by omega) v es.length _ hE.own ⟨gx, ox, none⟩ m c (flatE fs) (by rw [flatE_len hf32, hm]) (fun j u hj => by
    obtain ⟨e, he, hc⟩ := flatE_of hf32 hj
    rw [Addr.add_mid]
    have := hR _ e he _ u hc
    rw [Nat.add_assoc, Nat.div_add_mod' j 33] at this
    exact this) (flatE_one fs) (by unfold maxLen; omega) (by omega) hbase
  unfold Oper.wp execOp
  simp only [ho, resolve, invoke, builtin, Sem.run_bind, Sem.run_pure, Result.andThen_ok, List.map_toArray, List.map_cons, List.map_nil, hs, hx, hr]
  have hne : ∀ b, b < w.heap.size → some b ≠ v.ownBlock → some b ≠ v'.ownBlock := fun b hb h' e' => by
    rcases h5 with h5 | h5
    · exact h' (e'.trans h5)
    · rw [h5] at e'; have := Option.some.inj e'; omega
  have keep : ∀ f : En, EnOK w.heap.size w f → (∀ b off, f.sp = some ⟨b, off, none⟩ → some b ≠ v.ownBlock) → EnOK w'.heap.size w' f := fun f hf hb => (hf.far h3 (Nat.le_refl _) hb).mono h3.size
  have hz := h3.size
  refine h v' w' ⟨?_, fun f hf => ?_, fun f hf b off hs' => ?_⟩ h3 h5
  · rw [flatE_app2, List.length_append, ← hm]; exact h2
  · rcases List.mem_append.1 hf with hf | hf
    · exact keep f (hE.ok f hf) (fun b off e1 => (hE.ap f hf b off e1).2.2.1)
    · exact keep f (hF f hf) (fun b off e1 => (hap f hf b off e1).2.2.1)
  · rcases List.mem_append.1 hf with hf | hf
    · obtain ⟨a1, a2, a3, a4⟩ := hE.ap f hf b off hs'
      exact ⟨a1, by omega, hne b a2 a3, a4⟩
    · obtain ⟨a1, a2, a3, a4⟩ := hap f hf b off hs'
      exact ⟨a1, by omega, hne b a2 a3, a4⟩
theorem appEs {ops : Array Oper} {rest : List Oper} {o : Oper} {a : Act} {w : World} {Q : Exit → Act → World → Prop} (hgd : o.guard = none) (s x : Operand) (ho : o.op = .call { callee := .builtin .append, args := #[s, x], argTypes := #[26, 26] })
    (base ax : Nat) (v : Value) (es fs : List En) (hs : a.eval s = v) (hE : EO base ax w v es) (gx ox m c : Nat) (hm : m = fs.length) (hx : a.eval x = .slice (some ⟨gx, ox, none⟩) m c) (hR : ∀ i e, fs[i]? = some e → w.rangeAt gx (ox + i * 33) e.cells) (hF : ∀ e ∈ fs, EnOK w.heap.size w e)
    (hap : ∀ e ∈ fs, ∀ b off, e.sp = some ⟨b, off, none⟩ → base ≤ b ∧ b < w.heap.size ∧ some b ≠ v.ownBlock ∧ b ≠ ax) (hk : es.length ≤ 1000000) (hk2 : m ≤ 1000000) (hbase : base ≤ w.heap.size)
    (h : ∀ v' w', EO base ax w' v' (es ++ fs) → w.grownBy w' v.ownBlock → (v'.ownBlock = v.ownBlock ∨ v'.ownBlock = some w.heap.size) → wpList Try.prog ops Q rest (a.put o.dst v') w') : wpList Try.prog ops Q (o :: rest) a w :=
  wpList_plain hgd fun _ hK => wp_appEs s x ho base ax v es fs hs hE gx ox m c hm hx hR hF hap hk hk2 hbase fun v' w' h1 h2 h3 => hK _ _ (h v' w' h1 h2 h3)
/-- Is it this operation? -/
theorem atA {P : Program} {ops : Array Oper} {rest : List Oper} {a : Act} {w : World} {Q : Exit → Act → World → Prop} (x y : Operand) {t u : TypeId} {d} {ty} {pos} {af} {g} (h : wpList P ops Q (⟨d, .call { callee := .builtin .append, args := #[x, y], argTypes := #[t, u] }, ty, pos, af, g⟩ :: rest) a w) : wpList P ops Q (⟨d, .call { callee := .builtin .append, args := #[x, y], argTypes := #[t, u] }, ty, pos, af, g⟩ :: rest) a w := h
theorem atL {P : Program} {ops : Array Oper} {rest : List Oper} {a : Act} {w : World} {Q : Exit → Act → World → Prop} (t : TypeId) (x : Operand) {d} {ty} {pos} {af} {g} (h : wpList P ops Q (⟨d, .load t x, ty, pos, af, g⟩ :: rest) a w) : wpList P ops Q (⟨d, .load t x, ty, pos, af, g⟩ :: rest) a w := h
theorem atS {P : Program} {ops : Array Oper} {rest : List Oper} {a : Act} {w : World} {Q : Exit → Act → World → Prop} (t : TypeId) (x y : Operand) {d} {ty} {pos} {af} {g} (h : wpList P ops Q (⟨d, .store t x y, ty, pos, af, g⟩ :: rest) a w) : wpList P ops Q (⟨d, .store t x y, ty, pos, af, g⟩ :: rest) a w := h
theorem wp_bldE2 {o : Oper} {a : Act} {w : World} {K : Act → World → Prop} {Q : Exit → Act → World → Prop} (x y : Operand) (ho : o.op = .buildSlice 26 2 #[(0, x), (1, y)]) (e f : En) (hx : a.eval x = .agg e.arr) (hy : a.eval y = .agg f.arr) (he : e.sm.length = 32) (hf : f.sm.length = 32)
    (h : K (a.put o.dst (.slice (some ⟨w.heap.size, 0, none⟩) 2 2)) (w.alloc (.cells (flatE [e, f]).toArray 71))) : o.wp Try.prog a w K Q := by
  obtain ⟨i0, hi0, hz0, hz1, hz2⟩ := info_parts info54
  refine wp_buildSlice 26 71 2 _ ho (flatE [e, f]).toArray i0 (.agg (En.arr ⟨none, 0, 0, [], Z32⟩)) Try.underlying26 hi0 hz0 (by rw [hz1]; omega) (by rw [hz1]; omega) ?_ h
  have e1 : (#[(0, x), (1, y)].map fun (p : Nat × Operand) => (p.1, a.eval p.2)).toList = ([Value.agg e.arr, Value.agg f.arr].zipIdx 0).map fun x => (x.2, x.1) := by simp [hx, hy]
  rw [hz1]
  refine Eq.trans (congrArg _ e1) ?_
  rw [Great.fill_whole (s := 33) (by omega) [.agg e.arr, .agg f.arr] _ (fun v hv => by
    simp only [List.mem_cons, List.mem_nil_iff, or_false] at hv
    rcases hv with rfl | rfl
    · exact En.size he
    · exact En.size hf) (by simp)]
  simp [Value.cells, En.arr, flatE]
theorem lit2_range {w : World} {g : Nat} {e f : En} (h : Arr w g 71 (flatE [e, f]).toArray) (he : e.sm.length = 32) (hf : f.sm.length = 32) : ∀ i x, [e, f][i]? = some x → w.rangeAt g (0 + i * 33) x.cells := fun i x hx j v hv => by
  have h32 : ∀ y ∈ [e, f], y.sm.length = 32 := fun y hy => by
    simp only [List.mem_cons, List.mem_nil_iff, or_false] at hy
    rcases hy with rfl | rfl
    · exact he
    · exact hf
  rw [Nat.zero_add, h.cell]
  have := flatE_at h32 hx hv
  simpa using this
/-- A slice of entries of the call's own as one to be read. -/
theorem EO.sl1 {base ax : Nat} {w : World} {v : Value} {es : List En} (h : EO base ax w v es) (h0 : 0 < es.length) : ∃ g cap, v = .slice (some ⟨g, 0, none⟩) es.length cap ∧ base ≤ g ∧ g < w.heap.size ∧ ∀ i e, es[i]? = some e → w.rangeAt g (0 + i * 33) e.cells := by
  obtain ⟨-, h' | ⟨g, cap, cur, rfl, hg, hh, hnc, hcm, hc, ht⟩⟩ := h.own
  · obtain ⟨-, h'⟩ := h'; omega
  · refine ⟨g, cap, rfl, hg, (Array.getElem?_eq_some_iff.1 hh).1, fun i e he j u hu => ?_⟩
    have hi := (List.getElem?_eq_some_iff.1 he).1
    have hj : j < 33 := by
      have := (List.getElem?_eq_some_iff.1 hu).1
      rw [En.len (h.s32 e (List.mem_of_getElem? he))] at this; exact this
    rw [Nat.zero_add, cell_of_row w g _ cur 71 (0, 0) hh, ← Array.getElem?_toList, ← List.getElem?_take_of_lt (show i * 33 + j < es.length * 33 by omega), ht]
    exact flatE_at h.s32 he hu
end Go.Proofs.Ytbfelelngoonjaa
/- Layer oracle: what the layers below give. -/
namespace Go.Proofs.Ytbfelelngoonjaa
open Go.RowKit
set_option maxRecDepth 100000
set_option linter.unusedVariables false
set_option linter.unusedSimpArgs false

theorem al_next {ps : List Ac} {j : Nat} {a : Ac} (h : ps[j]? = some a) : (al ps).take (j + 1) = (al ps).take j ++ [lf (acb a)] := by
  rw [List.take_add_one]; congr 1; simp [al, h]
theorem ol_next {ps : List Ou} {j : Nat} {a : Ou} (h : ps[j]? = some a) : (ol ps).take (j + 1) = (ol ps).take j ++ [lf (oub a)] := by
  rw [List.take_add_one]; congr 1; simp [ol, h]
/-- What the document's leaves answers. -/
def RLPost (ps : List Ac) (n : Nat) (os : List Ou) (w : World) (e : Ending) (w' : World) : Prop :=
  ∃ s1 c1 s2 c2, e = .returned (.tuple #[.slice s1 32 c1, .slice s2 n c2]) ∧ HS w'.heap.size w' s1 32 c1 (al ps) ∧ HS w'.heap.size w' s2 n c2 (ol os) ∧ Below w.heap.size w w'
set_option maxHeartbeats 2000000 in
theorem refLeaves_any (ps : List Ac) (N : Nat) (sp : Option Addr) (n cap : Nat) (os : List Ou) (w : World) (hS : SS N w ps sp n cap os) (hn : n ≤ 32) :
    Calls Try.prog 39 #[.agg (stA ps sp n cap)] w (RLPost ps n os w) := by
  have hS := hS.here
  have h1 := hS.a32.out
  have h2 := hS.l32
  have A0 := Arr.new w 38 (stA ps sp n cap)
  have hb0 := alloc_bel' w (.cells (stA ps sp n cap) 38)
  have hs0 : (w.alloc (.cells (stA ps sp n cap) 38)).heap.size = w.heap.size + 1 := by simp
  have hal32 : Hid (∀ x ∈ al ps, x.length = 32) := Hid.mk' (fun x hx => by
    obtain ⟨e, he, rfl⟩ := List.mem_map.1 hx
    exact lf_len _)
  have hol32 : Hid (∀ x ∈ ol os, x.length = 32) := Hid.mk' (fun x hx => by
    obtain ⟨e, he, rfl⟩ := List.mem_map.1 hx
    exact lf_len _)
  go_enter Try.func39, Try.ntmps39
  go_upto_region 3 with fail
  generalize w.alloc (.cells (stA ps sp n cap) 38) = W0 at *
  go_loopw [4, 6] (fun v q wr => ∃ j : Nat, q = .int .i64 (j : Int) ∧ j ≤ 32 ∧ Below W0.heap.size W0 wr ∧ wr.ownsRow W0.heap.size 32 32 v j (flat32 ((al ps).take j)))
    (fun _ q _ => 32 - (intOf q).toNat)
  case atStart => exact ⟨0, rfl, by omega, Below.refl _ _, World.ownsRow_nil _ _ _ _⟩
  case round =>
    obtain ⟨j, rfl, hj, hbl, hO⟩ := hrel
    have hszr := hbl.size
    by_cases hlt : j < 32
    · have hI : (j : Int) < 32 := by omega
      obtain ⟨a, ha⟩ : ∃ a, ps[j]? = some a := ⟨ps[j]'(by omega), List.getElem?_eq_getElem _⟩
      have hao := hS.ok.out a (List.mem_of_getElem? ha)
      have ha32 := hao.l32
      have hRa := (A0.below hbl (by omega)).stAt h2 ha
      have hnx := Hid.mk' (al_next ha)
      clear ha
      have hl32 := lf_len (acb a)
      go_upto_region 4 with (first
        | (refine ld26 (by rfl) _ (by rfl) w.heap.size (j * 34) (by rfl) a ha32 hRa ?_)
        | (go_at_call 24; go_must (refine (refAcBytes_any a _ hao).mono ?_; rintro e u1 ⟨v1, rfl, hown1, hb1⟩; have B1 := hbl.trans (hb1.mono hbl.size); have O1 := own_same hO (fun k hk => hb1.block k (hO.lt k hk).2); obtain ⟨s1, k1, rfl, hS1, -⟩ := own_bs hown1 (acb_bts hao) (by omega)))
        | (go_at_call 37; go_must (refine (refLeaf_bs s1 48 k1 _ (acb a) _ hS1 (by omega)).mono ?_; rintro e u2 ⟨rfl, hb2⟩; have B2 := B1.trans (hb2.mono B1.size); have O2 := own_same O1 (fun k hk => hb2.block k (O1.lt k hk).2); have hs2 := B2.size))
        | (refine b1L (by rfl) _ (by rfl) (lf (acb a)) (by rfl) hl32 ?_)
        | (at_builtin; go_must (refine ag24 (by rfl) (.tmp 12) (.tmp 19) (by rfl) W0.heap.size j _ _ (lf (acb a)) (by rfl) (O2.alloc _) u2.heap.size 1 (by rfl) (Arr.new u2 32 (h8 (lf (acb a)))) hl32 (by omega) (by simp; omega) ?_; intro v' w6 hO6 hG6; have hbl6 := (B2.alloc (by omega) _).grown hG6 (by simp; omega) (fun k e => own_ge O2 k e))))
      go_wp2_with fail
      go_roundw
      case rel => exact ⟨j + 1, by go_num, by omega, hbl6, by rw [hnx.out]; exact hO6⟩
      case measure => simp [intOf]; omega
    · have hjI : (j : Int) = 32 := by omega
      simp only [hjI]
      clear hjI
      obtain rfl : j = 32 := by omega
      have ht : Hid ((al ps).take 32 = al ps) := Hid.mk' (List.take_of_length_le (by rw [al_len, h1]; exact Nat.le_refl _))
      rw [ht.out] at hO
      obtain ⟨s6, c6, rfl, hH6, hg6⟩ := own_hs hO hal32.out (by rw [al_len, h1]) (by omega)
      have B1 : Below w.heap.size w wr := hb0.trans (hbl.mono (by omega))
      have cO := (A0.below hbl (by omega)).stOut h1 h2
      have hA1 := A0.below hbl (by omega)
      clear hO ht hg6 A0
      obtain ⟨W1, hW1⟩ : ∃ W1, W1 = wr := ⟨_, rfl⟩
      subst hW1
      go_upto_region 7 with fail
      go_loopw [5, 7] (fun v q wr => ∃ j : Nat, q = .int .i64 (j : Int) ∧ j ≤ n ∧ Below W1.heap.size W1 wr ∧ wr.ownsRow W1.heap.size 32 32 v j (flat32 ((ol os).take j)))
        (fun _ q _ => n - (intOf q).toNat)
      case atStart => exact ⟨0, rfl, by omega, Below.refl _ _, World.ownsRow_nil _ _ _ _⟩
      case round =>
        obtain ⟨j, rfl, hj, hbl2, hO⟩ := hrel
        have hszr2 := hbl2.size
        have cO2 := (hA1.below hbl2 (by omega)).stOut h1 h2
        by_cases hlt : j < n
        · have hI : (j : Int) < n := by omega
          obtain ⟨go, oo, rfl, hgo0, hRo⟩ := hS.outs.at0 (by omega)
          obtain ⟨a, ha⟩ : ∃ q, os[j]? = some q := ⟨os[j]'(by rw [← hS.outs.len.out]; exact hlt), List.getElem?_eq_getElem _⟩
          have rO := range_below (hRo j a ha) (B1.trans (hbl2.mono B1.size)) hgo0
          have hnx := Hid.mk' (ol_next ha)
          clear ha hRo
          have hl32 := lf_len (oub a)
          go_upto_region 8 with (first
            | (refine ld53 (by rfl) _ (by rfl) go (oo + j * 2) (by rfl) a rO ?_)
            | (go_at_call 38; go_must (refine (refOuBytes_any a _).mono ?_; rintro e u1 ⟨v1, rfl, hown1, hb1⟩; have B2 := hbl2.trans (hb1.mono hbl2.size); have O1 := own_same hO (fun k hk => hb1.block k (hO.lt k hk).2); obtain ⟨s1, k1, rfl, hS1, -⟩ := own_bs hown1 (oub_bts a) (by omega)))
            | (go_at_call 37; go_must (refine (refLeaf_bs s1 16 k1 _ (oub a) _ hS1 (by omega)).mono ?_; rintro e u2 ⟨rfl, hb2⟩; have B3 := B2.trans (hb2.mono B2.size); have O2 := own_same O1 (fun k hk => hb2.block k (O1.lt k hk).2); have hs2 := B3.size))
            | (refine b1L (by rfl) _ (by rfl) (lf (oub a)) (by rfl) hl32 ?_)
            | (at_builtin; go_must (refine ag24 (by rfl) (.tmp 28) (.tmp 36) (by rfl) W1.heap.size j _ _ (lf (oub a)) (by rfl) (O2.alloc _) u2.heap.size 1 (by rfl) (Arr.new u2 32 (h8 (lf (oub a)))) hl32 (by omega) (by simp; omega) ?_; intro v' w6 hO6 hG6; have hbl6 := (B3.alloc (by omega) _).grown hG6 (by simp; omega) (fun k e => own_ge O2 k e))))
          go_wp2_with fail
          go_roundw
          case rel => exact ⟨j + 1, by go_num, by omega, hbl6, by rw [hnx.out]; exact hO6⟩
          case measure => simp [intOf]; omega
        · obtain rfl : j = n := by omega
          have hI : ¬ (j : Int) < j := by omega
          have ht : Hid ((ol os).take j = ol os) := Hid.mk' (List.take_of_length_le (by rw [ol_len, ← hS.outs.len.out]; exact Nat.le_refl _))
          rw [ht.out] at hO
          obtain ⟨s7, c7, rfl, hH7, hg7⟩ := own_hs hO hol32.out (by rw [ol_len]; exact hS.outs.len.out) (by omega)
          go_wp2_with fail
          go_ret2
          exact ⟨s6, c6, s7, c7, rfl, (hH6.below hbl2).here, hH7, B1.trans (hbl2.mono B1.size)⟩
end Go.Proofs.Ytbfelelngoonjaa
