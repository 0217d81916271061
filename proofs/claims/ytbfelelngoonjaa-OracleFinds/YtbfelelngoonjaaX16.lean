/- Layer oracle: what the layers below give. -/
import Derived.Test.YtbfelelngoonjaaX01
import Derived.Test.YtbfelelngoonjaaX02
import Derived.Test.YtbfelelngoonjaaX03
import Derived.Test.YtbfelelngoonjaaX04
import Derived.Test.YtbfelelngoonjaaX05
import Derived.Test.YtbfelelngoonjaaX10
import Derived.Test.YtbfelelngoonjaaX06
import Derived.Test.YtbfelelngoonjaaX11
import Derived.Test.YtbfelelngoonjaaX12
import Derived.Test.YtbfelelngoonjaaX13
import Derived.Test.YtbfelelngoonjaaX14
import Derived.Test.YtbfelelngoonjaaX15
import Derived.BigQuiet
import Derived.BigRegion
import Derived.ChangeKeysEq
import Derived.Deep.DeepCutAuto
import Derived.Deep.DrawnRows
import Derived.Deep.MidRow
import Derived.Deep.QuietTactic
import Derived.Deep.RegionHeld3
import Derived.Deep.RegionLaw
import Derived.Deep.RegionWith
import Derived.Deep.WholeRow
import Derived.Great.BuildSlice
import Derived.Laws.AppendOwnNone
import Derived.Laws.BitsLemmas
import Derived.Laws.BytesArg
import Derived.Laws.CopyOwn
import Derived.Laws.Tables
import Derived.Lib.SlBytesConst
import Derived.LoopIn
import Derived.LoopNIn
import Derived.Maps.AppendAt
import Derived.OwnWalkIn
import Derived.RangeFuncBound
import Derived.RangeFuncCalls
import Derived.RangeFuncLeaves
import Derived.RangeFuncNested
import Derived.RangeFuncRecord
import Derived.Shelf.Abstract
import Derived.Shelf.RegionOpen
import Derived.TacticsInMore
import Derived.WalkKit
import Derived.WalkLawsBesides
import Derived.WalkSpells
namespace Go.Proofs.Ytbfelelngoonjaa
open Go.RowKit
set_option maxRecDepth 100000
set_option linter.unusedVariables false
set_option linter.unusedSimpArgs false

theorem wp_appT {o : Oper} {a : Act} {w : World} {K : Act → World → Prop} {Q : Exit → Act → World → Prop} (s x : Operand) (ho : o.op = .call { callee := .builtin .append, args := #[s, x], argTypes := #[121, 121] })
    (base ax : Nat) (v : Value) (es : List En) (e : En) (hs : a.eval s = v) (hE : EO base ax w v es) (gx c : Nat) (hx : a.eval x = .slice (some ⟨gx, 0, none⟩) 1 c) (hA : Arr w gx 71 e.arr) (he : EnOK w.heap.size w e)
    (hap : ∀ b off, e.sp = some ⟨b, off, none⟩ → base ≤ b ∧ b < w.heap.size ∧ some b ≠ v.ownBlock ∧ b ≠ ax) (hk : es.length ≤ 1000000000) (hbase : base ≤ w.heap.size)
    (h : ∀ v' w', EO base ax w' v' (es ++ [e]) → w.grownBy w' v.ownBlock → (v'.ownBlock = v.ownBlock ∨ v'.ownBlock = some w.heap.size) → K (a.put o.dst v') w') : o.wp Try.prog a w K Q := by
  obtain ⟨i0, hi0, hz0, hz1, hz2⟩ := info_parts info54
  obtain ⟨v', w', hr, h2, h3, h4, h5⟩ := run_append_own_at (P := Try.prog) w base 121 o.type 71 i0 (.agg (En.arr ⟨none, 0, 0, [], Z32⟩)) 33 56 Try.underlying121 hi0 hz0 hz1 hz2 (En.size (e := ⟨none, 0, 0, [], Z32⟩) Z32_len) (by omega) v es.length _ hE.own ⟨gx, 0, none⟩ 1 c e.cells (by rw [En.len he.s32]) (fun j u hj => by
    rw [Addr.add_mid]; exact rangeE hA j u hj) e.one (by unfold maxLen; omega) (by omega) hbase
  unfold Oper.wp execOp
  simp only [ho, resolve, invoke, builtin, Sem.run_bind, Sem.run_pure, Result.andThen_ok, List.map_toArray, List.map_cons, List.map_nil, hs, hx, hr]
  have hne : ∀ b, b < w.heap.size → some b ≠ v.ownBlock → some b ≠ v'.ownBlock := fun b hb h' e' => by
    rcases h5 with h5 | h5
    · exact h' (e'.trans h5)
    · rw [h5] at e'; have := Option.some.inj e'; omega
  have keep : ∀ f : En, EnOK w.heap.size w f → (∀ b off, f.sp = some ⟨b, off, none⟩ → some b ≠ v.ownBlock) → EnOK w'.heap.size w' f := fun f hf hb => by
    refine ⟨⟨hf.body.len, hf.body.nil, hf.body.le, hf.body.big, hf.body.small, fun h0 => ?_, hf.body.bts⟩, hf.s32⟩
    obtain ⟨b, off, e1, hbN, hB⟩ := hf.body.at0 h0
    refine ⟨b, off, e1, Nat.lt_of_lt_of_le hbN h3.size, fun t ht => ?_⟩
    rw [World.cell?_of_block (w := w) (a := ⟨b, off + t, none⟩) (h3.block b hbN (hb b off e1))]
    exact hB t ht
  refine h v' w' ⟨?_, fun f hf => ?_, fun f hf b off hs' => ?_⟩ h3 h5
  · rw [flatE_app, List.length_append]; exact h2
  · rcases List.mem_append.1 hf with hf | hf
    · exact keep f (hE.ok f hf) (fun b off e1 => (hE.ap f hf b off e1).2.2.1)
    · simp at hf; subst hf; exact keep f he (fun b off e1 => (hap b off e1).2.2.1)
  · have := h3.size
    rcases List.mem_append.1 hf with hf | hf
    · obtain ⟨a1, a2, a3, a4⟩ := hE.ap f hf b off hs'
      exact ⟨a1, by omega, hne b a2 a3, a4⟩
    · simp at hf; subst hf
      obtain ⟨a1, a2, a3, a4⟩ := hap b off hs'
      exact ⟨a1, by omega, hne b a2 a3, a4⟩
theorem appT {ops : Array Oper} {rest : List Oper} {o : Oper} {a : Act} {w : World} {Q : Exit → Act → World → Prop} (hgd : o.guard = none) (s x : Operand) (ho : o.op = .call { callee := .builtin .append, args := #[s, x], argTypes := #[121, 121] })
    (base ax : Nat) (v : Value) (es : List En) (e : En) (hs : a.eval s = v) (hE : EO base ax w v es) (gx c : Nat) (hx : a.eval x = .slice (some ⟨gx, 0, none⟩) 1 c) (hA : Arr w gx 71 e.arr) (he : EnOK w.heap.size w e)
    (hap : ∀ b off, e.sp = some ⟨b, off, none⟩ → base ≤ b ∧ b < w.heap.size ∧ some b ≠ v.ownBlock ∧ b ≠ ax) (hk : es.length ≤ 1000000000) (hbase : base ≤ w.heap.size)
    (h : ∀ v' w', EO base ax w' v' (es ++ [e]) → w.grownBy w' v.ownBlock → (v'.ownBlock = v.ownBlock ∨ v'.ownBlock = some w.heap.size) → wpList Try.prog ops Q rest (a.put o.dst v') w') : wpList Try.prog ops Q (o :: rest) a w :=
  wpList_plain hgd fun _ hK => wp_appT s x ho base ax v es e hs hE gx c hx hA he hap hk hbase fun v' w' h1 h2 h3 => hK _ _ (h v' w' h1 h2 h3)
theorem wp_bldT {o : Oper} {a : Act} {w : World} {K : Act → World → Prop} {Q : Exit → Act → World → Prop} (x : Operand) (ho : o.op = .buildSlice 121 1 #[(0, x)]) (e : En) (hx : a.eval x = .agg e.arr) (he : e.sm.length = 32)
    (h : K (a.put o.dst (.slice (some ⟨w.heap.size, 0, none⟩) 1 1)) (w.alloc (.cells e.arr 71))) : o.wp Try.prog a w K Q := by
  obtain ⟨i0, hi0, hz0, hz1, hz2⟩ := info_parts info54
  refine wp_buildSlice 121 71 1 _ ho e.arr i0 (.agg (En.arr ⟨none, 0, 0, [], Z32⟩)) Try.underlying121 hi0 hz0 (by rw [hz1]; omega) (by rw [hz1]; omega) ?_ h
  have e1 : (#[(0, x)].map fun (p : Nat × Operand) => (p.1, a.eval p.2)).toList = ([Value.agg e.arr].zipIdx 0).map fun x => (x.2, x.1) := by simp [hx]
  rw [hz1]
  refine Eq.trans (congrArg _ e1) ?_
  rw [Great.fill_whole (s := 33) (by omega) [.agg e.arr] _ (fun v hv => by simp only [List.mem_singleton] at hv; rw [hv]; exact En.size he) (by simp)]
  simp [Value.cells, En.arr]
theorem bldT {ops : Array Oper} {rest : List Oper} {o : Oper} {a : Act} {w : World} {Q : Exit → Act → World → Prop} (hgd : o.guard = none) (x : Operand) (ho : o.op = .buildSlice 121 1 #[(0, x)]) (e : En) (hx : a.eval x = .agg e.arr) (he : e.sm.length = 32)
    (h : wpList Try.prog ops Q rest (a.put o.dst (.slice (some ⟨w.heap.size, 0, none⟩) 1 1)) (w.alloc (.cells e.arr 71))) : wpList Try.prog ops Q (o :: rest) a w :=
  wpList_plain hgd fun _ hK => wp_bldT x ho e hx he (hK _ _ h)
/-- sha.Leaf, of bytes anywhere. -/
theorem leaf_bs (sp : Option Addr) (n cap N : Nat) (L : List Int) (w : World) (hS : BS N w sp n cap L) :
    Calls Try.prog 98 #[.slice sp n cap] w fun e w' => e = .returned (.agg (h8 (lf L))) ∧ Below w.heap.size w w' := by
  have h := leaf_any sp n cap L w hS.len.out hS.nil hS.sl hS.small
  rw [sha_h8] at h
  exact h
/-- What a tree is. -/
structure TR (base : Nat) (w : World) (v : Value) (es : List En) (bs : List (List Int)) : Prop where
  eo : EO base base w v es
  bs : Hid (es.map En.bs = bs)
  sm : Hid (∀ e ∈ es, e.sm = shl e.bs)
theorem TR.below {base : Nat} {w w' : World} {v : Value} {es : List En} {bs : List (List Int)} (h : TR base w v es bs) (hb : Below w.heap.size w w') : TR base w' v es bs := ⟨h.eo.below hb, h.bs, h.sm⟩
def TPost (bs : List (List Int)) (w : World) (r : Ending) (w' : World) : Prop := ∃ v es, r = .returned v ∧ TR w.heap.size w' v es bs ∧ Below w.heap.size w w'
set_option maxHeartbeats 2000000 in
theorem treeA_any (ps : List Ac) (n cap : Nat) (w : World) (sp : Option Addr) (hok : ∀ a ∈ ps, AcOK a) (hl : n = ps.length) (h32 : n ≤ 32) (hR : 0 < n → ∃ g off, sp = some ⟨g, off, none⟩ ∧ g < w.heap.size ∧ ∀ i a, ps[i]? = some a → w.rangeAt g (off + i * 34) a.cells) :
    Calls Try.prog 83 #[.slice sp n cap, .func (Fn.func 84) #[] #[]] w (TPost (ps.map fun a => 0 :: acb a) w) := by
  obtain ⟨i0, hi, hz0, hz1, hz2⟩ := info_parts info54
  replace hl := Hid.mk' hl
  replace hR := Hid.mk' hR
  replace hok := Hid.mk' hok
  go_enter Try.func83, Try.ntmps83
  go_upto_region 2 with (at_make; go_must (refine wpList_make_own _ (by rfl) (.const (.int .i64 0)) (.tmp 10) 121 (by rfl) w.heap.size 71 i0 (.agg (En.arr ⟨none, 0, 0, [], Z32⟩)) 33 Try.underlying121 hi hz0 hz1 .i64 .i64 _ n (by rfl) (by rfl) (by omega) (by rw [hz2]; omega) (by unfold maxLen; omega) (Nat.le_refl _) ?_; intro w3 hown3 hg3))
  have hB3 := (Below.refl w.heap.size w).grown hg3 (Nat.le_refl _) (by simp)
  have E3 : EO w.heap.size w.heap.size w3 (.slice (some ⟨w.heap.size, 0, none⟩) 0 n) [] := ⟨hown3, (fun e he => by cases he), (fun e he => by cases he)⟩
  have hs3 : w.heap.size < w3.heap.size := own_lt hown3 rfl
  clear hown3 hg3
  go_upto_region 3 with fail
  go_loopw [5, 14] (fun v q wr => ∃ (j : Nat) (es : List En), q = .int .i64 (j : Int) ∧ j ≤ n ∧ es.length = j ∧ Below w.heap.size w wr ∧ EO w.heap.size w.heap.size wr v es ∧ w.heap.size < wr.heap.size ∧ Hid (es.map En.bs = (ps.map fun a => 0 :: acb a).take j) ∧ Hid (∀ e ∈ es, e.sm = shl e.bs))
    (fun _ q _ => n - (intOf q).toNat)
  case atStart => exact ⟨0, [], rfl, by omega, rfl, hB3, E3, hs3, Hid.mk' (by simp), Hid.mk' (fun e he => by cases he)⟩
  case round =>
    obtain ⟨j, es, rfl, hj, hel, hbl, hE, hsz, hbs, hsm⟩ := hrel
    clear E3 hB3 hs3
    by_cases hlt : j < n
    · have hI : (j : Int) < n := by omega
      obtain ⟨g, off, rfl, hgN, hRR⟩ := hR.out (by omega)
      obtain ⟨a, ha⟩ : ∃ a, ps[j]? = some a := ⟨ps[j]'(by rw [← hl.out]; exact hlt), List.getElem?_eq_getElem _⟩
      have hao := hok.out a (List.mem_of_getElem? ha)
      have ha32 := hao.l32
      have hRY := range_below (hRR j a ha) hbl hgN
      have hnx : Hid ((ps.map fun a => 0 :: acb a).take (j + 1) = (ps.map fun a => 0 :: acb a).take j ++ [0 :: acb a]) := Hid.mk' (by
        rw [List.take_add_one]; congr 1; simp [ha])
      clear ha hRR
      have A1 := Arr.new wr 34 a.arr
      have hb1 := alloc_bel' wr (.cells a.arr 34)
      go_upto_region 5 with (first
        | (refine ld26 (by rfl) _ (by rfl) g (off + j * 34) (by rfl) a ha32 hRY ?_)
        | (refine st26n (by rfl) _ _ (by rfl) wr wr.heap.size rfl (by rfl) a (by rfl) (by rfl) ha32 ?_))
      have hbl1 := hbl.alloc hbl.size (.cells a.arr 34)
      have hE1 := hE.below hb1
      have hs1 : (wr.alloc (.cells a.arr 34)).heap.size = wr.heap.size + 1 := by simp
      generalize wr.alloc (.cells a.arr 34) = wa at *
      go_upto_region 6 with (first
        | (refine ld26 (by rfl) _ (by rfl) wr.heap.size 0 (by rfl) a ha32 (Arr.ac A1) ?_)
        | (go_at_call 84; go_must (refine (acBytes_any a _ hao).mono ?_; rintro e w2 ⟨v2, rfl, hown2, hb2⟩)))
      obtain ⟨sp2, cp2, rfl, hS2, hsp2⟩ := own_bs hown2 (acb_bts hao) (by omega)
      have hE2 := hE1.below hb2
      have hbl2 := hbl1.trans (hb2.mono hbl1.size)
      have hs2 := hb2.size
      have hlit : (w2.alloc (.cells #[.int .u8 0] 5)).ownsRow w2.heap.size 5 1 (.slice (some ⟨w2.heap.size, 0, none⟩) 1 1) 1 (by8 [0]) := World.ownsRow_lit _ _ _ (Nat.le_refl _) (by unfold maxLen; omega) rfl
      have hb3 := alloc_bel' w2 (.cells #[.int .u8 0] 5)
      have hS3 := hS2.below hb3
      have hn2 := hS2.nil
      have hlen2 := hS2.len
      have hbt : Bts (0 :: acb a) := Bts.zero (acb_bts hao)
      clear hown2
      go_upto_region 7 with (first
        | (at_builtin; refine append_bytes (by rfl) (.tmp 22) (.tmp 23) (by rfl) w2.heap.size _ 1 [0] (by rfl) hlit sp2 48 cp2 (acb a) (by rfl) hlen2.out hn2 hS3.sl (by omega) (by simp) ?_; intro v4 w4 hown4 hg4; obtain ⟨sp4, cp4, rfl, hS4, hsp4⟩ := own_bs hown4 hbt (by omega); have hb4 : Below w2.heap.size w2 w4 := hb3.grown hg4 hb3.size (fun k e => own_ge hlit k e); have hE4 := hE2.below hb4; have hbl4 := hbl2.trans (hb4.mono hbl2.size); have hS24 := hS2.below hb4; have hs4 := hb4.size)
        | (go_at_call 98; go_must (refine (leaf_bs sp2 48 cp2 _ (acb a) _ hS24).mono ?_; rintro e w5 ⟨rfl, hb5⟩; have hE5 := hE4.below hb5; have hbl5 := hbl4.trans (hb5.mono hbl4.size); have hS5 := hS4.below hb5; have hs5 := hb5.size; have hE6 := hE5.below (alloc_bel' w5 (.cells (En.arr ⟨sp4, 1 + 48, cp4, 0 :: acb a, lf (acb a)⟩) 71)); have hS6 := hS5.below ((alloc_bel' w5 (.cells (En.arr ⟨sp4, 1 + 48, cp4, 0 :: acb a, lf (acb a)⟩) 71)).mono hs5); have hbl6 := hbl5.alloc (Nat.le_trans hbl4.size hs5) (.cells (En.arr ⟨sp4, 1 + 48, cp4, 0 :: acb a, lf (acb a)⟩) 71); have hok6 : EnOK (w5.alloc (.cells (En.arr ⟨sp4, 1 + 48, cp4, 0 :: acb a, lf (acb a)⟩) 71)).heap.size (w5.alloc (.cells (En.arr ⟨sp4, 1 + 48, cp4, 0 :: acb a, lf (acb a)⟩) 71)) ⟨sp4, 1 + 48, cp4, 0 :: acb a, lf (acb a)⟩ := (⟨hS6.mono (by simp; omega), lf_len _⟩); have hob := fun (k : Nat) hk => own_lt (b := k) hE.own hk))
        | (refine bdT (by rfl) 71 _ (by rfl) (by rfl) (built54 sp4 (1 + 48) cp4 (lf (acb a)) (lf_len _) (0 :: acb a)) ?_)
        | (refine bldT (by rfl) _ (by rfl) ⟨sp4, 1 + 48, cp4, 0 :: acb a, lf (acb a)⟩ (by rfl) (lf_len _) ?_)
        | (at_builtin; go_must (refine appT (by rfl) (.tmp 21) (.tmp 28) (by rfl) w.heap.size w.heap.size _ es ⟨sp4, 1 + 48, cp4, 0 :: acb a, lf (acb a)⟩ (by rfl) hE6 w5.heap.size 1 (by rfl) (Arr.new w5 71 _) hok6 (apart hS5 (by omega) (M := w2.heap.size) (fun g off e => (hsp4 g off e).1) (fun k hk => by have := hob k hk; omega) (by omega) (by omega) (by simp; omega)) (by omega) (by simp; omega) ?_; intro v' w6 hE7 hG7 hl7; have hbl7 := hbl6.grown hG7 (by simp; omega) (fun k e => own_ge hE.own k e); have hs7 := hG7.size; simp at hs7)))
      go_wp2_with fail
      go_roundw
      case rel =>
        refine ⟨j + 1, _, by go_num, by omega, by simp [hel], hbl7, hE7, by omega, Hid.mk' ?_, Hid.mk' ?_⟩
        · rw [List.map_append, hbs.out, hnx.out]; rfl
        · intro e he
          rcases List.mem_append.1 he with he | he
          · exact hsm.out e he
          · simp at he; subst he; rfl
      case measure => simp [intOf]; omega
    · obtain rfl : j = n := by omega
      have hI : ¬ (j : Int) < j := by omega
      go_wp2_with fail
      go_ret
      refine ⟨_, es, rfl, ⟨hE, Hid.mk' ?_, hsm⟩, hbl⟩
      rw [hbs.out, List.take_of_length_le (by rw [List.length_map, ← hl.out]; exact Nat.le_refl _)]
set_option maxHeartbeats 2000000 in
theorem treeO_any (ps : List Ou) (n cap : Nat) (w : World) (sp : Option Addr) (hok : ∀ a ∈ ps, OuOK a) (hl : n = ps.length) (h32 : n ≤ 32) (hR : 0 < n → ∃ g off, sp = some ⟨g, off, none⟩ ∧ g < w.heap.size ∧ ∀ i a, ps[i]? = some a → w.rangeAt g (off + i * 2) a.cells) :
    Calls Try.prog 85 #[.slice sp n cap, .func (Fn.func 86) #[] #[]] w (TPost (ps.map fun a => 0 :: oub a) w) := by
  obtain ⟨i0, hi, hz0, hz1, hz2⟩ := info_parts info54
  replace hl := Hid.mk' hl
  replace hR := Hid.mk' hR
  replace hok := Hid.mk' hok
  go_enter Try.func85, Try.ntmps85
  go_upto_region 2 with (at_make; go_must (refine wpList_make_own _ (by rfl) (.const (.int .i64 0)) (.tmp 10) 121 (by rfl) w.heap.size 71 i0 (.agg (En.arr ⟨none, 0, 0, [], Z32⟩)) 33 Try.underlying121 hi hz0 hz1 .i64 .i64 _ n (by rfl) (by rfl) (by omega) (by rw [hz2]; omega) (by unfold maxLen; omega) (Nat.le_refl _) ?_; intro w3 hown3 hg3))
  have hB3 := (Below.refl w.heap.size w).grown hg3 (Nat.le_refl _) (by simp)
  have E3 : EO w.heap.size w.heap.size w3 (.slice (some ⟨w.heap.size, 0, none⟩) 0 n) [] := ⟨hown3, (fun e he => by cases he), (fun e he => by cases he)⟩
  have hs3 : w.heap.size < w3.heap.size := own_lt hown3 rfl
  clear hown3 hg3
  go_upto_region 3 with fail
  go_loopw [5, 14] (fun v q wr => ∃ (j : Nat) (es : List En), q = .int .i64 (j : Int) ∧ j ≤ n ∧ es.length = j ∧ Below w.heap.size w wr ∧ EO w.heap.size w.heap.size wr v es ∧ w.heap.size < wr.heap.size ∧ Hid (es.map En.bs = (ps.map fun a => 0 :: oub a).take j) ∧ Hid (∀ e ∈ es, e.sm = shl e.bs))
    (fun _ q _ => n - (intOf q).toNat)
  case atStart => exact ⟨0, [], rfl, by omega, rfl, hB3, E3, hs3, Hid.mk' (by simp), Hid.mk' (fun e he => by cases he)⟩
  case round =>
    obtain ⟨j, es, rfl, hj, hel, hbl, hE, hsz, hbs, hsm⟩ := hrel
    clear E3 hB3 hs3
    by_cases hlt : j < n
    · have hI : (j : Int) < n := by omega
      obtain ⟨g, off, rfl, hgN, hRR⟩ := hR.out (by omega)
      obtain ⟨a, ha⟩ : ∃ a, ps[j]? = some a := ⟨ps[j]'(by rw [← hl.out]; exact hlt), List.getElem?_eq_getElem _⟩
      have hao := hok.out a (List.mem_of_getElem? ha)
      skip
      have hRY := range_below (hRR j a ha) hbl hgN
      have hnx : Hid ((ps.map fun a => 0 :: oub a).take (j + 1) = (ps.map fun a => 0 :: oub a).take j ++ [0 :: oub a]) := Hid.mk' (by
        rw [List.take_add_one]; congr 1; simp [ha])
      clear ha hRR
      have A1 := Arr.new wr 89 a.arr
      have hb1 := alloc_bel' wr (.cells a.arr 89)
      go_upto_region 5 with (first
        | (refine ld53 (by rfl) _ (by rfl) g (off + j * 2) (by rfl) a hRY ?_)
        | (refine st53n (by rfl) _ _ (by rfl) wr wr.heap.size rfl (by rfl) a (by rfl) (by rfl) ?_))
      have hbl1 := hbl.alloc hbl.size (.cells a.arr 89)
      have hE1 := hE.below hb1
      have hs1 : (wr.alloc (.cells a.arr 89)).heap.size = wr.heap.size + 1 := by simp
      generalize wr.alloc (.cells a.arr 89) = wa at *
      go_upto_region 6 with (first
        | (refine ld53 (by rfl) _ (by rfl) wr.heap.size 0 (by rfl) a (Arr.ou A1) ?_)
        | (go_at_call 86; go_must (refine (ouBytes_any a _).mono ?_; rintro e w2 ⟨v2, rfl, hown2, hb2⟩)))
      obtain ⟨sp2, cp2, rfl, hS2, hsp2⟩ := own_bs hown2 (oub_bts a) (by omega)
      have hE2 := hE1.below hb2
      have hbl2 := hbl1.trans (hb2.mono hbl1.size)
      have hs2 := hb2.size
      have hlit : (w2.alloc (.cells #[.int .u8 0] 5)).ownsRow w2.heap.size 5 1 (.slice (some ⟨w2.heap.size, 0, none⟩) 1 1) 1 (by8 [0]) := World.ownsRow_lit _ _ _ (Nat.le_refl _) (by unfold maxLen; omega) rfl
      have hb3 := alloc_bel' w2 (.cells #[.int .u8 0] 5)
      have hS3 := hS2.below hb3
      have hn2 := hS2.nil
      have hlen2 := hS2.len
      have hbt : Bts (0 :: oub a) := Bts.zero (oub_bts a)
      clear hown2
      go_upto_region 7 with (first
        | (at_builtin; refine append_bytes (by rfl) (.tmp 22) (.tmp 23) (by rfl) w2.heap.size _ 1 [0] (by rfl) hlit sp2 16 cp2 (oub a) (by rfl) hlen2.out hn2 hS3.sl (by omega) (by simp) ?_; intro v4 w4 hown4 hg4; obtain ⟨sp4, cp4, rfl, hS4, hsp4⟩ := own_bs hown4 hbt (by omega); have hb4 : Below w2.heap.size w2 w4 := hb3.grown hg4 hb3.size (fun k e => own_ge hlit k e); have hE4 := hE2.below hb4; have hbl4 := hbl2.trans (hb4.mono hbl2.size); have hS24 := hS2.below hb4; have hs4 := hb4.size)
        | (go_at_call 98; go_must (refine (leaf_bs sp2 16 cp2 _ (oub a) _ hS24).mono ?_; rintro e w5 ⟨rfl, hb5⟩; have hE5 := hE4.below hb5; have hbl5 := hbl4.trans (hb5.mono hbl4.size); have hS5 := hS4.below hb5; have hs5 := hb5.size; have hE6 := hE5.below (alloc_bel' w5 (.cells (En.arr ⟨sp4, 1 + 16, cp4, 0 :: oub a, lf (oub a)⟩) 71)); have hS6 := hS5.below ((alloc_bel' w5 (.cells (En.arr ⟨sp4, 1 + 16, cp4, 0 :: oub a, lf (oub a)⟩) 71)).mono hs5); have hbl6 := hbl5.alloc (Nat.le_trans hbl4.size hs5) (.cells (En.arr ⟨sp4, 1 + 16, cp4, 0 :: oub a, lf (oub a)⟩) 71); have hok6 : EnOK (w5.alloc (.cells (En.arr ⟨sp4, 1 + 16, cp4, 0 :: oub a, lf (oub a)⟩) 71)).heap.size (w5.alloc (.cells (En.arr ⟨sp4, 1 + 16, cp4, 0 :: oub a, lf (oub a)⟩) 71)) ⟨sp4, 1 + 16, cp4, 0 :: oub a, lf (oub a)⟩ := (⟨hS6.mono (by simp; omega), lf_len _⟩); have hob := fun (k : Nat) hk => own_lt (b := k) hE.own hk))
        | (refine bdT (by rfl) 71 _ (by rfl) (by rfl) (built54 sp4 (1 + 16) cp4 (lf (oub a)) (lf_len _) (0 :: oub a)) ?_)
        | (refine bldT (by rfl) _ (by rfl) ⟨sp4, 1 + 16, cp4, 0 :: oub a, lf (oub a)⟩ (by rfl) (lf_len _) ?_)
        | (at_builtin; go_must (refine appT (by rfl) (.tmp 21) (.tmp 28) (by rfl) w.heap.size w.heap.size _ es ⟨sp4, 1 + 16, cp4, 0 :: oub a, lf (oub a)⟩ (by rfl) hE6 w5.heap.size 1 (by rfl) (Arr.new w5 71 _) hok6 (apart hS5 (by omega) (M := w2.heap.size) (fun g off e => (hsp4 g off e).1) (fun k hk => by have := hob k hk; omega) (by omega) (by omega) (by simp; omega)) (by omega) (by simp; omega) ?_; intro v' w6 hE7 hG7 hl7; have hbl7 := hbl6.grown hG7 (by simp; omega) (fun k e => own_ge hE.own k e); have hs7 := hG7.size; simp at hs7)))
      go_wp2_with fail
      go_roundw
      case rel =>
        refine ⟨j + 1, _, by go_num, by omega, by simp [hel], hbl7, hE7, by omega, Hid.mk' ?_, Hid.mk' ?_⟩
        · rw [List.map_append, hbs.out, hnx.out]; rfl
        · intro e he
          rcases List.mem_append.1 he with he | he
          · exact hsm.out e he
          · simp at he; subst he; rfl
      case measure => simp [intOf]; omega
    · obtain rfl : j = n := by omega
      have hI : ¬ (j : Int) < j := by omega
      go_wp2_with fail
      go_ret
      refine ⟨_, es, rfl, ⟨hE, Hid.mk' ?_, hsm⟩, hbl⟩
      rw [hbs.out, List.take_of_length_le (by rw [List.length_map, ← hl.out]; exact Nat.le_refl _)]
end Go.Proofs.Ytbfelelngoonjaa
