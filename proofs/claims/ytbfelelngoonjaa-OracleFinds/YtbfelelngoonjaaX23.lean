/- Pf, Sp. -/
import Derived.Test.YtbfelelngoonjaaX01
import Derived.Test.YtbfelelngoonjaaX02
import Derived.Test.YtbfelelngoonjaaX03
import Derived.Test.YtbfelelngoonjaaX04
import Derived.Test.YtbfelelngoonjaaX05
import Derived.Test.YtbfelelngoonjaaX10
import Derived.Test.YtbfelelngoonjaaX06
import Derived.Test.YtbfelelngoonjaaX11
import Derived.Test.YtbfelelngoonjaaX12
import Derived.Test.YtbfelelngoonjaaX13
import Derived.Test.YtbfelelngoonjaaX14
import Derived.Test.YtbfelelngoonjaaX15
import Derived.Test.YtbfelelngoonjaaX16
import Derived.Test.YtbfelelngoonjaaX18
import Derived.Test.YtbfelelngoonjaaX22
import Derived.Test.YtbfelelngoonjaaX20
import Derived.BigQuiet
import Derived.BigRegion
import Derived.ChangeKeysEq
import Derived.Deep.DeepCutAuto
import Derived.Deep.DrawnRows
import Derived.Deep.MidRow
import Derived.Deep.QuietTactic
import Derived.Deep.RegionHeld3
import Derived.Deep.RegionLaw
import Derived.Deep.RegionWith
import Derived.Deep.WholeRow
import Derived.Great.BuildSlice
import Derived.Great.FillDense
import Derived.Laws.AppendOwnNone
import Derived.Laws.BitsLemmas
import Derived.Laws.BytesArg
import Derived.Laws.CopyOwn
import Derived.Laws.CopyRow
import Derived.Laws.MakeOwn
import Derived.Laws.OwnMore
import Derived.Laws.Tables
import Derived.Lib.SlBytesConst
import Derived.LoopIn
import Derived.LoopNIn
import Derived.Maps.AppendAt
import Derived.OwnWalkIn
import Derived.RangeFuncBound
import Derived.RangeFuncCalls
import Derived.RangeFuncLeaves
import Derived.RangeFuncNested
import Derived.RangeFuncRecord
import Derived.Shelf.Abstract
import Derived.Shelf.RegionOpen
import Derived.TacticsInMore
import Derived.WalkKit
import Derived.WalkLawsBesides
import Derived.WalkSpells
import Derived.Test.YtbfelelngoonjaaX17
import Derived.Test.YtbfelelngoonjaaX19
import Derived.Test.YtbfelelngoonjaaX21
import Derived.Lib.AppendZeros
/- Layer oracle: what the layers below give. -/
namespace Go.Proofs.Ytbfelelngoonjaa
open Go.RowKit
set_option maxRecDepth 100000
set_option linter.unusedVariables false
set_option linter.unusedSimpArgs false

theorem TR.up {base base' : Nat} {w : World} {v : Value} {es : List En} {bs : List (List Int)} (h : TR base w v es bs) (hb : base' ≤ base) : TR base' w v es bs :=
  ⟨⟨own_mono h.eo.own hb, h.eo.ok, fun e he b off hs => by
    obtain ⟨h1, h2, h3, h4⟩ := h.eo.ap e he b off hs
    exact ⟨by omega, h2, h3, by omega⟩⟩, h.bs, h.sm⟩
theorem TR.es {base : Nat} {w : World} {v : Value} {es : List En} {bs : List (List Int)} (h : TR base w v es bs) (hn : bs.length ≤ 32) : ∃ sp cap, v = .slice sp bs.length cap ∧ ES w.heap.size w sp bs.length cap es := by
  have hl : es.length = bs.length := by rw [← h.bs.out, List.length_map]
  rw [← hl]
  exact h.eo.es (by omega)
theorem TR.sums {base : Nat} {w : World} {v : Value} {es : List En} {bs : List (List Int)} (h : TR base w v es bs) : es.map En.sm = bs.map shl := by
  rw [← h.bs.out, List.map_map]
  exact List.map_congr_left (fun e he => h.sm.out e he)
set_option maxHeartbeats 1000000 in
theorem accountsOf_any (ps : List Ac) (sp : Option Addr) (n cap : Nat) (w : World) (h1 : ps.length = 32) (hok : ∀ a ∈ ps, AcOK a) :
    Calls Try.prog 67 #[.agg (stA ps sp n cap)] w (TPost (ps.map fun a => 0 :: acb a) w) := by
  have h2 : ∀ a ∈ ps, a.lk.length = 32 := fun a ha => (hok a ha).l32
  have A0 := Arr.new w 38 (stA ps sp n cap)
  have hb0 := alloc_bel' w (.cells (stA ps sp n cap) 38)
  have hT := Hid.mk' (treeA_any ps 32 32 (w.alloc (.cells (stA ps sp n cap) 38)) (some ⟨w.heap.size, 0, none⟩) hok h1.symm (by omega) (fun _ => ⟨w.heap.size, 0, rfl, by simp, fun i a ha => by rw [Nat.zero_add]; exact A0.stAt h2 ha⟩))
  go_enter Try.func67, Try.ntmps67
  go_wp2_with (go_at_call 83; go_must (refine hT.out.mono ?_; rintro e w1 ⟨v, es, rfl, hR, hb1⟩))
  go_ret
  exact ⟨v, es, rfl, hR.up (by simp), hb0.trans (hb1.mono (by simp))⟩
set_option maxHeartbeats 1000000 in
theorem outsOf_any (ps : List Ac) (N : Nat) (sp : Option Addr) (n cap : Nat) (os : List Ou) (w : World) (hS : SS N w ps sp n cap os) (hn : n ≤ 32) :
    Calls Try.prog 68 #[.agg (stA ps sp n cap)] w (TPost (os.map fun a => 0 :: oub a) w) := by
  have h1 := hS.a32.out
  have h2 := hS.l32
  have A0 := Arr.new w 38 (stA ps sp n cap)
  have hb0 := alloc_bel' w (.cells (stA ps sp n cap) 38)
  have hO := (hS.here.below hb0).outs
  have hT := Hid.mk' (treeO_any os n cap (w.alloc (.cells (stA ps sp n cap) 38)) sp hO.ok hO.len.out hn (fun h0 => by obtain ⟨g, off, e, hg, hr⟩ := hO.at0 h0; exact ⟨g, off, e, by simp; omega, hr⟩))
  have c1 := A0.stOut h1 h2
  clear hO hS h1 h2
  go_enter Try.func68, Try.ntmps68
  go_wp2_with (go_at_call 85; go_must (refine hT.out.mono ?_; rintro e w1 ⟨v, es, rfl, hR, hb1⟩))
  go_ret
  exact ⟨v, es, rfl, hR.up (by simp), hb0.trans (hb1.mono (by simp))⟩
/-- What leaves answers. -/
def LPost (n : Nat) (ls : List (List Int)) (w : World) (e : Ending) (w' : World) : Prop := ∃ sp cap, e = .returned (.slice sp n cap) ∧ HS w'.heap.size w' sp n cap ls ∧ (∀ b off, sp = some ⟨b, off, none⟩ → w.heap.size ≤ b) ∧ Below w.heap.size w w'
set_option maxHeartbeats 1000000 in
theorem leaves_any (N : Nat) (sp : Option Addr) (n cap : Nat) (es : List En) (w : World) (hS : ES N w sp n cap es) (hn : n ≤ 32) :
    Calls Try.prog 90 #[.slice sp n cap] w (LPost n (es.map En.sm) w) := by
  obtain ⟨i0, hi, hz0, hz1, hz2⟩ := info_parts info24
  have hl := hS.len
  have hS := hS.here
  have h32 : Hid (∀ x ∈ es.map En.sm, x.length = 32) := Hid.mk' (fun x hx => by
    obtain ⟨e, he, rfl⟩ := List.mem_map.1 hx
    exact (hS.ok e he).s32)
  go_enter Try.func90, Try.ntmps90
  go_upto_region 2 with (at_make; go_must (refine wpList_make_own _ (by rfl) (.const (.int .i64 0)) (.tmp 7) 90 (by rfl) w.heap.size 32 i0 (.agg (h8 Z32)) 32 Try.underlying90 hi hz0 hz1 .i64 .i64 _ n (by rfl) (by rfl) (by omega) (by rw [hz2]; omega) (by unfold maxLen; omega) (Nat.le_refl _) ?_; intro w3 hown3 hg3))
  have hB3 := (Below.refl w.heap.size w).grown hg3 (Nat.le_refl _) (by simp)
  have hown3' : w3.ownsRow w.heap.size 32 32 (.slice (some ⟨w.heap.size, 0, none⟩) 0 n) 0 (flat32 []) := hown3
  clear hown3 hg3
  go_upto_region 3 with fail
  go_loopw [3, 11] (fun v q wr => ∃ j : Nat, q = .int .i64 (j : Int) ∧ j ≤ n ∧ Below w.heap.size w wr ∧ wr.ownsRow w.heap.size 32 32 v j (flat32 ((es.map En.sm).take j)))
    (fun _ q _ => n - (intOf q).toNat)
  case atStart => exact ⟨0, rfl, by omega, hB3, by simpa using hown3'⟩
  case round =>
    obtain ⟨j, rfl, hj, hbl, hO⟩ := hrel
    clear hown3' hB3
    by_cases hlt : j < n
    · have hI : (j : Int) < n := by omega
      have hSr := hS.below hbl
      obtain ⟨g, off, rfl, hgN, hR⟩ := hSr.at0 (by omega)
      obtain ⟨e, he⟩ : ∃ e, es[j]? = some e := ⟨es[j]'(by rw [← hl.out]; exact hlt), List.getElem?_eq_getElem _⟩
      have he32 := (hS.ok e (List.mem_of_getElem? he)).s32
      have hRe := hR j e he
      have hnx : Hid ((es.map En.sm).take (j + 1) = (es.map En.sm).take j ++ [e.sm]) := Hid.mk' (by rw [List.take_add_one]; congr 1; simp [he])
      clear he hR
      have A1 := Arr.new wr 71 e.arr
      have hO1 := hO.alloc (.cells e.arr 71)
      have hbl1 := hbl.alloc hbl.size (.cells e.arr 71)
      have hrs := range_sm (rangeE A1)
      have hs0 := hbl.size
      go_upto_region 5 with (first
        | (refine ld54 (by rfl) _ (by rfl) g (off + j * 33) (by rfl) e he32 hRe ?_)
        | (refine st54n (by rfl) _ _ (by rfl) wr wr.heap.size rfl (by rfl) e (by rfl) (by rfl) he32 ?_))
      have hs1 : (wr.alloc (.cells e.arr 71)).heap.size = wr.heap.size + 1 := by simp
      generalize wr.alloc (.cells e.arr 71) = wa at *
      go_upto_region 6 with (first
        | (refine ld24 (by rfl) _ (by rfl) wr.heap.size (0 + 1) (by rfl) e.sm he32 hrs ?_)
        | (refine b1L (by rfl) _ (by rfl) e.sm (by rfl) he32 ?_)
        | (at_builtin; go_must (refine ag24 (by rfl) (.tmp 15) (.tmp 18) (by rfl) w.heap.size j _ _ e.sm (by rfl) (hO1.alloc _) wa.heap.size 1 (by rfl) (Arr.new wa 32 (h8 e.sm)) he32 (by omega) (by simp; omega) ?_; intro v' w6 hO6 hG6; have hbl6 := (hbl1.alloc (by omega) _).grown hG6 (by simp; omega) (fun k e => own_ge hO k e))))
      go_wp2_with fail
      go_roundw
      case rel => exact ⟨j + 1, by go_num, by omega, hbl6, by rw [hnx.out]; exact hO6⟩
      case measure => simp [intOf]; omega
    · obtain rfl : j = n := by omega
      have hI : ¬ (j : Int) < j := by omega
      have ht : Hid ((es.map En.sm).take j = es.map En.sm) := Hid.mk' (List.take_of_length_le (by rw [List.length_map, ← hl.out]; exact Nat.le_refl _))
      rw [ht.out] at hO
      obtain ⟨sp6, cp6, rfl, hH, hb⟩ := own_hs hO h32.out (by rw [List.length_map]; exact hl.out) (by omega)
      go_wp2_with fail
      go_ret
      exact ⟨sp6, cp6, rfl, hH, hb, hbl⟩
theorem tr5_len {ls : List (List Int)} (h : ∀ x ∈ ls, x.length = 32) : (tr 5 ls).length = 32 := tr_len 5 ls h
set_option maxHeartbeats 1000000 in
theorem troot_any (N : Nat) (sp : Option Addr) (n cap : Nat) (es : List En) (w : World) (hS : ES N w sp n cap es) (hn : n ≤ 32) :
    Calls Try.prog 70 #[.slice sp n cap] w fun e w' => e = .returned (.agg (h8 (tr 5 (es.map En.sm)))) ∧ Below w.heap.size w w' := by
  have A0 := Arr.new w 32 (h8 Z32)
  have hb0 := alloc_bel' w (.cells (h8 Z32) 32)
  have hl := hS.len
  have h32 : Hid (∀ x ∈ es.map En.sm, x.length = 32) := Hid.mk' (fun x hx => by
    obtain ⟨e, he, rfl⟩ := List.mem_map.1 hx
    exact (hS.ok e he).s32)
  have hT32 := tr5_len h32.out
  have hok : Hid (rE 5 (es.map En.sm).length = 0 ∧ rR 5 (es.map En.sm) = tr 5 (es.map En.sm)) := Hid.mk' (rR_ok (m := 5) (by omega) (by rw [List.length_map, ← hl.out]; exact hn))
  have hL := leaves_any _ sp n cap es _ (hS.here.below hb0) hn
  go_enter Try.func70, Try.ntmps70
  go_upto_region 2 with (first
    | (go_at_call 90; go_must (refine hL.mono ?_; rintro e w1 ⟨sp1, cp1, rfl, hH1, -, hb1⟩; have hR := root_any 5 _ sp1 n cp1 _ _ hH1; rw [hok.out.1, hok.out.2] at hR))
    | (go_at_call 89; go_must (refine hR.mono ?_; rintro e w2 ⟨rfl, hb2⟩))
    | (refine st24n (by rfl) _ _ (by rfl) w2 w2.heap.size rfl (by rfl) _ (by rfl) (by rfl) hT32 ?_))
  have hb12 := hb1.trans (hb2.mono hb1.size)
  have hB2 := hb0.trans (hb12.mono (by simp))
  have A2 := A0.below hb12 (by simp)
  have A2' := A2.alloc (.cells (h8 (tr 5 (es.map En.sm))) 32)
  have A3 := Arr.new w2 32 (h8 (tr 5 (es.map En.sm)))
  have hB3 := hB2.alloc hB2.size (.cells (h8 (tr 5 (es.map En.sm))) 32)
  go_wp2_with (first
    | (refine ld24 (by rfl) _ (by rfl) w2.heap.size 0 (by rfl) _ hT32 A3.range ?_)
    | (refine st24 (by rfl) _ _ (by rfl) w.heap.size _ Z32 (by rfl) (by rfl) hT32 Z32_len A2' ?_))
  exact bodyPost_ret (v := .agg (h8 (tr 5 (es.map En.sm)))) (res24 Try.results70 rfl hT32 (A2'.setRow _)) rfl ⟨rfl, below_setRow hB3 (Nat.le_refl _) _⟩
set_option maxHeartbeats 1000000 in
theorem countSum_any (n : Int) (w : World) :
    Calls Try.prog 71 #[.int .u64 n] w fun e w' => e = .returned (.agg (h8 (cnt n))) ∧ Below w.heap.size w w' := by
  have A0 := Arr.new w 32 (h8 Z32)
  have hb0 := alloc_bel' w (.cells (h8 Z32) 32)
  have hc := cnt_len n
  have hF := fun w => from_any _ (w4 n) w (w4_cells n)
  rw [from_cnt] at hF
  replace hF := Hid.mk' hF
  go_enter Try.func71, Try.ntmps71
  go_wp2_with (first
    | (refine bdT (by rfl) 113 _ (by rfl) (by rfl) (built112 n) ?_)
    | (go_at_call 91; go_must (refine (hF.out _).mono ?_; rintro e w2 ⟨rfl, hb2⟩; have A2 := A0.below hb2 (by simp)))
    | (refine st24 (by rfl) _ _ (by rfl) w.heap.size _ Z32 (by rfl) (by rfl) hc Z32_len A2 ?_))
  have hB2 := hb0.trans (hb2.mono (by simp))
  exact bodyPost_ret (v := .agg (h8 (cnt n))) (res24 Try.results71 rfl hc (A2.setRow _)) rfl ⟨rfl, below_setRow hB2 (Nat.le_refl _) _⟩
set_option maxHeartbeats 1000000 in
theorem count_any (ps : List Ac) (sp : Option Addr) (n cap : Nat) (w : World) (h1 : ps.length = 32) (h2 : ∀ a ∈ ps, a.lk.length = 32) (hn : n ≤ 140737488355328) :
    Calls Try.prog 72 #[.agg (stA ps sp n cap)] w fun e w' => e = .returned (.int .u64 n) ∧ Below w.heap.size w w' := by
  have A0 := Arr.new w 38 (stA ps sp n cap)
  have hb0 := alloc_bel' w (.cells (stA ps sp n cap) 38)
  have c1 := A0.stOut h1 h2
  have hw : (n : Int) % 18446744073709551616 = n := by omega
  go_enter Try.func72, Try.ntmps72
  go_wp2_with fail
  go_ret
  exact ⟨by simp [hw], hb0⟩
end Go.Proofs.Ytbfelelngoonjaa
/- Layer oracle: what the layers below give. -/
namespace Go.Proofs.Ytbfelelngoonjaa
open Go.RowKit
set_option maxRecDepth 100000
set_option linter.unusedVariables false
set_option linter.unusedSimpArgs false

theorem ag24b {ops : Array Oper} {rest : List Oper} {o : Oper} {a : Act} {w : World} {Q : Exit → Act → World → Prop} (hgd : o.guard = none) (s x : Operand) (ho : o.op = .call { callee := .builtin .append, args := #[s, x], argTypes := #[90, 90] })
    (base k : Nat) (v : Value) (ls : List (List Int)) (X : List Int) (hs : a.eval s = v) (hown : w.ownsRow base 32 32 v k (flat32 ls))
    (gx c : Nat) (hx : a.eval x = .slice (some ⟨gx, 0, none⟩) 1 c) (hA : Arr w gx 32 (h8 X)) (hX : X.length = 32) (hk : k ≤ 1000) (hbase : base ≤ w.heap.size)
    (h : ∀ v' w', w'.ownsRow base 32 32 v' (k + 1) (flat32 (ls ++ [X])) → w.grownBy w' v.ownBlock → (v'.ownBlock = v.ownBlock ∨ v'.ownBlock = some w.heap.size) → wpList Try.prog ops Q rest (a.put o.dst v') w') : wpList Try.prog ops Q (o :: rest) a w := by
  obtain ⟨i0, hi0, hz0, hz1, hz2⟩ := info_parts info24
  refine wpList_plain hgd fun _ hK => ?_
  obtain ⟨v', w', hr, h2, h3, h4, h5⟩ := run_append_own_at (P := Try.prog) w base 90 o.type 32 i0 (.agg (h8 Z32)) 32 32 Try.underlying90 hi0 hz0 hz1 hz2 (by show (h8 Z32).size = 32; rw [h8_size, Z32_len]) (by omega) v k _ hown ⟨gx, 0, none⟩ 1 c (by8 X) (by rw [by8_len, hX]) (fun j u hj => by
    rw [Addr.add_mid]; exact hA.range j u hj) (by8_one X) (by unfold maxLen; omega) (by omega) hbase
  unfold Oper.wp execOp
  simp only [ho, resolve, invoke, builtin, Sem.run_bind, Sem.run_pure, Result.andThen_ok, List.map_toArray, List.map_cons, List.map_nil, hs, hx, hr]
  exact hK _ _ (h v' w' (by rw [flat32_app]; exact h2) h3 h5)
theorem bl24 {ops : Array Oper} {rest : List Oper} {o : Oper} {a : Act} {w : World} {Q : Exit → Act → World → Prop} (hgd : o.guard = none) (x : Operand) (ho : o.op = .buildSlice 90 1 #[(0, x)]) (X : List Int) (hx : a.eval x = .agg (h8 X)) (hX : X.length = 32)
    (h : wpList Try.prog ops Q rest (a.put o.dst (.slice (some ⟨w.heap.size, 0, none⟩) 1 1)) (w.alloc (.cells (h8 X) 32))) : wpList Try.prog ops Q (o :: rest) a w :=
  wpList_plain hgd fun _ hK => wp_bld1 x ho X hx hX (hK _ _ h)
theorem EnOK.far {N : Nat} {w w' : World} {r : Option Nat} {e : En} (h : EnOK N w e) (hg : w.grownBy w' r) (hN : N ≤ w.heap.size) (hne : ∀ b off, e.sp = some ⟨b, off, none⟩ → some b ≠ r) : EnOK N w' e :=
  ⟨⟨h.body.len, h.body.nil, h.body.le, h.body.big, h.body.small, fun h0 => by
    obtain ⟨b, off, q, hb, hB⟩ := h.body.at0 h0
    refine ⟨b, off, q, hb, fun u hu => ?_⟩
    rw [World.cell?_of_block (w := w) (a := ⟨b, off + u, none⟩) (hg.block b (by omega) (hne b off q))]
    exact hB u hu, h.body.bts⟩, h.s32⟩
theorem HS.far {N : Nat} {w w' : World} {r : Option Nat} {sp : Option Addr} {n cap : Nat} {ls : List (List Int)} (h : HS N w sp n cap ls) (hg : w.grownBy w' r) (hN : N ≤ w.heap.size) (hne : ∀ b off, sp = some ⟨b, off, none⟩ → some b ≠ r) : HS N w' sp n cap ls :=
  ⟨h.len, h.nil, h.le, h.big, h.small, fun h0 => by
    obtain ⟨b, off, q, hb, hB⟩ := h.at0 h0
    refine ⟨b, off, q, hb, fun i X hX j v hv => ?_⟩
    rw [World.cell?_of_block (w := w) (a := ⟨b, off + i * 32 + j, none⟩) (hg.block b (by omega) (hne b off q))]
    exact hB i X hX j v hv, h.l32⟩
theorem EO.up {base ax : Nat} {w w' : World} {v u : Value} {es : List En} (h : EO base ax w v es) (hg : w.grownBy w' u.ownBlock) (hu : ∀ k, u.ownBlock = some k → k = ax) (hv : v.ownBlock ≠ some ax) : EO base ax w' v es ∧ EO base w.heap.size w' v es := by
  have hz := hg.size
  have h1 : w'.ownsRow base 71 33 v es.length (flatE es) := own_same h.own (fun k hk => hg.block k (own_lt h.own hk) (fun e => hv (by rw [← hu k e.symm]; exact hk)))
  have h2 : ∀ e ∈ es, EnOK w'.heap.size w' e := fun e he => ((h.ok e he).far hg (Nat.le_refl _) (fun b off q hb => (h.ap e he b off q).2.2.2 (hu b hb.symm))).mono hz
  refine ⟨⟨h1, h2, fun e he b off q => ?_⟩, ⟨h1, h2, fun e he b off q => ?_⟩⟩
  · obtain ⟨a1, a2, a3, a4⟩ := h.ap e he b off q
    exact ⟨a1, by omega, a3, a4⟩
  · obtain ⟨a1, a2, a3, a4⟩ := h.ap e he b off q
    exact ⟨a1, by omega, a3, by omega⟩
theorem EO.ax {base ax ax' : Nat} {w : World} {v : Value} {es : List En} (h : EO base ax w v es) (h' : ax' < base) : EO base ax' w v es :=
  ⟨h.own, h.ok, fun e he b off q => by obtain ⟨a1, a2, a3, a4⟩ := h.ap e he b off q; exact ⟨a1, a2, a3, by omega⟩⟩
theorem own_eq {w : World} {base e s n k : Nat} {v : Value} {xs : List Value} (h : w.ownsRow base e s v n xs) (hk : v.ownBlock = some k) : base ≤ k ∧ k < w.heap.size := ⟨own_ge h k hk, own_lt h hk⟩
/-- What pairs answers. -/
def PRPost (l : List (List Int)) (w : World) (r : Ending) (w' : World) : Prop :=
  ∃ v es, r = .returned (.tuple #[v, .agg (h8 (tr 5 l))]) ∧ EO (w.heap.size + 1) w.heap.size w' v es ∧ Hid (es.map En.bs = prs 5 (pad l)) ∧ Hid (∀ e ∈ es, e.sm = shl e.bs) ∧ Below w.heap.size w w'
theorem lvl_two {F : List (List Int)} {K k : Nat} (hF : F.length = 2 * K) (hk : k < K) : ∃ X Y, F[2 * k]? = some X ∧ F[2 * k + 1]? = some Y ∧ (lvl F)[k]? = some (1 :: (X ++ Y)) := by
  have h1 : 2 * k < F.length := by omega
  have h2 : 2 * k + 1 < F.length := by omega
  exact ⟨_, _, List.getElem?_eq_getElem h1, List.getElem?_eq_getElem h2, lvl_get F k _ _ (List.getElem?_eq_getElem h1) (List.getElem?_eq_getElem h2)⟩
theorem pairs_res {f : Func} {w : World} {tmps : Array Value} {g : Nat} {X : List Int} {v : Value} {k t : Nat} (hf : f.results = #[.tmp k, .cell t 32]) (hk : tmps.getD k undef = v) (hp : tmps.getD t undef = .pointer (some ⟨g, 0, none⟩)) (hX : X.length = 32) (hA : Arr w g 32 (h8 X)) :
    (results f tmps).run Try.prog w = .ok (.tuple #[v, .agg (h8 X)]) w := by
  have hl := run_loadVar_mid (P := Try.prog) w g 0 32 (by8 X) _ hA.range Try.underlying32 rfl (by rw [by8_len, hX]; exact size24)
  have hp' : tmps[t]?.getD undef = .pointer (some ⟨g, 0, none⟩) := by simpa using hp
  have hk' : tmps[k]?.getD undef = v := by simpa using hk
  simp [results, hf, hp', hk', asAddr, hl, h8]
theorem shl_map_32 (l : List (List Int)) : ∀ x ∈ l.map shl, x.length = 32 := by
  intro x hx; obtain ⟨y, -, rfl⟩ := List.mem_map.1 hx; exact shl_len _
theorem shl_map_bts (l : List (List Int)) : ∀ x ∈ l.map shl, Bts x := by
  intro x hx; obtain ⟨y, -, rfl⟩ := List.mem_map.1 hx; exact shl_bts _
theorem pad_bts {l : List (List Int)} (h : ∀ x ∈ l, Bts x) : ∀ x ∈ pad l, Bts x := by
  intro x hx
  rcases List.mem_append.1 hx with h1 | h1
  · exact h x h1
  · rw [(List.mem_replicate.1 h1).2]; exact Z32_bts
/-- What stands at the head of the outer loop. -/
structure OI (w : World) (B : List (List Int)) (R : List Int) (d : Nat) (F : List (List Int)) (es : List En) (vo : Value) (spF : Option Addr) (nF cF : Nat) (W : World) : Prop where
  len : Hid (F.length = 2 ^ d ∧ nF = 2 ^ d ∧ d ≤ 5)
  hs : HS W.heap.size W spF nF cF F
  bts : Hid (∀ x ∈ F, Bts x)
  eo : EO (w.heap.size + 1) w.heap.size W vo es
  far : ∀ b off, spF = some ⟨b, off, none⟩ → vo.ownBlock ≠ some b
  gb : ∀ b off, spF = some ⟨b, off, none⟩ → w.heap.size < b
  bs : Hid (es.map En.bs ++ prs d F = B)
  sm : Hid (∀ e ∈ es, e.sm = shl e.bs)
  rt : Hid (tr d F = R)
  res : Arr W w.heap.size 32 (h8 Z32)
  bel : Below w.heap.size w W
theorem hs_lt {N : Nat} {w : World} {sp : Option Addr} {n cap b off : Nat} {ls : List (List Int)} (h : HS N w sp n cap ls) (hn : 0 < n) (he : sp = some ⟨b, off, none⟩) : b < N := by
  obtain ⟨g, o, q, hg, -⟩ := h.at0 hn
  rw [he] at q; cases q; exact hg
/-- .. of the inner one: k pairs of the level are laid. -/
structure II (w : World) (F : List (List Int)) (K : Nat) (bs0 : List (List Int)) (spF : Option Addr) (nF cF : Nat) (k : Nat) (es : List En) (vo vu : Value) (ub : Nat) (W : World) : Prop where
  hs : HS W.heap.size W spF nF cF F
  eo : EO (w.heap.size + 1) ub W vo es
  up : W.ownsRow (w.heap.size + 1) 32 32 vu k (flat32 (((lvl F).map shl).take k))
  hu : ∀ j, vu.ownBlock = some j → j = ub
  ne : vo.ownBlock ≠ some ub
  lt : ub < W.heap.size
  fo : ∀ b off, spF = some ⟨b, off, none⟩ → vo.ownBlock ≠ some b
  fu : ∀ b off, spF = some ⟨b, off, none⟩ → vu.ownBlock ≠ some b
  bs : Hid (es.map En.bs = bs0 ++ (lvl F).take k)
  sm : Hid (∀ e ∈ es, e.sm = shl e.bs)
  res : Arr W w.heap.size 32 (h8 Z32)
  bel : Below w.heap.size w W
section
variable {w : World} {F : List (List Int)} {K : Nat} {bs0 : List (List Int)} {spF : Option Addr} {nF cF k : Nat} {es : List En} {vo vu : Value} {ub : Nat} {W W1 W2 W3 W4 : World}
theorem II.below (h : II w F K bs0 spF nF cF k es vo vu ub W) (hb : Below W.heap.size W W1) : II w F K bs0 spF nF cF k es vo vu ub W1 :=
  ⟨(h.hs.below hb).mono hb.size, h.eo.below hb, own_same h.up (fun j hj => hb.block j (own_lt h.up hj)), h.hu, h.ne, Nat.lt_of_lt_of_le h.lt hb.size, h.fo, h.fu, h.bs, h.sm, h.res.bel hb, h.bel.trans (hb.mono h.bel.size)⟩
theorem II.upAt (h1 : II w F K bs0 spF nF cF k es vo vu ub W1) (hg : W1.grownBy W2 vo.ownBlock) (hb3 : Below W2.heap.size W2 W3) : W3.ownsRow (w.heap.size + 1) 32 32 vu k (flat32 (((lvl F).map shl).take k)) := by
  have h2 : W2.ownsRow (w.heap.size + 1) 32 32 vu k (flat32 (((lvl F).map shl).take k)) := own_same h1.up (fun j hj => hg.block j (own_lt h1.up hj) (fun e => h1.ne (by rw [← h1.hu j hj]; exact e.symm)))
  exact own_same h2 (fun j hj => hb3.block j (own_lt h2 hj))
theorem II.next {e : En} {vo2 vu2 : Value} (hn : 0 < nF) (h1 : II w F K bs0 spF nF cF k es vo vu ub W1) (hE : EO (w.heap.size + 1) ub W2 vo2 (es ++ [e])) (hg : W1.grownBy W2 vo.ownBlock) (h5 : vo2.ownBlock = vo.ownBlock ∨ vo2.ownBlock = some W1.heap.size)
    (hb3 : Below W2.heap.size W2 W3) (hu : W4.ownsRow (w.heap.size + 1) 32 32 vu2 (k + 1) (flat32 (((lvl F).map shl).take k ++ [e.sm]))) (hg4 : W3.grownBy W4 vu.ownBlock) (h6 : vu2.ownBlock = vu.ownBlock ∨ vu2.ownBlock = some W3.heap.size)
    (hl : (lvl F)[k]? = some e.bs) (hsm : e.sm = shl e.bs) : ∃ ub2, II w F K bs0 spF nF cF (k + 1) (es ++ [e]) vo2 vu2 ub2 W4 := by
  have z12 := hg.size
  have z23 := hb3.size
  have z34 := hg4.size
  have hv2 : vo2.ownBlock ≠ some ub := fun q => by
    rcases h5 with h5 | h5
    · exact h1.ne (h5.symm.trans q)
    · rw [h5] at q; have := Option.some.inj q; have := h1.lt; omega
  have e3 := hE.below hb3
  obtain ⟨e4, e4'⟩ := e3.up hg4 h1.hu hv2
  have hs2 := h1.hs.far hg (Nat.le_refl _) (fun b off q r => h1.fo b off q r.symm)
  have hs3 := ((hs2.mono z12).below hb3).mono z23
  have hs4 := (hs3.far hg4 (Nat.le_refl _) (fun b off q r => h1.fu b off q r.symm)).mono z34
  have hm : ((lvl F).map shl)[k]? = some e.sm := by rw [List.getElem?_map, hl, hsm]; rfl
  rw [← take_succ' hm] at hu
  have hfo : ∀ b off, spF = some ⟨b, off, none⟩ → vo2.ownBlock ≠ some b := fun b off q r => by
    have hlt := hs_lt h1.hs hn q
    rcases h5 with h5 | h5
    · exact h1.fo b off q (h5.symm.trans r)
    · rw [h5] at r; have := Option.some.inj r; omega
  have hfu : ∀ b off, spF = some ⟨b, off, none⟩ → vu2.ownBlock ≠ some b := fun b off q r => by
    have hlt := hs_lt hs3 hn q
    rcases h6 with h6 | h6
    · exact h1.fu b off q (h6.symm.trans r)
    · rw [h6] at r; have := Option.some.inj r; omega
  have hbs : Hid ((es ++ [e]).map En.bs = bs0 ++ (lvl F).take (k + 1)) := Hid.mk' (by rw [take_succ' hl, List.map_append, h1.bs.out, List.append_assoc]; rfl)
  have hsm' : Hid (∀ f ∈ es ++ [e], f.sm = shl f.bs) := Hid.mk' (fun f hf => by
    rcases List.mem_append.1 hf with hf | hf
    · exact h1.sm.out f hf
    · simp at hf; subst hf; exact hsm)
  have hB1 := h1.bel.size
  have b2 : Below w.heap.size w W2 := grown_below h1.bel hg (fun j hj => by have := (own_eq h1.eo.own hj).1; omega) hB1
  have b3 := b2.trans (hb3.mono b2.size)
  have b4 : Below w.heap.size w W4 := grown_below b3 hg4 (fun j hj => by have := (own_eq h1.up hj).1; omega) b3.size
  have r2 : Arr W2 w.heap.size 32 (h8 Z32) := h1.res.grown hg (fun e => by have := (own_eq h1.eo.own e.symm).1; omega)
  have r4 : Arr W4 w.heap.size 32 (h8 Z32) := (r2.bel hb3).grown hg4 (fun e => by have := (own_eq h1.up e.symm).1; omega)
  rcases h6 with h6 | h6
  · exact ⟨ub, hs4, e4, hu, fun j hj => h1.hu j (h6.symm.trans hj), hv2, by have := h1.lt; omega, hfo, hfu, hbs, hsm', r4, b4⟩
  · refine ⟨W3.heap.size, hs4, e4', hu, fun j hj => by rw [h6] at hj; exact (Option.some.inj hj).symm, fun q => ?_, ?_, hfo, hfu, hbs, hsm', r4, b4⟩
    · have := (own_eq hE.own q).2; omega
    · exact own_lt hu h6
/-- A level is done. -/
theorem II.done {B : List (List Int)} {R : List Int} {d : Nat} {k : Nat} (hF : F.length = 2 ^ (d + 1)) (hd : d + 1 ≤ 5) (hK : K = 2 ^ d) (hk : k = K) (hB : bs0 ++ prs (d + 1) F = B) (hR : tr (d + 1) F = R) (h : II w F K bs0 spF nF cF k es vo vu ub W) :
    ∃ sp cap, vu = .slice sp (2 ^ d) cap ∧ OI w B R d ((lvl F).map shl) es vo sp (2 ^ d) cap W := by
  rw [hk] at h
  clear hk
  have hl : (lvl F).length = K := lvl_len K F (by rw [hF, hK, Nat.pow_succ]; omega)
  have htk : ((lvl F).map shl).take K = (lvl F).map shl := List.take_of_length_le (by simp [hl])
  have htk' : (lvl F).take K = lvl F := List.take_of_length_le (by omega)
  have hup := h.up
  rw [htk] at hup
  have hp : 2 ^ d ≤ 32 := by
    have : 2 ^ d ≤ 2 ^ 5 := Nat.pow_le_pow_right (by omega) (by omega)
    omega
  obtain ⟨sp, cap, rfl, hS, hsp⟩ := own_hs hup (shl_map_32 _) (by simp [hl]) (by omega)
  have hbs := h.bs.out
  rw [htk'] at hbs
  rw [hK] at hS ⊢
  refine ⟨sp, cap, rfl, ⟨Hid.mk' ⟨by simp [hl, hK], rfl, by omega⟩, hS, Hid.mk' (shl_map_bts _), h.eo.ax (by omega), fun b off q r => ?_, fun b off q => hsp b off q, Hid.mk' ?_, h.sm, Hid.mk' ?_, h.res, h.bel⟩⟩
  · have hub : (Value.slice sp K cap).ownBlock = some b → b = ub := h.hu b
    obtain ⟨-, h' | ⟨g, c, cur, q', -⟩⟩ := hup
    · obtain ⟨q', -⟩ := h'
      cases q'; cases q
    · cases q'; cases q
      have := hub rfl
      subst this
      exact h.ne r
  · rw [hbs, ← hB, List.append_assoc]; rfl
  · rw [← hR]; exact (tr_lvl d F (by rw [hF]; exact Nat.le_refl _)).symm
end
end Go.Proofs.Ytbfelelngoonjaa
