/- Layer oracle: what the layers below give. -/
import Derived.Test.YtbfelelngoonjaaX01
import Derived.Test.YtbfelelngoonjaaX02
import Derived.Test.YtbfelelngoonjaaX04
import Derived.Test.YtbfelelngoonjaaX05
import Derived.Test.YtbfelelngoonjaaX10
import Derived.Test.YtbfelelngoonjaaX06
import Derived.Test.YtbfelelngoonjaaX12
import Derived.Test.YtbfelelngoonjaaX13
import Derived.Test.YtbfelelngoonjaaX14
import Derived.Test.YtbfelelngoonjaaX17
import Derived.Test.YtbfelelngoonjaaX18
import Derived.Test.YtbfelelngoonjaaX19
import Derived.Test.YtbfelelngoonjaaX21
import Derived.BigQuiet
import Derived.BigRegion
import Derived.ChangeKeysEq
import Derived.Deep.DeepCutAuto
import Derived.Deep.DrawnRows
import Derived.Deep.MidRow
import Derived.Deep.QuietTactic
import Derived.Deep.RegionHeld3
import Derived.Deep.RegionLaw
import Derived.Deep.RegionWith
import Derived.Deep.WholeRow
import Derived.Great.BuildSlice
import Derived.Great.FillDense
import Derived.Laws.AppendOwnNone
import Derived.Laws.BitsLemmas
import Derived.Laws.BytesArg
import Derived.Laws.CopyOwn
import Derived.Laws.CopyRow
import Derived.Laws.MakeOwn
import Derived.Laws.OwnMore
import Derived.Laws.Tables
import Derived.Lib.SlBytesConst
import Derived.LoopIn
import Derived.LoopNIn
import Derived.Maps.AppendAt
import Derived.OwnWalkIn
import Derived.RangeFuncBound
import Derived.RangeFuncCalls
import Derived.RangeFuncLeaves
import Derived.RangeFuncNested
import Derived.RangeFuncRecord
import Derived.Shelf.Abstract
import Derived.Shelf.RegionOpen
import Derived.TacticsInMore
import Derived.WalkKit
import Derived.WalkLawsBesides
import Derived.WalkSpells
namespace Go.Proofs.Ytbfelelngoonjaa
open Go.RowKit Go.Shelf
set_option maxRecDepth 100000
set_option linter.unusedVariables false
set_option linter.unusedSimpArgs false
attribute [local go_sem] Oper.semAt_some

/-- A part: an iterator, what it wants of the memory, what it tells. -/
structure Part where
  gf : Nat
  lb : Array Value
  M : World → Prop
  T : Nat → En → Prop
  n : Nat
structure Part.OK (p : Part) (S0 : Nat) : Prop where
  tells : ∀ S, S0 ≤ S → Tells p.gf p.lb S S0 p.M p.T p.n
  ent : ∀ args w, (callFunc p.gf args).run Try.prog w = .ok (.enter p.gf args) w
/-- How many the first i parts tell. -/
def sumN (ps : List Part) (i : Nat) : Nat := ((ps.take i).map Part.n).sum
theorem sumN_succ {ps : List Part} {i : Nat} {p : Part} (h : ps[i]? = some p) : sumN ps (i + 1) = sumN ps i + p.n := by
  unfold sumN
  rw [List.take_add_one, h]
  simp
theorem sumN_le (ps : List Part) {i j : Nat} (h : i ≤ j) : sumN ps i ≤ sumN ps j := by
  induction j with
  | zero =>
    obtain rfl : i = 0 := by omega
    exact Nat.le_refl _
  | succ j ih =>
    by_cases e : i = j + 1
    · rw [e]; exact Nat.le_refl _
    · refine Nat.le_trans (ih (by omega)) ?_
      cases hp : ps[j]? with
      | none =>
        unfold sumN
        rw [List.take_add_one, hp]; simp
      | some p => rw [sumN_succ hp]; omega
def mkD (D : Nat) : Deferred := { target := .collected D, args := #[] }
theorem leaves_marks {k : Nat} {fn : Func} {tmps : Array Value} {R : Ending → World → Prop} (hf : fn.results = #[]) (S0 : Nat) (own : Nat → Prop) (J : World → Prop) (hJ : ∀ w w', J w → Sam S0 own w w' → J w') (hR : ∀ v w, J w → R (.returned v) w) :
    ∀ (ds : List Nat) (w : World), (∀ D ∈ ds, (S0 ≤ D ∧ ¬ own D) ∧ w.heap[D]? = some (.deferred (some []))) → ds.Nodup → J w → LeavesInM Fence.wide k Try.prog fn tmps R (ds.map mkD) .returning w
  | [], w, _, _, h => ⟨_, results_none hf _ _ _, hR _ w h⟩
  | D :: ds, w, hd, hn, h => by
    obtain ⟨h1, h2⟩ := hd D (by simp)
    refine ⟨by simp, .inl ⟨D, _, rfl, run_takeDeferred h2, ?_⟩⟩
    have hn' := List.nodup_cons.1 hn
    refine leaves_marks hf S0 own J hJ hR ds _ (fun D' hD' => ?_) hn'.2 (hJ w _ h (sam_put h1.1 h1.2 _))
    obtain ⟨a1, a2⟩ := hd D' (by simp [hD'])
    exact ⟨a1, (World.putObj_heap_other (fun e => by subst e; exact hn'.1 hD')).trans a2⟩
/-- What the loop over the parts keeps. -/
structure IT (S0 gy lp : Nat) (ps : List Part) (J : Nat → (Nat → Prop) → World → Prop) (i : Nat) (ds : List Nat) (own : Nat → Prop) (w : World) : Prop where
  j : J (sumN ps i) own w
  y : Arr w gy 107 #[.func (.yield lp) #[] #[]]
  yo : ¬ own gy
  d : ∀ D ∈ ds, (S0 ≤ D ∧ D ≠ gy ∧ ¬ own D) ∧ w.heap[D]? = some (.deferred (some []))
  nd : ds.Nodup
set_option maxHeartbeats 2000000 in
theorem inTurn_in (gc gp S0 B0 : Nat) (ps : List Part) (hgc : gc < S0) (hgp : gp < S0) (hBS : B0 ≤ S0) (h5 : ps.length = 5) (hok : ∀ p ∈ ps, p.OK B0) :
    Tells 92 #[.pointer (some ⟨gc, 0, none⟩)] S0 B0 (fun W => W.cell? ⟨gc, 0, none⟩ = some (.slice (some ⟨gp, 0, none⟩) 5 5) ∧ (∀ i p, ps[i]? = some p → W.cell? ⟨gp, i, none⟩ = some (.func (.func p.gf) #[] p.lb)) ∧ ∀ p ∈ ps, p.M W)
      (fun j e => ∃ i p, ps[i]? = some p ∧ sumN ps i ≤ j ∧ j < sumN ps i + p.n ∧ p.T (j - sumN ps i) e) (sumN ps 5) := by
  intro k lp J hJM hJB hY W own0 h0
  refine callsIn_of_wp_marks Try.func92 rfl trivial ?_ rfl
  simp only [Try.ntmps92, List.size_toArray, List.length_cons, List.length_nil, Nat.reduceAdd, Nat.reduceSub, Array.replicate_succ, Array.replicate_zero, List.push_toArray, List.append_toArray, List.nil_append, List.cons_append]
  obtain ⟨⟨c1, -, -⟩, hsz, ho0⟩ := hJM 0 own0 W h0
  have hb0 := alloc_bel' W (.cells #[.func (.yield lp) #[] #[]] 107)
  have c1' := (hb0.cell (p := ⟨gc, 0, none⟩) (by show gc < _; omega)).trans c1
  have A0 := Arr.new W 107 #[.func (.yield lp) #[] #[]]
  have hJ0 := hJB 0 own0 W _ h0 (Sam.of hb0)
  have IT0 : IT S0 W.heap.size lp ps J 0 [] own0 (W.alloc (.cells #[.func (.yield lp) #[] #[]] 107)) := ⟨by simpa [sumN] using hJ0, A0, fun h => by have := ho0 _ h; omega, (fun D hD => by cases hD), List.nodup_nil⟩
  obtain ⟨gy, hgy⟩ : ∃ gy, gy = W.heap.size := ⟨_, rfl⟩
  clear A0 hJ0 c1
  gi_wp2
  rw [← hgy] at IT0 ⊢
  have hgyS : S0 ≤ gy := by omega
  replace hgy := Hid.mk' hgy
  refine wpIn_loop (fun a w => ∃ (i : Nat) (ds : List Nat) (own : Nat → Prop) (x3 x4 x5 x9 x10 x11 x12 x13 x14 x15 x16 x17 x18 : Value), a = { tmps := #[.func (.yield lp) #[] #[], .pointer (some ⟨gc, 0, none⟩), .pointer (some ⟨gy, 0, none⟩), x3, x4, x5, .slice (some ⟨gp, 0, none⟩) 5 5, .int .i64 5, .int .i64 (i : Int), x9, x10, x11, x12, x13, x14, x15, x16, x17, x18], defers := ds.map mkD } ∧ i ≤ 5 ∧ IT S0 gy lp ps J i ds own w) (fun a _ => 5 - (intOf (a.tmps.getD 8 undef)).toNat) ?_ ?_
  · exact ⟨0, [], own0, _, _, _, _, _, _, _, _, _, _, _, _, _, rfl, by omega, IT0⟩
  · rintro a wr ⟨i, ds, own1, x3, x4, x5, x9, x10, x11, x12, x13, x14, x15, x16, x17, x18, rfl, hi, hIT⟩
    clear IT0 h0 hb0 c1'
    obtain ⟨⟨c1, c2, -⟩, hszr, ho1⟩ := hJM _ own1 wr hIT.j
    by_cases hlt : i < 5
    · have hI : (i : Int) < 5 := by omega
      obtain ⟨p, hp⟩ : ∃ p, ps[i]? = some p := ⟨ps[i]'(by omega), List.getElem?_eq_getElem _⟩
      have hpm := List.mem_of_getElem? hp
      have hpo := hok p hpm
      have c3 := c2 i p hp
      clear c2
      have hsn := sumN_succ hp
      replace hp := Hid.mk' hp
      replace hsn := Hid.mk' hsn
      have hgyl := hIT.y.lt
      gi_wp2
      refine range_one p.gf p.lb wr.heap.size rfl (by rfl) hpo.ent p.n B0 p.T p.M (hpo.tells _ (by omega)) (fun j own W' => J (sumN ps i + j) own W' ∧ Arr W' gy 107 #[.func (.yield lp) #[] #[]] ∧ ¬ own gy ∧ (∀ D ∈ ds, ¬ own D ∧ W'.heap[D]? = some (.deferred (some []))) ∧ wr.heap.size ≤ W'.heap.size) ?_ ?_ own1 ?_ ?_ ?_
      · rintro j own W' ⟨hj, -⟩
        exact ⟨(hJM _ own W' hj).1.2.2 p hpm, (hJM _ own W' hj).2.2⟩
      · rintro j own W1 W2 ⟨hj, hy, hyo, hd, hs⟩ hb
        exact ⟨hJB _ _ _ _ hj (hb.lift hszr), (hb.block gy (by omega) (.inl (by omega))).trans hy, hyo, fun D hD => ⟨(hd D hD).1, (hb.block D (by have := (Array.getElem?_eq_some_iff.1 (hIT.d D hD).2).1; omega) (.inl (Array.getElem?_eq_some_iff.1 (hIT.d D hD).2).1)).trans (hd D hD).2⟩, Nat.le_trans hs hb.size⟩
      · exact ⟨hIT.j, hIT.y, hIT.yo, fun D hD => ⟨(hIT.d D hD).1.2.2, (hIT.d D hD).2⟩, Nat.le_refl _⟩
      · rintro j own W1 e ⟨hj, hy, hyo, hd, hs⟩ hjn hsz1 heo hte hqe m
        have he32 := heo.s32
        simp only [List.setIfInBounds_toArray, List.set_cons_zero, List.set_cons_succ]
        gi_wp2_with (refine si77n (by rfl) _ _ (by rfl) W1 W1.heap.size rfl (by rfl) e (by rfl) (by rfl) he32 ?_)
        refine ⟨alloc_bel' W1 _, ?_⟩
        intro w2 hb2 hk2 hs2 heo2 hI2
        have hs2' : w2.heap.size = W1.heap.size + 1 := by rw [hs2]; simp
        obtain ⟨hJ2, y2A, -, hd2, -⟩ := hI2
        have y2 := y2A.cell 0
        have A2 : Arr w2 W1.heap.size 71 e.arr := (hk2 _ hsz1).trans (Arr.new W1 71 e.arr)
        obtain ⟨fn, tmps, assign, body, hyi, hR⟩ := hY _ own w2 e hJ2 (by
          have : sumN ps (i + 1) ≤ sumN ps 5 := sumN_le ps (by omega)
          have := hsn.out
          omega) heo2 ⟨i, p, hp.out, by omega, by omega, by rw [Nat.add_sub_cancel_left]; exact hte⟩ hqe
        have hngy : ¬ EB e gy := fun h => by
          obtain ⟨off, x, hc⟩ := h.cell heo2
          rw [y2A.cell] at hc
          match off, hc with
          | 0, hc => simp at hc
          | off + 1, hc => simp at hc
        simp at y2
        gi_wp2_with (refine li77 (by rfl) _ (by rfl) W1.heap.size 0 (by rfl) e he32 (rangeE A2) ?_)
        refine ⟨fun h => (by cases h), (roundIn_any hR).mono ?_⟩
        rintro r W3 ⟨rfl, own3, hJ3, hown3, hkeep⟩
        gi_wp2
        have hj2 := (hJM _ own w2 hJ2).2.2
        have hj0 := (hJM _ own W1 hj).2.2
        have hs3 : w2.heap.size ≤ W3.heap.size := by
          have h := hkeep W1.heap.size (by omega) (by omega) (fun ho => by have := hj0 _ ho; omega)
          have := (Array.getElem?_eq_some_iff.1 (h.trans A2)).1
          omega
        refine ⟨own3, ⟨hJ3, (hkeep gy hgyS (by omega) hyo).trans y2A, fun ho => by rcases hown3 _ ho with h | h | h; exact hyo h; omega; exact hngy h, fun D hD => ?_, by omega⟩, fun b hb => by rcases hown3 b hb with h | h | h; exact .inl h; exact .inr (.inl (by omega)); exact .inr (.inr h), hs3, fun b hb1 hb2' hb3 => hkeep b (by omega) (by omega) hb3⟩
        have hDl := (Array.getElem?_eq_some_iff.1 (hIT.d D hD).2).1
        exact ⟨fun ho => (by rcases hown3 _ ho with h | h | h; exact (hd D hD).1 h; omega; obtain ⟨off, x, hc⟩ := h.cell heo2; rw [cell_def (hd2 D hD).2] at hc; cases hc), (hkeep D (hIT.d D hD).1.1 (by omega) (hd D hD).1).trans (hd2 D hD).2⟩
      · rintro own W' o ⟨hj, hy, hyo, hd, hs⟩ hoD hsz2 hdf
        have hnD : ¬ own wr.heap.size := hoD.1
        gi_wp2
        refine ⟨⟨i + 1, wr.heap.size :: ds, own, _, _, _, _, _, _, _, _, _, _, _, _, _, rfl, by omega, ⟨?_, ?_, hyo, ?_, ?_⟩⟩, ?_⟩
        · rw [hsn.out]
          exact hJB _ _ _ _ hj (sam_put (by omega) hoD.2 _)
        · exact hy.put _ (by omega)
        · intro D hD
          rcases List.mem_cons.1 hD with rfl | hD
          · exact ⟨⟨hszr, by omega, hnD⟩, (World.putObj_heap_other (by omega)).trans hdf⟩
          · have hDl := (Array.getElem?_eq_some_iff.1 (hIT.d D hD).2).1
            exact ⟨⟨(hIT.d D hD).1.1, (hIT.d D hD).1.2.1, (hd D hD).1⟩, (World.putObj_heap_other (by omega)).trans (hd D hD).2⟩
        · refine List.nodup_cons.2 ⟨fun hD => ?_, hIT.nd⟩
          have hDl := (Array.getElem?_eq_some_iff.1 (hIT.d _ hD).2).1
          omega
        · simp [intOf]; omega
    · obtain rfl : i = 5 := by omega
      gi_wp2
      exact leaves_marks rfl S0 own1 (fun w => J (sumN ps 5) own1 w) (fun w w' h hb => hJB _ _ _ _ h hb) (fun v w h => ⟨⟨v, rfl⟩, own1, h⟩) ds wr (fun D hD => ⟨⟨(hIT.d D hD).1.1, (hIT.d D hD).1.2.2⟩, (hIT.d D hD).2⟩) hIT.nd hIT.j
end Go.Proofs.Ytbfelelngoonjaa
