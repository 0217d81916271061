/- ZPx, ZPe. -/
import Derived.Test.YtbhhbkoikocjgaaX01
import Derived.Test.YtbhhbkoikocjgaaX02
import Derived.Test.YtbhhbkoikocjgaaX03
import Derived.Test.YtbhhbkoikocjgaaX04
import Derived.Test.YtbhhbkoikocjgaaX05
import Derived.Test.YtbhhbkoikocjgaaX08
import Derived.Test.YtbhhbkoikocjgaaX06
import Derived.Test.YtbhhbkoikocjgaaX07
import Derived.Test.YtbhhbkoikocjgaaX10
import Derived.Test.YtbhhbkoikocjgaaX27
import Derived.Test.YtbhhbkoikocjgaaX30
import Derived.BigQuiet
import Derived.BigRegion
import Derived.ChangeKeysEq
import Derived.Deep.DeepCutAuto
import Derived.Deep.DrawnRows
import Derived.Deep.MidRow
import Derived.Deep.QuietTactic
import Derived.Deep.RegionHeld3
import Derived.Deep.RegionLaw
import Derived.Deep.RegionWith
import Derived.Deep.WholeRow
import Derived.Laws.AppendOwnNone
import Derived.Laws.BitsLemmas
import Derived.Laws.BytesArg
import Derived.Laws.CopyOwn
import Derived.Lib.SlBytesConst
import Derived.LoopIn
import Derived.LoopNIn
import Derived.OwnWalkIn
import Derived.RangeFuncBound
import Derived.RangeFuncCalls
import Derived.RangeFuncLeaves
import Derived.RangeFuncNested
import Derived.RangeFuncRecord
import Derived.Shelf.Abstract
import Derived.Shelf.RegionOpen
import Derived.TacticsInMore
import Derived.WalkKit
import Derived.WalkLawsBesides
import Derived.WalkSpells
import Derived.Test.YtbhhbkoikocjgaaX11
import Derived.Test.YtbhhbkoikocjgaaX12
import Derived.Test.YtbhhbkoikocjgaaX19
import Derived.Test.YtbhhbkoikocjgaaX17
import Derived.Test.YtbhhbkoikocjgaaX25
import Derived.Great.BuildSlice
import Derived.Laws.Tables
import Derived.Maps.AppendAt
/- Layer spec: what the layers below give. -/
namespace Go.Proofs.Ytbhhbkoikocjgaa
set_option linter.unusedSectionVars false
set_option maxHeartbeats 1000000
open Go.RowKit
set_option maxRecDepth 100000
set_option linter.unusedVariables false
set_option linter.unusedSimpArgs false

variable [DecidableEq Ac] [DecidableEq Ou] [DecidableEq Mg]
set_option maxHeartbeats 1000000 in
theorem leaf_any (sp : Option Addr) (n cap : Nat) (L : List Int) (w : World) (hn : n = L.length) (hnil : sp = none → n = 0 ∧ cap = 0) (hS : SlL w sp L) (hb : n ≤ 140737488355000) :
    Calls Try.prog 96 #[.slice sp n cap] w fun e w' => e = .returned (.agg (sha (0 :: L))) ∧ Below w.heap.size w w' := by
  obtain ⟨i0, hi, hz0, hz1, hz2⟩ := info_parts info5
  have hnI : (n : Int) ≤ 140737488355000 := by omega
  have hn0 : (0 : Int) ≤ n := by omega
  have HN := Hid.mk' hn
  clear hn
  go_enter Try.func96, Try.ntmps96
  go_wp2_with (first
    | (at_make; go_must (refine wpList_make_own _ (by rfl) (.const (.int .i64 0)) (.tmp 6) 63 (by rfl) (w.heap.size + 1) 5 i0 (.int .u8 0) 1 Try.underlying63 hi hz0 hz1 .i64 .i64 _ (n + 1) (by rfl) (by rfl) (by omega) (by rw [hz2]; omega) (Nat.le_trans (by omega) maxLen_ge) (by simp) ?_; intro w1 hown1 hg1; have hown1 : w1.ownsRow (w.heap.size + 1) 5 1 (.slice (some ⟨w.heap.size + 1, 0, none⟩) 0 (n + 1)) 0 [] := (by simpa using hown1); have hs1 : w.heap.size + 1 ≤ w1.heap.size := (by have := hg1.size; simpa using this); have hZ1 : ∃ Z : Array Value, Z.size = 32 ∧ Arr w1 w.heap.size 24 Z := ⟨_, by rfl, (Arr.new w 24 _).grown hg1 (by simp)⟩; have hS1 : SlL w1 sp L := (Sl.alloc hS _).grown hg1 (fun _ _ _ _ => by simp); have hB1 : Below w.heap.size w w1 := ((Below.refl _ _).alloc (Nat.le_refl _) _).grown hg1 (by simp) (by simp)))
    | (at_builtin; refine append_bytes (by rfl) (.tmp 8) (.tmp 9) (by rfl) (w.heap.size + 1) _ 0 [] (by rfl) (hown1.alloc _) (some ⟨w1.heap.size, 0, none⟩) 1 1 [0] (by rfl) (by rfl) (fun h => by cases h) (Arr.sl (Arr.new w1 5 _)) (by omega) (by simp; omega) ?_; intro v2 w2 hown2 hg2; obtain ⟨Z, hZs, hZ1⟩ := hZ1; have hZ2 := (hZ1.alloc _).grown hg2 (ne_own hown1 (by omega)); have hS2 : SlL w2 sp L := (Sl.alloc hS1 _).grown hg2 (fun b off e h0 => ne_own hown1 (by subst e; have := Sl.lt hS h0; omega)); have hB2 := (hB1.alloc (by omega) _).grown hg2 (by simp; omega) (fun k e => by have := own_ge hown1 k e; omega); have hs2 : w.heap.size + 1 ≤ w2.heap.size := (by have := hg2.size; simp at this; omega))
    | (at_builtin; refine append_bytes (by rfl) (.tmp 11) (.tmp 12) (by rfl) (w.heap.size + 1) _ 1 [0] (by rfl) hown2 sp n cap L (by rfl) HN.out hnil hS2 (by omega) hs2 ?_; intro v3 w3 hown3 hg3; have hZ3 := hZ2.grown hg3 (ne_own hown2 (by omega)); have hB3 := hB2.grown hg3 (by omega) (fun k e => by have := own_ge hown2 k e; omega); obtain ⟨g, cap3, rfl, hn3, hcap3, hg, hBy, -⟩ := own_slice hown3 (by omega))
    | (go_at_call 95; go_must (refine (sum_n g 0 (1 + n) cap3 ([0] ++ L) _ hn3 hBy hcap3 (by omega)).mono ?_; rintro e w4 ⟨rfl, hb4⟩; have hZ4 := hZ3.below hb4 hZ3.lt))
    | (refine wpList_store_arr (by rfl) 24 (.tmp 2) (.tmp 14) (by rfl) w.heap.size (sha ([0] ++ L)) (by rfl) (by rfl) 24 Z hZ4 (s24sha _) (by rw [hZs, sha_size]) (sha_one _) ?_))
  exact bodyPost_ret (v := .agg (sha (0 :: L))) (results_cell_row Try.results96 _ _ w.heap.size 24 _ (0, 0) _ rfl (hZ4.setRow _) Try.underlying24 rfl (s24sha _)) rfl ⟨rfl, below_setRow (hB3.trans (hb4.mono hB3.size)) (Nat.le_refl _) _⟩
set_option maxHeartbeats 1000000 in
theorem refLeaf_any (sp : Option Addr) (n cap : Nat) (L : List Int) (w : World) (hn : n = L.length) (hnil : sp = none → n = 0 ∧ cap = 0) (hS : SlL w sp L) (hb : n ≤ 140737488354000) :
    Calls Try.prog 80 #[.slice sp n cap] w fun e w' => e = .returned (.agg (sha (0 :: L))) ∧ Below w.heap.size w w' := by
  have HN := Hid.mk' hn
  clear hn
  have hlit : ∀ o : Obj, ((w.alloc o).alloc (.cells #[.int .u8 0] 5)).ownsRow (w.heap.size + 1) 5 1 (.slice (some ⟨w.heap.size + 1, 0, none⟩) 1 1) 1 (by8 [0]) := fun o => by
    have h : ((w.alloc o).alloc (.cells #[.int .u8 0] 5)).ownsRow (w.heap.size + 1) 5 1 (.slice (some ⟨(w.alloc o).heap.size, 0, none⟩) 1 1) 1 (by8 [0]) := World.ownsRow_lit _ _ _ (by simp) (by unfold maxLen; omega) rfl
    simpa using h
  go_enter Try.func80, Try.ntmps80
  go_wp2_with (first
    | (at_builtin; go_must (refine append_bytes (by rfl) (.tmp 3) (.tmp 4) (by rfl) (w.heap.size + 1) _ 1 [0] (by rfl) (hlit _) sp n cap L (by rfl) HN.out hnil (Sl.alloc (Sl.alloc hS _) _) (by omega) (by simp) ?_; intro v2 w2 hown2 hg2; obtain ⟨g, c2, rfl, hn2, hc2, hgg, hBy, -⟩ := own_slice hown2 (by omega); have hZ2 : ∃ Z : Array Value, Z.size = 32 ∧ Arr w2 w.heap.size 24 Z := ⟨_, by rfl, ((Arr.new w 24 _).alloc _).grown hg2 (by simp [Value.ownBlock])⟩; have hB2 : Below w.heap.size w w2 := (((Below.refl _ _).alloc (Nat.le_refl _) _).alloc (by simp) _).grown hg2 (by simp; omega) (fun k e => by simp [Value.ownBlock] at e; omega)))
    | (go_at_call 68; go_must (refine (refSum_any (some ⟨g, 0, none⟩) (1 + n) c2 (0 :: L) _ hn2.out (fun h => by cases h) (fun _ => ⟨g, 0, rfl, hBy⟩) (by omega)).mono ?_; rintro e w3 ⟨rfl, hb3⟩; obtain ⟨Z, hZs, hZ2⟩ := hZ2; have hZ3 := hZ2.below hb3 hZ2.lt))
    | (refine wpList_store_arr (by rfl) 24 (.tmp 2) (.tmp 6) (by rfl) w.heap.size (sha (0 :: L)) (by rfl) (by rfl) 24 Z hZ3 (s24sha _) (by rw [hZs, sha_size]) (sha_one _) ?_))
  exact bodyPost_ret (v := .agg (sha (0 :: L))) (results_cell_row Try.results80 _ _ w.heap.size 24 _ (0, 0) _ rfl (hZ3.setRow _) Try.underlying24 rfl (s24sha _)) rfl ⟨rfl, below_setRow (hB2.trans (hb3.mono hB2.size)) (Nat.le_refl _) _⟩
theorem from_cnt (n : Int) : u8s 32 (fromB (w4 n)) = h8 (cnt n) := by
  have e : h8 (cnt n) = (by8 (cnt n)).toArray := rfl
  rw [e]
  apply Array.ext_getElem?
  intro i
  by_cases hi : i < 32
  · rw [u8s_get hi, List.getElem?_toArray, by8_get (by rw [cnt_len]; exact hi)]
    congr 2
    unfold bat cnt fromB w4
    by_cases h : i < 24
    · rw [if_neg (by omega), List.getD_eq_getElem?_getD, List.getElem?_append_left (by simpa using h)]
      rw [List.getElem?_replicate, if_pos h]
      simp
    · rw [if_pos (by omega), List.getD_eq_getElem?_getD, List.getElem?_append_right (by simpa using (by omega : 24 ≤ i))]
      simp only [List.length_replicate, e8, List.getElem?_map, List.getElem?_range (show i - 24 < 8 by omega), Option.map_some, Option.getD_some]
      rw [show i % 8 = i - 24 by omega]
  · rw [Array.getElem?_eq_none_iff.2 (by rw [u8s_size]; omega), Array.getElem?_eq_none_iff.2 (by simp [by8_len, cnt_len]; omega)]
theorem w4_cells (n : Int) : ∀ t, t < 4 → (#[.int .u64 0, .int .u64 0, .int .u64 0, .int .u64 n] : Array Value)[t]? = some (.int .u64 (w4 n t)) := by
  intro t ht
  match t, ht with
  | 0, _ => rfl
  | 1, _ => rfl
  | 2, _ => rfl
  | 3, _ => rfl
theorem built112 (n : Int) : Try.prog.built 135 [(3, .int .u64 n)] = some #[.int .u64 0, .int .u64 0, .int .u64 0, .int .u64 n] := by kernel_rfl
end Go.Proofs.Ytbhhbkoikocjgaa
/- Layer spec: what the layers below give. -/
namespace Go.Proofs.Ytbhhbkoikocjgaa
set_option linter.unusedSectionVars false
set_option maxHeartbeats 1000000
open Go.RowKit
set_option maxRecDepth 100000
set_option linter.unusedVariables false
set_option linter.unusedSimpArgs false

variable [DecidableEq Ac] [DecidableEq Ou] [DecidableEq Mg]
theorem wp_appT {o : Oper} {a : Act} {w : World} {K : Act → World → Prop} {Q : Exit → Act → World → Prop} (s x : Operand) (ho : o.op = .call { callee := .builtin .append, args := #[s, x], argTypes := #[117, 117] })
    (base ax : Nat) (v : Value) (es : List En) (e : En) (hs : a.eval s = v) (hE : EOS base ax w v es) (gx c : Nat) (hx : a.eval x = .slice (some ⟨gx, 0, none⟩) 1 c) (hA : Arr w gx 160 e.arr) (he : EnOK w.heap.size w e)
    (hap : ∀ b off, e.sp = some ⟨b, off, none⟩ → base ≤ b ∧ b < w.heap.size ∧ some b ≠ v.ownBlock ∧ b ≠ ax) (hk : es.length ≤ 1000000000) (hbase : base ≤ w.heap.size)
    (h : ∀ v' w', EOS base ax w' v' (es ++ [e]) → w.grownBy w' v.ownBlock → (v'.ownBlock = v.ownBlock ∨ v'.ownBlock = some w.heap.size) → K (a.put o.dst v') w') : o.wp Try.prog a w K Q := by
  obtain ⟨i0, hi0, hz0, hz1, hz2⟩ := info_parts info54
  obtain ⟨v', w', hr, h2, h3, h4, h5⟩ := run_append_own_at (P := Try.prog) w base 117 o.type 160 i0 (.agg (En.arr ⟨none, 0, 0, [], Z32⟩)) 33 56 Try.underlying117 hi0 hz0 hz1 hz2 (En.size (e := ⟨none, 0, 0, [], Z32⟩) Z32_len) (by omega) v es.length _ hE.own ⟨gx, 0, none⟩ 1 c e.cells (by rw [En.len he.s32]) (fun j u hj => by
    rw [Addr.add_mid]; exact rangeE hA j u hj) e.one (by unfold maxLen; omega) (by omega) hbase
  unfold Oper.wp execOp
  simp only [ho, resolve, invoke, builtin, Sem.run_bind, Sem.run_pure, Result.andThen_ok, List.map_toArray, List.map_cons, List.map_nil, hs, hx, hr]
  have hne : ∀ b, b < w.heap.size → some b ≠ v.ownBlock → some b ≠ v'.ownBlock := fun b hb h' e' => by
    rcases h5 with h5 | h5
    · exact h' (e'.trans h5)
    · rw [h5] at e'; have := Option.some.inj e'; omega
  have keep : ∀ f : En, EnOK w.heap.size w f → (∀ b off, f.sp = some ⟨b, off, none⟩ → some b ≠ v.ownBlock) → EnOK w'.heap.size w' f := fun f hf hb => by
    refine ⟨⟨hf.body.len, hf.body.nil, hf.body.le, hf.body.big, hf.body.small, fun h0 => ?_, hf.body.bts⟩, hf.s32⟩
    obtain ⟨b, off, e1, hbN, hB⟩ := hf.body.at0 h0
    refine ⟨b, off, e1, Nat.lt_of_lt_of_le hbN h3.size, fun t ht => ?_⟩
    rw [World.cell?_of_block (w := w) (a := ⟨b, off + t, none⟩) (h3.block b hbN (hb b off e1))]
    exact hB t ht
  refine h v' w' ⟨?_, fun f hf => ?_, fun f hf b off hs' => ?_⟩ h3 h5
  · rw [flatE_app, List.length_append]; exact h2
  · rcases List.mem_append.1 hf with hf | hf
    · exact keep f (hE.ok f hf) (fun b off e1 => (hE.ap f hf b off e1).2.2.1)
    · simp at hf; subst hf; exact keep f he (fun b off e1 => (hap b off e1).2.2.1)
  · have := h3.size
    rcases List.mem_append.1 hf with hf | hf
    · obtain ⟨a1, a2, a3, a4⟩ := hE.ap f hf b off hs'
      exact ⟨a1, by omega, hne b a2 a3, a4⟩
    · simp at hf; subst hf
      obtain ⟨a1, a2, a3, a4⟩ := hap b off hs'
      exact ⟨a1, by omega, hne b a2 a3, a4⟩
theorem appT {ops : Array Oper} {rest : List Oper} {o : Oper} {a : Act} {w : World} {Q : Exit → Act → World → Prop} (hgd : o.guard = none) (s x : Operand) (ho : o.op = .call { callee := .builtin .append, args := #[s, x], argTypes := #[117, 117] })
    (base ax : Nat) (v : Value) (es : List En) (e : En) (hs : a.eval s = v) (hE : EOS base ax w v es) (gx c : Nat) (hx : a.eval x = .slice (some ⟨gx, 0, none⟩) 1 c) (hA : Arr w gx 160 e.arr) (he : EnOK w.heap.size w e)
    (hap : ∀ b off, e.sp = some ⟨b, off, none⟩ → base ≤ b ∧ b < w.heap.size ∧ some b ≠ v.ownBlock ∧ b ≠ ax) (hk : es.length ≤ 1000000000) (hbase : base ≤ w.heap.size)
    (h : ∀ v' w', EOS base ax w' v' (es ++ [e]) → w.grownBy w' v.ownBlock → (v'.ownBlock = v.ownBlock ∨ v'.ownBlock = some w.heap.size) → wpList Try.prog ops Q rest (a.put o.dst v') w') : wpList Try.prog ops Q (o :: rest) a w :=
  wpList_plain hgd fun _ hK => wp_appT s x ho base ax v es e hs hE gx c hx hA he hap hk hbase fun v' w' h1 h2 h3 => hK _ _ (h v' w' h1 h2 h3)
theorem wp_bldT {o : Oper} {a : Act} {w : World} {K : Act → World → Prop} {Q : Exit → Act → World → Prop} (x : Operand) (ho : o.op = .buildSlice 117 1 #[(0, x)]) (e : En) (hx : a.eval x = .agg e.arr) (he : e.sm.length = 32)
    (h : K (a.put o.dst (.slice (some ⟨w.heap.size, 0, none⟩) 1 1)) (w.alloc (.cells e.arr 160))) : o.wp Try.prog a w K Q := by
  obtain ⟨i0, hi0, hz0, hz1, hz2⟩ := info_parts info54
  refine wp_buildSlice 117 160 1 _ ho e.arr i0 (.agg (En.arr ⟨none, 0, 0, [], Z32⟩)) Try.underlying117 hi0 hz0 (by rw [hz1]; omega) (by rw [hz1]; omega) ?_ h
  have e1 : (#[(0, x)].map fun (p : Nat × Operand) => (p.1, a.eval p.2)).toList = ([Value.agg e.arr].zipIdx 0).map fun x => (x.2, x.1) := by simp [hx]
  rw [hz1]
  refine Eq.trans (congrArg _ e1) ?_
  rw [Great.fill_whole (s := 33) (by omega) [.agg e.arr] _ (fun v hv => by simp only [List.mem_singleton] at hv; rw [hv]; exact En.size he) (by simp)]
  simp [Value.cells, En.arr]
theorem bldT {ops : Array Oper} {rest : List Oper} {o : Oper} {a : Act} {w : World} {Q : Exit → Act → World → Prop} (hgd : o.guard = none) (x : Operand) (ho : o.op = .buildSlice 117 1 #[(0, x)]) (e : En) (hx : a.eval x = .agg e.arr) (he : e.sm.length = 32)
    (h : wpList Try.prog ops Q rest (a.put o.dst (.slice (some ⟨w.heap.size, 0, none⟩) 1 1)) (w.alloc (.cells e.arr 160))) : wpList Try.prog ops Q (o :: rest) a w :=
  wpList_plain hgd fun _ hK => wp_bldT x ho e hx he (hK _ _ h)
/-- sha.Leaf, of bytes anywhere. -/
theorem leaf_bs (sp : Option Addr) (n cap N : Nat) (L : List Int) (w : World) (hS : BS N w sp n cap L) :
    Calls Try.prog 96 #[.slice sp n cap] w fun e w' => e = .returned (.agg (h8 (lf L))) ∧ Below w.heap.size w w' := by
  have h := leaf_any sp n cap L w hS.len.out hS.nil hS.sl hS.small
  rw [sha_h8] at h
  exact h
/-- What a tree is. -/
structure TR (base : Nat) (w : World) (v : Value) (es : List En) (bs : List (List Int)) : Prop where
  eo : EOS base base w v es
  bs : Hid (es.map En.bs = bs)
  sm : Hid (∀ e ∈ es, e.sm = shl e.bs)
theorem TR.below {base : Nat} {w w' : World} {v : Value} {es : List En} {bs : List (List Int)} (h : TR base w v es bs) (hb : Below w.heap.size w w') : TR base w' v es bs := ⟨h.eo.below hb, h.bs, h.sm⟩
def TPost (bs : List (List Int)) (w : World) (r : Ending) (w' : World) : Prop := ∃ v es, r = .returned v ∧ TR w.heap.size w' v es bs ∧ Below w.heap.size w w'
set_option maxHeartbeats 2000000 in
theorem treeA_any (ps : List Ac) (n cap : Nat) (w : World) (sp : Option Addr) (hok : ∀ a ∈ ps, AcOK a) (hl : n = ps.length) (h32 : n ≤ 32) (hR : 0 < n → ∃ g off, sp = some ⟨g, off, none⟩ ∧ g < w.heap.size ∧ ∀ i a, ps[i]? = some a → w.rangeAt g (off + i * 34) a.cells) :
    Calls Try.prog 73 #[.slice sp n cap, .func (Fn.func 74) #[] #[]] w (TPost (ps.map fun a => 0 :: acb a) w) := by
  obtain ⟨i0, hi, hz0, hz1, hz2⟩ := info_parts info54
  replace hl := Hid.mk' hl
  replace hR := Hid.mk' hR
  replace hok := Hid.mk' hok
  go_enter Try.func73, Try.ntmps73
  go_upto_region 2 with (at_make; go_must (refine wpList_make_own _ (by rfl) (.const (.int .i64 0)) (.tmp 10) 117 (by rfl) w.heap.size 160 i0 (.agg (En.arr ⟨none, 0, 0, [], Z32⟩)) 33 Try.underlying117 hi hz0 hz1 .i64 .i64 _ n (by rfl) (by rfl) (by omega) (by rw [hz2]; omega) (by unfold maxLen; omega) (Nat.le_refl _) ?_; intro w3 hown3 hg3))
  have hB3 := (Below.refl w.heap.size w).grown hg3 (Nat.le_refl _) (by simp)
  have E3 : EOS w.heap.size w.heap.size w3 (.slice (some ⟨w.heap.size, 0, none⟩) 0 n) [] := ⟨hown3, (fun e he => by cases he), (fun e he => by cases he)⟩
  have hs3 : w.heap.size < w3.heap.size := own_lt hown3 rfl
  clear hown3 hg3
  go_upto_region 3 with fail
  go_loopw [5, 14] (fun v q wr => ∃ (j : Nat) (es : List En), q = .int .i64 (j : Int) ∧ j ≤ n ∧ es.length = j ∧ Below w.heap.size w wr ∧ EOS w.heap.size w.heap.size wr v es ∧ w.heap.size < wr.heap.size ∧ Hid (es.map En.bs = (ps.map fun a => 0 :: acb a).take j) ∧ Hid (∀ e ∈ es, e.sm = shl e.bs))
    (fun _ q _ => n - (intOf q).toNat)
  case atStart => exact ⟨0, [], rfl, by omega, rfl, hB3, E3, hs3, Hid.mk' (by simp), Hid.mk' (fun e he => by cases he)⟩
  case round =>
    obtain ⟨j, es, rfl, hj, hel, hbl, hE, hsz, hbs, hsm⟩ := hrel
    clear E3 hB3 hs3
    by_cases hlt : j < n
    · have hI : (j : Int) < n := by omega
      obtain ⟨g, off, rfl, hgN, hRR⟩ := hR.out (by omega)
      obtain ⟨a, ha⟩ : ∃ a, ps[j]? = some a := ⟨ps[j]'(by rw [← hl.out]; exact hlt), List.getElem?_eq_getElem _⟩
      have hao := hok.out a (List.mem_of_getElem? ha)
      have ha32 := hao.l32
      have hRY := range_below (hRR j a ha) hbl hgN
      have hnx : Hid ((ps.map fun a => 0 :: acb a).take (j + 1) = (ps.map fun a => 0 :: acb a).take j ++ [0 :: acb a]) := Hid.mk' (by
        rw [List.take_add_one]; congr 1; simp [ha])
      clear ha hRR
      have A1 := Arr.new wr 26 a.arr
      have hb1 := alloc_bel' wr (.cells a.arr 26)
      go_upto_region 5 with (first
        | (refine ld26 (by rfl) _ (by rfl) g (off + j * 34) (by rfl) a ha32 hRY ?_)
        | (refine st26n (by rfl) _ _ (by rfl) wr wr.heap.size rfl (by rfl) a (by rfl) (by rfl) ha32 ?_))
      have hbl1 := hbl.alloc hbl.size (.cells a.arr 26)
      have hE1 := hE.below hb1
      have hs1 : (wr.alloc (.cells a.arr 26)).heap.size = wr.heap.size + 1 := by simp
      generalize wr.alloc (.cells a.arr 26) = wa at *
      go_upto_region 6 with (first
        | (refine ld26 (by rfl) _ (by rfl) wr.heap.size 0 (by rfl) a ha32 (Arr.ac A1) ?_)
        | (go_at_call 74; go_must (refine (acBytes_any a _ hao).mono ?_; rintro e w2 ⟨v2, rfl, hown2, hb2⟩)))
      obtain ⟨sp2, cp2, rfl, hS2, hsp2⟩ := own_bs hown2 (acb_bts hao) (by omega)
      have hE2 := hE1.below hb2
      have hbl2 := hbl1.trans (hb2.mono hbl1.size)
      have hs2 := hb2.size
      have hlit : (w2.alloc (.cells #[.int .u8 0] 5)).ownsRow w2.heap.size 5 1 (.slice (some ⟨w2.heap.size, 0, none⟩) 1 1) 1 (by8 [0]) := World.ownsRow_lit _ _ _ (Nat.le_refl _) (by unfold maxLen; omega) rfl
      have hb3 := alloc_bel' w2 (.cells #[.int .u8 0] 5)
      have hS3 := hS2.below hb3
      have hn2 := hS2.nil
      have hlen2 := hS2.len
      have hbt : Bts (0 :: acb a) := Bts.zero (acb_bts hao)
      clear hown2
      go_upto_region 7 with (first
        | (at_builtin; refine append_bytes (by rfl) (.tmp 22) (.tmp 23) (by rfl) w2.heap.size _ 1 [0] (by rfl) hlit sp2 48 cp2 (acb a) (by rfl) hlen2.out hn2 hS3.sl (by omega) (by simp) ?_; intro v4 w4 hown4 hg4; obtain ⟨sp4, cp4, rfl, hS4, hsp4⟩ := own_bs hown4 hbt (by omega); have hb4 : Below w2.heap.size w2 w4 := hb3.grown hg4 hb3.size (fun k e => own_ge hlit k e); have hE4 := hE2.below hb4; have hbl4 := hbl2.trans (hb4.mono hbl2.size); have hS24 := hS2.below hb4; have hs4 := hb4.size)
        | (go_at_call 96; go_must (refine (leaf_bs sp2 48 cp2 _ (acb a) _ hS24).mono ?_; rintro e w5 ⟨rfl, hb5⟩; have hE5 := hE4.below hb5; have hbl5 := hbl4.trans (hb5.mono hbl4.size); have hS5 := hS4.below hb5; have hs5 := hb5.size; have hE6 := hE5.below (alloc_bel' w5 (.cells (En.arr ⟨sp4, 1 + 48, cp4, 0 :: acb a, lf (acb a)⟩) 160)); have hS6 := hS5.below ((alloc_bel' w5 (.cells (En.arr ⟨sp4, 1 + 48, cp4, 0 :: acb a, lf (acb a)⟩) 160)).mono hs5); have hbl6 := hbl5.alloc (Nat.le_trans hbl4.size hs5) (.cells (En.arr ⟨sp4, 1 + 48, cp4, 0 :: acb a, lf (acb a)⟩) 160); have hok6 : EnOK (w5.alloc (.cells (En.arr ⟨sp4, 1 + 48, cp4, 0 :: acb a, lf (acb a)⟩) 160)).heap.size (w5.alloc (.cells (En.arr ⟨sp4, 1 + 48, cp4, 0 :: acb a, lf (acb a)⟩) 160)) ⟨sp4, 1 + 48, cp4, 0 :: acb a, lf (acb a)⟩ := (⟨hS6.mono (by simp; omega), lf_len _⟩); have hob := fun (k : Nat) hk => own_lt (b := k) hE.own hk))
        | (refine bdTS (by rfl) 160 _ (by rfl) (by rfl) (built54S sp4 (1 + 48) cp4 (lf (acb a)) (lf_len _) (0 :: acb a)) ?_)
        | (refine bldT (by rfl) _ (by rfl) ⟨sp4, 1 + 48, cp4, 0 :: acb a, lf (acb a)⟩ (by rfl) (lf_len _) ?_)
        | (at_builtin; go_must (refine appT (by rfl) (.tmp 21) (.tmp 28) (by rfl) w.heap.size w.heap.size _ es ⟨sp4, 1 + 48, cp4, 0 :: acb a, lf (acb a)⟩ (by rfl) hE6 w5.heap.size 1 (by rfl) (Arr.new w5 160 _) hok6 (apart hS5 (by omega) (M := w2.heap.size) (fun g off e => (hsp4 g off e).1) (fun k hk => by have := hob k hk; omega) (by omega) (by omega) (by simp; omega)) (by omega) (by simp; omega) ?_; intro v' w6 hE7 hG7 hl7; have hbl7 := hbl6.grown hG7 (by simp; omega) (fun k e => own_ge hE.own k e); have hs7 := hG7.size; simp at hs7)))
      go_wp2_with fail
      go_roundw
      case rel =>
        refine ⟨j + 1, _, by go_num, by omega, by simp [hel], hbl7, hE7, by omega, Hid.mk' ?_, Hid.mk' ?_⟩
        · rw [List.map_append, hbs.out, hnx.out]; rfl
        · intro e he
          rcases List.mem_append.1 he with he | he
          · exact hsm.out e he
          · simp at he; subst he; rfl
      case measure => simp [intOf]; omega
    · obtain rfl : j = n := by omega
      have hI : ¬ (j : Int) < j := by omega
      go_wp2_with fail
      go_ret
      refine ⟨_, es, rfl, ⟨hE, Hid.mk' ?_, hsm⟩, hbl⟩
      rw [hbs.out, List.take_of_length_le (by rw [List.length_map, ← hl.out]; exact Nat.le_refl _)]
set_option maxHeartbeats 2000000 in
theorem treeO_any (ps : List Ou) (n cap : Nat) (w : World) (sp : Option Addr) (hok : ∀ a ∈ ps, OuOK a) (hl : n = ps.length) (h32 : n ≤ 32) (hR : 0 < n → ∃ g off, sp = some ⟨g, off, none⟩ ∧ g < w.heap.size ∧ ∀ i a, ps[i]? = some a → w.rangeAt g (off + i * 2) a.cells) :
    Calls Try.prog 77 #[.slice sp n cap, .func (Fn.func 78) #[] #[]] w (TPost (ps.map fun a => 0 :: oub a) w) := by
  obtain ⟨i0, hi, hz0, hz1, hz2⟩ := info_parts info54
  replace hl := Hid.mk' hl
  replace hR := Hid.mk' hR
  replace hok := Hid.mk' hok
  go_enter Try.func77, Try.ntmps77
  go_upto_region 2 with (at_make; go_must (refine wpList_make_own _ (by rfl) (.const (.int .i64 0)) (.tmp 10) 117 (by rfl) w.heap.size 160 i0 (.agg (En.arr ⟨none, 0, 0, [], Z32⟩)) 33 Try.underlying117 hi hz0 hz1 .i64 .i64 _ n (by rfl) (by rfl) (by omega) (by rw [hz2]; omega) (by unfold maxLen; omega) (Nat.le_refl _) ?_; intro w3 hown3 hg3))
  have hB3 := (Below.refl w.heap.size w).grown hg3 (Nat.le_refl _) (by simp)
  have E3 : EOS w.heap.size w.heap.size w3 (.slice (some ⟨w.heap.size, 0, none⟩) 0 n) [] := ⟨hown3, (fun e he => by cases he), (fun e he => by cases he)⟩
  have hs3 : w.heap.size < w3.heap.size := own_lt hown3 rfl
  clear hown3 hg3
  go_upto_region 3 with fail
  go_loopw [5, 14] (fun v q wr => ∃ (j : Nat) (es : List En), q = .int .i64 (j : Int) ∧ j ≤ n ∧ es.length = j ∧ Below w.heap.size w wr ∧ EOS w.heap.size w.heap.size wr v es ∧ w.heap.size < wr.heap.size ∧ Hid (es.map En.bs = (ps.map fun a => 0 :: oub a).take j) ∧ Hid (∀ e ∈ es, e.sm = shl e.bs))
    (fun _ q _ => n - (intOf q).toNat)
  case atStart => exact ⟨0, [], rfl, by omega, rfl, hB3, E3, hs3, Hid.mk' (by simp), Hid.mk' (fun e he => by cases he)⟩
  case round =>
    obtain ⟨j, es, rfl, hj, hel, hbl, hE, hsz, hbs, hsm⟩ := hrel
    clear E3 hB3 hs3
    by_cases hlt : j < n
    · have hI : (j : Int) < n := by omega
      obtain ⟨g, off, rfl, hgN, hRR⟩ := hR.out (by omega)
      obtain ⟨a, ha⟩ : ∃ a, ps[j]? = some a := ⟨ps[j]'(by rw [← hl.out]; exact hlt), List.getElem?_eq_getElem _⟩
      have hao := hok.out a (List.mem_of_getElem? ha)
      skip
      have hRY := range_below (hRR j a ha) hbl hgN
      have hnx : Hid ((ps.map fun a => 0 :: oub a).take (j + 1) = (ps.map fun a => 0 :: oub a).take j ++ [0 :: oub a]) := Hid.mk' (by
        rw [List.take_add_one]; congr 1; simp [ha])
      clear ha hRR
      have A1 := Arr.new wr 66 a.arr
      have hb1 := alloc_bel' wr (.cells a.arr 66)
      go_upto_region 5 with (first
        | (refine ld53 (by rfl) _ (by rfl) g (off + j * 2) (by rfl) a hRY ?_)
        | (refine st53n (by rfl) _ _ (by rfl) wr wr.heap.size rfl (by rfl) a (by rfl) (by rfl) ?_))
      have hbl1 := hbl.alloc hbl.size (.cells a.arr 66)
      have hE1 := hE.below hb1
      have hs1 : (wr.alloc (.cells a.arr 66)).heap.size = wr.heap.size + 1 := by simp
      generalize wr.alloc (.cells a.arr 66) = wa at *
      go_upto_region 6 with (first
        | (refine ld53 (by rfl) _ (by rfl) wr.heap.size 0 (by rfl) a (Arr.ou A1) ?_)
        | (go_at_call 78; go_must (refine (ouBytes_any a _).mono ?_; rintro e w2 ⟨v2, rfl, hown2, hb2⟩)))
      obtain ⟨sp2, cp2, rfl, hS2, hsp2⟩ := own_bs hown2 (oub_bts a) (by omega)
      have hE2 := hE1.below hb2
      have hbl2 := hbl1.trans (hb2.mono hbl1.size)
      have hs2 := hb2.size
      have hlit : (w2.alloc (.cells #[.int .u8 0] 5)).ownsRow w2.heap.size 5 1 (.slice (some ⟨w2.heap.size, 0, none⟩) 1 1) 1 (by8 [0]) := World.ownsRow_lit _ _ _ (Nat.le_refl _) (by unfold maxLen; omega) rfl
      have hb3 := alloc_bel' w2 (.cells #[.int .u8 0] 5)
      have hS3 := hS2.below hb3
      have hn2 := hS2.nil
      have hlen2 := hS2.len
      have hbt : Bts (0 :: oub a) := Bts.zero (oub_bts a)
      clear hown2
      go_upto_region 7 with (first
        | (at_builtin; refine append_bytes (by rfl) (.tmp 22) (.tmp 23) (by rfl) w2.heap.size _ 1 [0] (by rfl) hlit sp2 16 cp2 (oub a) (by rfl) hlen2.out hn2 hS3.sl (by omega) (by simp) ?_; intro v4 w4 hown4 hg4; obtain ⟨sp4, cp4, rfl, hS4, hsp4⟩ := own_bs hown4 hbt (by omega); have hb4 : Below w2.heap.size w2 w4 := hb3.grown hg4 hb3.size (fun k e => own_ge hlit k e); have hE4 := hE2.below hb4; have hbl4 := hbl2.trans (hb4.mono hbl2.size); have hS24 := hS2.below hb4; have hs4 := hb4.size)
        | (go_at_call 96; go_must (refine (leaf_bs sp2 16 cp2 _ (oub a) _ hS24).mono ?_; rintro e w5 ⟨rfl, hb5⟩; have hE5 := hE4.below hb5; have hbl5 := hbl4.trans (hb5.mono hbl4.size); have hS5 := hS4.below hb5; have hs5 := hb5.size; have hE6 := hE5.below (alloc_bel' w5 (.cells (En.arr ⟨sp4, 1 + 16, cp4, 0 :: oub a, lf (oub a)⟩) 160)); have hS6 := hS5.below ((alloc_bel' w5 (.cells (En.arr ⟨sp4, 1 + 16, cp4, 0 :: oub a, lf (oub a)⟩) 160)).mono hs5); have hbl6 := hbl5.alloc (Nat.le_trans hbl4.size hs5) (.cells (En.arr ⟨sp4, 1 + 16, cp4, 0 :: oub a, lf (oub a)⟩) 160); have hok6 : EnOK (w5.alloc (.cells (En.arr ⟨sp4, 1 + 16, cp4, 0 :: oub a, lf (oub a)⟩) 160)).heap.size (w5.alloc (.cells (En.arr ⟨sp4, 1 + 16, cp4, 0 :: oub a, lf (oub a)⟩) 160)) ⟨sp4, 1 + 16, cp4, 0 :: oub a, lf (oub a)⟩ := (⟨hS6.mono (by simp; omega), lf_len _⟩); have hob := fun (k : Nat) hk => own_lt (b := k) hE.own hk))
        | (refine bdTS (by rfl) 160 _ (by rfl) (by rfl) (built54S sp4 (1 + 16) cp4 (lf (oub a)) (lf_len _) (0 :: oub a)) ?_)
        | (refine bldT (by rfl) _ (by rfl) ⟨sp4, 1 + 16, cp4, 0 :: oub a, lf (oub a)⟩ (by rfl) (lf_len _) ?_)
        | (at_builtin; go_must (refine appT (by rfl) (.tmp 21) (.tmp 28) (by rfl) w.heap.size w.heap.size _ es ⟨sp4, 1 + 16, cp4, 0 :: oub a, lf (oub a)⟩ (by rfl) hE6 w5.heap.size 1 (by rfl) (Arr.new w5 160 _) hok6 (apart hS5 (by omega) (M := w2.heap.size) (fun g off e => (hsp4 g off e).1) (fun k hk => by have := hob k hk; omega) (by omega) (by omega) (by simp; omega)) (by omega) (by simp; omega) ?_; intro v' w6 hE7 hG7 hl7; have hbl7 := hbl6.grown hG7 (by simp; omega) (fun k e => own_ge hE.own k e); have hs7 := hG7.size; simp at hs7)))
      go_wp2_with fail
      go_roundw
      case rel =>
        refine ⟨j + 1, _, by go_num, by omega, by simp [hel], hbl7, hE7, by omega, Hid.mk' ?_, Hid.mk' ?_⟩
        · rw [List.map_append, hbs.out, hnx.out]; rfl
        · intro e he
          rcases List.mem_append.1 he with he | he
          · exact hsm.out e he
          · simp at he; subst he; rfl
      case measure => simp [intOf]; omega
    · obtain rfl : j = n := by omega
      have hI : ¬ (j : Int) < j := by omega
      go_wp2_with fail
      go_ret
      refine ⟨_, es, rfl, ⟨hE, Hid.mk' ?_, hsm⟩, hbl⟩
      rw [hbs.out, List.take_of_length_le (by rw [List.length_map, ← hl.out]; exact Nat.le_refl _)]
end Go.Proofs.Ytbhhbkoikocjgaa
