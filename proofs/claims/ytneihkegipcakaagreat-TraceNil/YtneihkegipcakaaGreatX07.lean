/- QCa, QCb, QCg, QCo, QLa, W5, ZVt, QCc, ZZTo, QVa, QVd. -/
import Derived.Test.YtneihkegipcakaaGreatX01
import Derived.Test.YtneihkegipcakaaGreatX03
import Derived.Test.YtneihkegipcakaaGreatX06
import Derived.BigQuiet
import Derived.BigRegion
import Derived.ChangeKeysEq
import Derived.Deep.DeepCutAuto
import Derived.Deep.DrawnRows
import Derived.Deep.MidRow
import Derived.Deep.QuietTactic
import Derived.Deep.RegionHeld3
import Derived.Deep.RegionLaw
import Derived.Deep.RegionWith
import Derived.Deep.WholeRow
import Derived.Laws.AppendOwnNone
import Derived.Laws.BitsLemmas
import Derived.Laws.BytesArg
import Derived.Laws.CopyOwn
import Derived.Lib.SlBytesConst
import Derived.WalkKit
import Derived.WalkLawsBesides
import Derived.WalkSpells
import Derived.Test.YtneihkegipcakaaGreatX02
import Derived.Test.YtneihkegipcakaaGreatX04
import Derived.Test.YtneihkegipcakaaGreatX05
import Derived.DeepKeys3
import Derived.Great.BuildSlice
import Derived.Laws.Tables
import Derived.RangeFuncRecord
import Derived.LoopIn
import Derived.LoopNIn
import Derived.Maps.AppendAt
import Derived.OwnWalkIn
import Derived.RangeFuncBound
import Derived.RangeFuncCalls
import Derived.RangeFuncLeaves
import Derived.RangeFuncNested
import Derived.Shelf.Abstract
import Derived.Shelf.RegionOpen
import Derived.TacticsInMore
import Derived.ChangeOld
import Derived.Great.FillDense
import Derived.Laws.OwnMore
import Derived.Laws.ResultCell
import Derived.OpenShut
import Derived.ProofKit
import Derived.Recover
import Derived.ShutString
import Derived.SizedLaws
/- Layer trace: what the layers below give. -/
namespace Go.Proofs.YtneihkegipcakaaGreat
open Go.RowKit
set_option maxRecDepth 100000
set_option linter.unusedVariables false
set_option linter.unusedSimpArgs false

theorem Bts.app {L M : List Int} (h : Bts L) (h' : Bts M) : Bts (L ++ M) := by
  intro x hx; rcases List.mem_append.1 hx with h1 | h1
  · exact h x h1
  · exact h' x h1
theorem Bts.one {L : List Int} (h : Bts L) : Bts (1 :: L) := by
  intro x hx; rcases List.mem_cons.1 hx with rfl | h1
  · omega
  · exact h x h1
end Go.Proofs.YtneihkegipcakaaGreat
/- Layer trace: what the layers below give. -/
namespace Go.Proofs.YtneihkegipcakaaGreat
open Go.RowKit
set_option maxRecDepth 100000
set_option linter.unusedVariables false
set_option linter.unusedSimpArgs false

/-- An entry: its bytes and where they lie, and its sum. -/
structure En where
  sp : Option Addr
  n : Nat
  cap : Nat
  bs : List Int
  sm : List Int
def En.cells (e : En) : List Value := .slice e.sp e.n e.cap :: by8 e.sm
def En.arr (e : En) : Array Value := e.cells.toArray
structure EnOK (N : Nat) (w : World) (e : En) : Prop where
  body : BS N w e.sp e.n e.cap e.bs
  s32 : e.sm.length = 32
theorem EnOK.below {N : Nat} {w w' : World} {e : En} (h : EnOK N w e) (hb : Below N w w') : EnOK N w' e := ⟨h.body.below hb, h.s32⟩
theorem EnOK.mono {N N' : Nat} {w : World} {e : En} (h : EnOK N w e) (hN : N ≤ N') : EnOK N' w e := ⟨h.body.mono hN, h.s32⟩
theorem EnOK.here {N : Nat} {w : World} {e : En} (h : EnOK N w e) : EnOK w.heap.size w e := ⟨h.body.here, h.s32⟩
theorem En.len {e : En} (h : e.sm.length = 32) : e.cells.length = 33 := by simp [En.cells, by8_len, h]
theorem En.size {e : En} (h : e.sm.length = 32) : e.arr.size = 33 := by simp [En.arr, En.len h]
theorem En.one (e : En) : ∀ v ∈ e.cells, v.oneCell' = true := by
  intro v hv
  rcases List.mem_cons.1 hv with rfl | h
  · rfl
  · exact by8_one _ v h
theorem En.oneA (e : En) : e.arr.all (·.oneCell') = true := all_oneCell_toArray e.one
/-- Entries one behind the other, in blocks below N. -/
structure ES (N : Nat) (w : World) (sp : Option Addr) (n cap : Nat) (es : List En) : Prop where
  len : Hid (n = es.length)
  nil : sp = none → n = 0 ∧ cap = 0
  le : n ≤ cap
  big : cap ≤ 9223372036854775807
  small : n ≤ 140737488355328
  at0 : 0 < n → ∃ g off, sp = some ⟨g, off, none⟩ ∧ g < N ∧ ∀ i e, es[i]? = some e → w.rangeAt g (off + i * 33) e.cells
  ok : ∀ e ∈ es, EnOK N w e
theorem ES.below {N : Nat} {w w' : World} {sp : Option Addr} {n cap : Nat} {es : List En} (h : ES N w sp n cap es) (hb : Below N w w') : ES N w' sp n cap es :=
  ⟨h.len, h.nil, h.le, h.big, h.small, fun h0 => let ⟨b, off, e, hbN, hB⟩ := h.at0 h0; ⟨b, off, e, hbN, fun i X hX => range_below (hB i X hX) hb hbN⟩, fun e he => (h.ok e he).below hb⟩
theorem ES.mono {N N' : Nat} {w : World} {sp : Option Addr} {n cap : Nat} {es : List En} (h : ES N w sp n cap es) (hN : N ≤ N') : ES N' w sp n cap es :=
  ⟨h.len, h.nil, h.le, h.big, h.small, fun h0 => let ⟨b, off, e, hb, hB⟩ := h.at0 h0; ⟨b, off, e, by omega, hB⟩, fun e he => (h.ok e he).mono hN⟩
theorem ES.here {N : Nat} {w : World} {sp : Option Addr} {n cap : Nat} {es : List En} (h : ES N w sp n cap es) : ES w.heap.size w sp n cap es :=
  ⟨h.len, h.nil, h.le, h.big, h.small, fun h0 => by
    obtain ⟨b, off, e, hbN, hB⟩ := h.at0 h0
    refine ⟨b, off, e, ?_, hB⟩
    have hl : 0 < es.length := by rw [← h.len.out]; exact h0
    exact block_lt_of_cell (hB 0 es[0] (List.getElem?_eq_getElem hl) 0 _ rfl), fun e he => (h.ok e he).here⟩
theorem ES.nil0 (N : Nat) (w : World) : ES N w none 0 0 [] := ⟨rfl, fun _ => ⟨rfl, rfl⟩, Nat.le_refl _, by omega, by omega, fun h => absurd h (by omega), fun e h => by cases h⟩
theorem size54 : (Tryz.prog.info? 111).map (·.size) = some 33 := by kernel_rfl
theorem s54 {e : En} (h : e.sm.length = 32) : (Tryz.prog.info? 111).map (·.size) = some e.arr.size := by rw [En.size h]; exact size54
theorem rangeE {w : World} {g ty : Nat} {e : En} (h : Arr w g ty e.arr) : w.rangeAt g 0 e.cells := fun j v hv => by
  rw [Nat.zero_add, h.cell]; simpa [En.arr] using hv
theorem range_c0 {w : World} {g o : Nat} {e : En} (h : w.rangeAt g o e.cells) : w.cell? ⟨g, o, none⟩ = some (.slice e.sp e.n e.cap) := by simpa using h 0 _ rfl
theorem range_sm {w : World} {g o : Nat} {e : En} (h : w.rangeAt g o e.cells) : w.rangeAt g (o + 1) (by8 e.sm) := fun j v hv => by
  rw [Nat.add_assoc, Nat.add_comm 1 j]
  exact h (j + 1) v (by simpa [En.cells] using hv)
/-- An entry out of memory. -/
theorem ld54 {ops : Array Oper} {rest : List Oper} {o : Oper} {a : Act} {w : World} {Q : Exit → Act → World → Prop} (hgd : o.guard = none) (x : Operand) (ho : o.op = .load 111 x)
    (b off : Nat) (hx : a.eval x = .pointer (some ⟨b, off, none⟩)) (e : En) (he : e.sm.length = 32) (hc : w.rangeAt b off e.cells)
    (h : wpList Tryz.prog ops Q rest (a.put o.dst (.agg e.arr)) w) : wpList Tryz.prog ops Q (o :: rest) a w :=
  wpList_load_mid hgd 111 x ho b off hx e.cells _ hc Tryz.underlying111 rfl (by rw [En.len he]; exact size54) h
/-- .. into the newest block. -/
theorem st54n {ops : Array Oper} {rest : List Oper} {o : Oper} {a : Act} {Q : Exit → Act → World → Prop} (hgd : o.guard = none) (x y : Operand) (ho : o.op = .store 111 x y) (W : World) (g : Nat) (hgW : W.heap.size = g) {z : Array Value} (hz : z.size = 33)
    (e : En) (hx : a.eval x = .pointer (some ⟨g, 0, none⟩)) (hy : a.eval y = .agg e.arr) (he : e.sm.length = 32)
    (h : wpList Tryz.prog ops Q rest (a.put o.dst undef) (W.alloc (.cells e.arr 111))) : wpList Tryz.prog ops Q (o :: rest) a (W.alloc (.cells z 111)) := by
  subst hgW
  exact wpList_store_new W z 111 hgd 111 x y ho e.arr hx hy (s54 he) (by rw [hz, En.size he]) e.oneA h
end Go.Proofs.YtneihkegipcakaaGreat
/- Layer trace: what the layers below give. -/
namespace Go.Proofs.YtneihkegipcakaaGreat
open Go.RowKit
set_option maxRecDepth 100000
set_option linter.unusedVariables false
set_option linter.unusedSimpArgs false

/-- A climber in block g. -/
structure CL (w : World) (g : Nat) (m : Int) (X : List Int) : Prop where
  c0 : w.cell? ⟨g, 0, none⟩ = some (.func (Fn.func 114) #[] #[])
  c1 : w.cell? ⟨g, 1, none⟩ = some (.int .i64 m)
  rg : w.rangeAt g 2 (by8 X)
  th : w.there g 0 50
end Go.Proofs.YtneihkegipcakaaGreat
/- Layer trace: what the layers below give. -/
namespace Go.Proofs.YtneihkegipcakaaGreat
open Go.RowKit Go.Shelf
set_option maxRecDepth 100000
set_option linter.unusedVariables false
set_option linter.unusedSimpArgs false
attribute [local go_sem] Oper.semAt_some

theorem CL.block {w w' : World} {g : Nat} {m : Int} {X : List Int} (h : CL w g m X) (hb : w'.heap[g]? = w.heap[g]?) : CL w' g m X := by
  refine ⟨(World.cell?_of_block (w := w) (a := ⟨g, 0, none⟩) hb).trans h.c0, (World.cell?_of_block (w := w) (a := ⟨g, 1, none⟩) hb).trans h.c1, fun j v hv => (World.cell?_of_block (w := w) (a := ⟨g, 2 + j, none⟩) hb).trans (h.rg j v hv), fun j hj => ⟨?_, ?_⟩⟩
  · rw [World.cell?_of_block (w := w) (a := ⟨g, 0 + j, none⟩) hb]; exact (h.th j hj).1
  · have h2 := (h.th j hj).2; simp only [World.frozen?] at h2 ⊢; rw [hb]; exact h2
end Go.Proofs.YtneihkegipcakaaGreat
/- Layer trace: what the layers below give. -/
namespace Go.Proofs.YtneihkegipcakaaGreat
open Go.RowKit
set_option maxRecDepth 100000
set_option linter.unusedVariables false
set_option linter.unusedSimpArgs false

theorem Chg.setCell {S : Nat → Prop} {a b : World} (h : Chg S a b) {g j : Nat} (v : Value) (hg : g < a.heap.size → S g) : Chg S a (b.setCell ⟨g, j, none⟩ v) :=
  ⟨h.os, h.tape, h.output, by simpa [World.setCell] using h.size, fun i hi hs => (Below.heap_setCell _ _ _ _ (fun e => hs (by have e : i = g := e; subst e; exact hg hi))).trans (h.block i hi hs)⟩
end Go.Proofs.YtneihkegipcakaaGreat
/- Layer trace: the machine is kept. -/
namespace Go.Proofs.YtneihkegipcakaaGreat
open Go.RowKit
set_option maxRecDepth 100000
set_option linter.unusedVariables false
set_option linter.unusedSimpArgs false


def zMc : Value := .agg #[.int .u64 0, .int .u64 0, .int .u64 0, .int .u64 0, .int .u64 0, .int .u64 0, .int .u64 0, .int .u64 0, .int .u64 0, .int .u64 0, .int .u64 0, .int .u64 0, .int .u64 0, .int .u64 0, .int .u64 0, .int .u64 0, .int .u64 0, .int .u8 0, .slice none 0 0]
theorem info27 : (Tryz.prog.info? 27).map (fun i => (i.zero, i.size, i.bytes)) = some (some zMc, 19, 168) := by kernel_rfl
theorem World.heap_setCell_ne' {w : World} {g b j : Nat} (h : g ≠ b) (v : Value) : (w.setCell ⟨g, j, none⟩ v).heap[b]? = w.heap[b]? := Below.heap_setCell w ⟨g, j, none⟩ v b (Ne.symm h)
theorem info_parts' {e : TypeId} {z : Value} {s b : Nat} (h : (Tryz.prog.info? e).map (fun i => (i.zero, i.size, i.bytes)) = some (some z, s, b)) : ∃ i, Tryz.prog.info? e = some i ∧ i.zero = some z ∧ i.size = s ∧ i.bytes = b := by
  cases h0 : Tryz.prog.info? e with
  | none => rw [h0] at h; cases h
  | some i =>
    rw [h0] at h
    simp only [Option.map_some, Option.some.injEq, Prod.mk.injEq] at h
    exact ⟨i, rfl, h.1, h.2.1, h.2.2⟩
/-- append of a machine to no machines. -/
theorem wp_apM {o : Oper} {a : Act} {w : World} {K : Act → World → Prop} {Q : Exit → Act → World → Prop} (s x : Operand) (ho : o.op = .call { callee := .builtin .append, args := #[s, x], argTypes := #[79, 79] })
    (hs : a.eval s = .slice none 0 0) (C : Array Value) (hC : C.size = 19) (hone : C.all (·.oneCell') = true) (gx c : Nat) (hx : a.eval x = .slice (some ⟨gx, 0, none⟩) 1 c) (hA : Arr w gx 27 C)
    (h : ∀ gt c' w', 1 ≤ c' → w'.rangeAt gt 0 C.toList → w.heap.size ≤ gt → gt < w'.heap.size → Below w.heap.size w w' → K (a.put o.dst (.slice (some ⟨gt, 0, none⟩) 1 c')) w') : o.wp Tryz.prog a w K Q := by
  obtain ⟨i0, hi0, hz0, hz1, hz2⟩ := info_parts' info27
  have hown : w.ownsRow w.heap.size 27 19 (.slice none 0 0) 0 [] := ⟨rfl, .inl ⟨rfl, rfl⟩⟩
  obtain ⟨v', w', hr, h2, h3, h4, h5⟩ := run_append_own_at (P := Tryz.prog) w w.heap.size 79 o.type 27 i0 zMc 19 168 Tryz.underlying79 hi0 hz0 hz1 hz2 (by rfl) (by omega) (.slice none 0 0) 0 [] hown ⟨gx, 0, none⟩ 1 c C.toList (by rw [Array.length_toList, hC]) (fun j u hj => by
    rw [Addr.add_mid, Nat.zero_add, hA.cell]; simpa using hj) (fun u hu => by
      rw [Array.all_eq_true_iff_forall_mem] at hone; exact hone u (by simpa using hu)) (by unfold maxLen; omega) (by omega) (Nat.le_refl _)
  unfold Oper.wp execOp
  simp only [ho, resolve, invoke, builtin, Sem.run_bind, Sem.run_pure, Result.andThen_ok, List.map_toArray, List.map_cons, List.map_nil, hs, hx, hr]
  obtain ⟨hl, e | ⟨gt, cp, cur, rfl, hb, hg, hn, hm, hsz, htk⟩⟩ := h2
  · exact absurd e.2 (by omega)
  have A : Arr w' gt 27 cur := hg
  have hbl : Below w.heap.size w w' := (Below.refl _ _).grown h3 (Nat.le_refl _) (fun k hk => by cases hk)
  refine h gt cp w' hn (fun j v hv => ?_) hb A.lt hbl
  rw [Nat.zero_add, A.cell]
  have e : C.toList = cur.toList.take 19 := by simpa using htk.symm
  rw [e, List.getElem?_take] at hv
  split at hv
  · simpa using hv
  · cases hv
theorem fset : ∀ (l : List Value) (k : Nat) (z : Array Value), k + l.length ≤ z.size → ∀ i, ((l.zipIdx k).foldl (fun (cs : Array Value) x => cs.setIfInBounds x.2 x.1) z)[i]? = if k ≤ i ∧ i < k + l.length then l[i - k]? else z[i]?
  | [], k, z, _, i => by rw [if_neg (by simp)]; try rfl
  | a :: l, k, z, h, i => by
    rw [List.zipIdx_cons, List.foldl_cons, fset l (k + 1) (z.setIfInBounds k a) (by simp at h ⊢; omega) i]
    by_cases h1 : i = k
    · subst h1
      rw [if_neg (by omega), if_pos ⟨by omega, by simp⟩]
      simp at h
      simp [show i < z.size by omega]
    · by_cases h2 : k + 1 ≤ i ∧ i < k + 1 + l.length
      · rw [if_pos h2, if_pos ⟨by omega, by simp; omega⟩]
        have e : i - k = (i - (k + 1)) + 1 := by omega
        rw [e, List.getElem?_cons_succ]
      · rw [if_neg h2, if_neg (by simp; omega)]
        exact Array.getElem?_setIfInBounds_ne (Ne.symm h1)
theorem fold19 (C : Array Value) (h : C.size = 19) : Array.foldl (fun (cs : Array Value) (x : Value × Nat) => cs.setIfInBounds x.snd x.fst) #[.int .u64 0, .int .u64 0, .int .u64 0, .int .u64 0, .int .u64 0, .int .u64 0, .int .u64 0, .int .u64 0, .int .u64 0, .int .u64 0, .int .u64 0, .int .u64 0, .int .u64 0, .int .u64 0, .int .u64 0, .int .u64 0, .int .u64 0, .int .u8 0, .slice none 0 0] C.zipIdx 0 19 = C := by
  have e : C.zipIdx.size = 19 := by simp [h]
  have e2 : Array.foldl (fun (cs : Array Value) (x : Value × Nat) => cs.setIfInBounds x.snd x.fst) #[.int .u64 0, .int .u64 0, .int .u64 0, .int .u64 0, .int .u64 0, .int .u64 0, .int .u64 0, .int .u64 0, .int .u64 0, .int .u64 0, .int .u64 0, .int .u64 0, .int .u64 0, .int .u64 0, .int .u64 0, .int .u64 0, .int .u64 0, .int .u8 0, .slice none 0 0] C.zipIdx 0 19 = (C.toList.zipIdx 0).foldl (fun (cs : Array Value) x => cs.setIfInBounds x.2 x.1) #[.int .u64 0, .int .u64 0, .int .u64 0, .int .u64 0, .int .u64 0, .int .u64 0, .int .u64 0, .int .u64 0, .int .u64 0, .int .u64 0, .int .u64 0, .int .u64 0, .int .u64 0, .int .u64 0, .int .u64 0, .int .u64 0, .int .u64 0, .int .u8 0, .slice none 0 0] := by
    rw [← e, ← Array.foldl_toList, Array.toList_zipIdx]
  rw [e2]
  apply Array.ext_getElem?
  intro i
  rw [fset C.toList 0 _ (by rw [Array.length_toList, h]; decide) i]
  split
  · simp
  · next hi =>
    have hi2 : 19 ≤ i := by rw [Array.length_toList, h] at hi; omega
    rw [Array.getElem?_eq_none (xs := C) (by rw [h]; exact hi2)]; exact Array.getElem?_eq_none (by exact hi2)
/-- A trace without a mark. -/
def tc0 (most len : Int) (gm : Nat) : Array Value := #[.slice none 0 0, .int .i64 most, .int .i64 len, .int .i64 1024, .slice none 0 0, .map (some gm)]
set_option maxHeartbeats 2000000 in
theorem keep_any {w : World} {g gm : Nat} {most len : Int} (A : Arr w g 84 (tc0 most len gm)) (C : Array Value) (hC : C.size = 19) (hone : C.all (·.oneCell') = true) :
    Calls Tryz.prog 52 #[.pointer (some ⟨g, 3, none⟩), .agg C] w fun e w' => e = .returned (.tuple #[]) ∧ ∃ gt c, 1 ≤ c ∧ w'.rangeAt gt 0 C.toList ∧ w.heap.size ≤ gt ∧ gt < w'.heap.size ∧ Arr w' g 84 (tcA most len gt gm c) ∧ Chg (· = g) w w' := by
  have hlt := A.lt
  have b0 := alloc_bel' w (.cells C 27)
  have AB := Arr.new w 27 C
  have AG := A.alloc (.cells C 27)
  obtain ⟨W, hW⟩ : ∃ x, x = w.alloc (.cells C 27) := ⟨_, rfl⟩
  rw [← hW] at b0 AB AG
  have ltW := AB.lt
  have ltG := AG.lt
  have c4 := AG.cell 4
  unfold tc0 at c4
  go_enter Tryz.func52, Tryz.ntmps52
  go_upto_region 1 with fail
  rw [← hW]
  replace hW := Hid.mk' hW
  have hfd := fold19 C hC
  have hD0 : Below W.heap.size W W.drew := (Below.refl _ _).drew
  have hS0 : ∀ u, Arr u w.heap.size 27 C → Arr u w.heap.size 27 C ∧ True ∧ True := fun u h => ⟨h, trivial, trivial⟩
  have x4 : W.drew.cell? ⟨g, 4, none⟩ = some (.slice none 0 0) := c4
  have b6 := ((Below.refl W.heap.size W).alloc (Nat.le_refl _) (.cells C 27)).drew
  have A6 : Arr (W.alloc (.cells C 27)).drew W.heap.size 27 C := Arr.new W 27 C
  have y4 : (W.alloc (.cells C 27)).drew.cell? ⟨g, 4, none⟩ = some (.slice none 0 0) := (b6.cell (p := ⟨g, 4, none⟩) ltG).trans c4
  have hv1 := b6
  refine rgn (fun u => Arr u w.heap.size 27 C ∧ True ∧ True) (hS0 _ (AB.below hD0 ltW)) (fun hSw => ?_)
  refine tk3 0 rfl ?_
  refine tk3 1 rfl ?_
  refine tk3 2 rfl ?_
  refine tk3 3 rfl ?_
  refine tl 5 rfl (yM rfl (.tmp 3) rfl w.heap.size 0 rfl C hC (fun u h j v hv => by rw [Nat.zero_add, h.1.cell]; simpa using hv)) ?_
  try simp only [Act.put, List.setIfInBounds_toArray, List.set_cons_zero, List.set_cons_succ]
  refine rd2 4 6 rfl rfl (fun K hK => ?_) (fun K hK => ?_)
  · go_simp
    go_wp2_with fail
    refine hK.out _ _ (hS0 _ (AB.below hD0 ltW)) (fun hSv => ?_)
    clear hK K
    try simp only [Act.put, List.setIfInBounds_toArray, List.set_cons_zero, List.set_cons_succ]
    refine rd 6 rfl (fun K hK => ?_)
    go_simp
    go_wp2_with fail
    refine hK.out _ _ (hS0 _ (AB.below b6 ltW)) (fun hSv => ?_)
    clear hK K
    try simp only [Act.put, List.setIfInBounds_toArray, List.set_cons_zero, List.set_cons_succ]
    refine rd 7 rfl (fun K hK => ?_)
    refine step_want rfl (wp_apM (.tmp 8) (.tmp 10) rfl rfl C hC hone W.heap.size 1 rfl A6 ?_)
    intro gt c' w2 hc' hR hge hlt2 hb2
    have hv2 := hv1.trans (hb2.mono hv1.size)
    have AG2 := AG.below hv2 ltG
    refine hK.out _ _ (hS0 _ (AB.below hv2 ltW)) (fun hSv2 => ?_)
    clear hK K
    try simp only [Act.put, List.setIfInBounds_toArray, List.set_cons_zero, List.set_cons_succ]
    refine tk3 8 rfl ?_
    refine tk3 9 rfl ?_
    refine rd 10 rfl (fun K hK => ?_)
    have hf := AG2.frozen 4
    have c9 := AG2.cell 4
    have AG3 := AG2.set 4 (.slice (some ⟨gt, 0, none⟩) 1 c')
    have AB3 := (AB.below hv2 ltW).setOther (a := ⟨g, 4, none⟩) (.slice (some ⟨gt, 0, none⟩) 1 c') (by show w.heap.size ≠ g; omega)
    unfold tc0 at c9 AG3
    go_simp
    go_wp2_with fail
    refine hK.out _ _ (hS0 _ AB3) (fun hSv3 => ?_)
    clear hK K
    try simp only [Act.put, List.setIfInBounds_toArray, List.set_cons_zero, List.set_cons_succ]
    refine dn ?_
    go_wp2_with fail
    have hge2 : g ≠ gt := by have := hv1.size; omega
    have hs1 := hv1.size
    refine ⟨rfl, _, results_none Tryz.results52 _ _ _, rfl, gt, c', hc', fun j v hv => ?_, ?_, ?_, AG3, ?_⟩
    · rw [World.cell?_of_block (World.heap_setCell_ne' hge2 _)]; exact hR j v hv
    · omega
    · simpa using hlt2
    · exact (Chg.of_below (b0.trans (hv2.mono b0.size))).setCell _ (fun _ => rfl)
  · go_simp
    go_wp2_with fail
    refine hK.out _ _ (hS0 _ (AB.below b6 ltW)) (fun hSv => ?_)
    clear hK K
    try simp only [Act.put, List.setIfInBounds_toArray, List.set_cons_zero, List.set_cons_succ]
    refine rd 4 rfl (fun K hK => ?_)
    go_simp
    go_wp2_with fail
    refine hK.out _ _ (hS0 _ (AB.below b6 ltW)) (fun hSv => ?_)
    clear hK K
    try simp only [Act.put, List.setIfInBounds_toArray, List.set_cons_zero, List.set_cons_succ]
    refine rd 7 rfl (fun K hK => ?_)
    refine step_want rfl (wp_apM (.tmp 8) (.tmp 10) rfl rfl C hC hone W.heap.size 1 rfl A6 ?_)
    intro gt c' w2 hc' hR hge hlt2 hb2
    have hv2 := hv1.trans (hb2.mono hv1.size)
    have AG2 := AG.below hv2 ltG
    refine hK.out _ _ (hS0 _ (AB.below hv2 ltW)) (fun hSv2 => ?_)
    clear hK K
    try simp only [Act.put, List.setIfInBounds_toArray, List.set_cons_zero, List.set_cons_succ]
    refine tk3 8 rfl ?_
    refine tk3 9 rfl ?_
    refine rd 10 rfl (fun K hK => ?_)
    have hf := AG2.frozen 4
    have c9 := AG2.cell 4
    have AG3 := AG2.set 4 (.slice (some ⟨gt, 0, none⟩) 1 c')
    have AB3 := (AB.below hv2 ltW).setOther (a := ⟨g, 4, none⟩) (.slice (some ⟨gt, 0, none⟩) 1 c') (by show w.heap.size ≠ g; omega)
    unfold tc0 at c9 AG3
    go_simp
    go_wp2_with fail
    refine hK.out _ _ (hS0 _ AB3) (fun hSv3 => ?_)
    clear hK K
    try simp only [Act.put, List.setIfInBounds_toArray, List.set_cons_zero, List.set_cons_succ]
    refine dn ?_
    go_wp2_with fail
    have hge2 : g ≠ gt := by have := hv1.size; omega
    have hs1 := hv1.size
    refine ⟨rfl, _, results_none Tryz.results52 _ _ _, rfl, gt, c', hc', fun j v hv => ?_, ?_, ?_, AG3, ?_⟩
    · rw [World.cell?_of_block (World.heap_setCell_ne' hge2 _)]; exact hR j v hv
    · omega
    · simpa using hlt2
    · exact (Chg.of_below (b0.trans (hv2.mono b0.size))).setCell _ (fun _ => rfl)
end Go.Proofs.YtneihkegipcakaaGreat
/- Layer trace: what the layers below give. -/
namespace Go.Proofs.YtneihkegipcakaaGreat
open Go.RowKit
set_option maxRecDepth 100000
set_option linter.unusedVariables false
set_option linter.unusedSimpArgs false

theorem info26 : (Tryz.prog.info? 22).map (fun i => (i.zero, i.size, i.bytes)) = some (some (.int .u64 0), 1, 8) := by kernel_rfl
theorem by64_one (L : List Int) : ∀ v ∈ by64 L, v.oneCell' = true := by
  intro v hv
  simp only [by64, List.mem_map] at hv
  obtain ⟨x, -, rfl⟩ := hv
  rfl
theorem append_words {N : Nat} {ops : Array Oper} {rest : List Oper} {o : Oper} {a : Act} {w : World} {Q : Exit → Act → World → Prop} (hgd : Region.wanted o (yielded ops a.tmps) = true) (s x : Operand)
    (ho : o.op = .call { callee := .builtin .append, args := #[s, x], argTypes := #[25, 25] })
    (base : Nat) (v : Value) (hs : a.eval s = v) (hown : w.ownsRow base 22 1 v 0 (by64 []))
    (sp : Option Addr) (n c : Nat) (L : List Int) (hx : a.eval x = .slice sp n c) (hS : MS N w sp n c L) (hbase : base ≤ w.heap.size)
    (h : ∀ v' w', w'.ownsRow base 22 1 v' n (by64 L) → w.grownBy w' v.ownBlock → wpList Tryz.prog ops Q rest (a.put o.dst v') w') : wpList Tryz.prog ops Q (o :: rest) a w := by
  obtain ⟨i0, hi, hz0, hz1, hz2⟩ := info_parts info26
  refine wpList_want hgd fun K hK => ?_
  have hl := hS.len.out
  cases sp with
  | none =>
    obtain ⟨rfl, rfl⟩ := hS.nil rfl
    obtain rfl : L = [] := List.eq_nil_of_length_eq_zero hl.symm
    have hrun := run_append_owned_none (P := Tryz.prog) (w := w) base 25 o.type 22 i0 1 Tryz.underlying25 hi v 0 _ hown
    unfold Oper.wp
    simp [execOp, ho, resolve, invoke, builtin, hs, hx, hrun, Result.andThen]
    exact hK _ _ (h v w hown ⟨rfl, rfl, rfl, Nat.le_refl _, fun _ _ _ => rfl⟩)
  | some ad =>
    have hsm := hS.small
    refine wp_append_own w s x 25 ho base 22 i0 (.int .u64 0) 1 8 Tryz.underlying25 hi hz0 hz1 hz2 rfl (by omega) v 0 _ hs hown ad n c (by64 L) hx (by rw [by64_len]; omega) ?_ (by64_one L) (by unfold maxLen; omega) (by omega) hbase ?_
    · intro j u hj
      have hjl : j < L.length := by have := (List.getElem?_eq_some_iff.1 hj).1; rwa [by64_len] at this
      obtain ⟨b, off, e, -, hB⟩ := hS.at0 (by omega)
      obtain rfl := Option.some.inj e
      rw [by64_get hjl] at hj
      rw [Addr.add_mid, hB j (by omega)]; exact hj
    · intro v' w' h1 h2 _
      exact hK _ _ (h v' w' (by simpa [by64] using h1) h2)
theorem own64 {w : World} {base n : Nat} {v : Value} {L : List Int} (h : w.ownsRow base 22 1 v n (by64 L)) (h0 : 0 < n) :
    ∃ gm cap, v = .slice (some ⟨gm, 0, none⟩) n cap ∧ n = L.length ∧ base ≤ gm ∧ n ≤ cap ∧ cap ≤ 9223372036854775807 ∧ MW w gm L := by
  obtain ⟨hl, h | ⟨g, cap, cur, rfl, hg, hh, hn, hm, hc, ht⟩⟩ := h
  · omega
  · rw [by64_len, Nat.mul_one] at hl
    subst hl
    refine ⟨g, cap, rfl, rfl, hg, hn, by unfold maxLen at hm; omega, cur, hh, fun t htl => ?_⟩
    rw [← Array.getElem?_toList, ← List.getElem?_take_of_lt (show t < L.length * 1 by omega), ht, by64_get htl]
set_option maxHeartbeats 400000 in
theorem clone64_any (sp : Option Addr) (n cap : Nat) (L : List Int) (N : Nat) (w : World) (hS : MS N w sp n cap L) (h0 : 0 < n) :
    Calls Tryz.prog 81 #[.slice sp n cap] w fun e w' => ∃ gm cap', e = .returned (.slice (some ⟨gm, 0, none⟩) n cap') ∧ w.heap.size ≤ gm ∧ n ≤ cap' ∧ cap' ≤ 9223372036854775807 ∧ MW w' gm L ∧ Below w.heap.size w w' := by
  have q22 : ∀ (w : World) (a : Option Addr) (n c n' c' : Nat), (binOp .eql 25 (.slice a n c) (.slice none n' c')).run Tryz.prog w = .ok (.bool a.isNone) w := fun w a n c n' c' => Lib.run_eql_slice_nil w _ _ a n c n' c' Tryz.underlying25
  obtain ⟨g, off, rfl, -⟩ := hS.at0 h0
  have hlit : (w.alloc (.cells #[] 22)).ownsRow w.heap.size 22 1 (.slice (some ⟨w.heap.size, 0, none⟩) 0 0) 0 (by64 []) := World.ownsRow_lit _ _ _ (Nat.le_refl _) (by unfold maxLen; omega) rfl
  have hS' := hS.here.below (alloc_bel' w (.cells #[] 22))
  go_enter Tryz.func81, Tryz.ntmps81
  go_wp2_with (at_builtin; go_must (refine append_words (by rfl) (.tmp 5) (.tmp 6) (by rfl) w.heap.size _ (by rfl) hlit (some ⟨g, off, none⟩) n cap L (by rfl) hS' (by simp) ?_; intro v1 w1 hown1 hg1))
  obtain ⟨gm, cap', rfl, -, hb, hc1, hc2, hM⟩ := own64 hown1 h0
  go_ret
  exact ⟨gm, cap', rfl, hb, hc1, hc2, hM, ((Below.refl _ _).alloc (Nat.le_refl _) _).grown hg1 (by simp) (fun k e => by simp [Value.ownBlock] at e; omega)⟩
end Go.Proofs.YtneihkegipcakaaGreat
/- Layer trace: what the layers below give. -/
namespace Go.Proofs.YtneihkegipcakaaGreat
open Go.RowKit
set_option maxRecDepth 100000
set_option linter.unusedVariables false
set_option linter.unusedSimpArgs false

/-- Entries, by sums. -/
def entsH (L : List (List Int × Int × Nat)) : List MapEntry := L.map fun x => { key := .agg (h8 x.1), val := .int .i64 x.2.1, born := x.2.2 }
def kvH (L : List (List Int × Int × Nat)) (k : List Int) : Option Int := (L.find? (fun x => decide (x.1 = k))).map (·.2.1)
/-- Block r is a map that has m. -/
def MapH (w : World) (r : Nat) (m : List Int → Option Int) : Prop := ∃ L clock, w.heap[r]? = some (.map (entsH L).toArray clock) ∧ (∀ x ∈ L, x.1.length = 32) ∧ ∀ k, kvH L k = m k
theorem MapH.new (w : World) : MapH (w.alloc (.map #[] 0)) w.heap.size (fun _ => none) := ⟨[], 0, heap_alloc_new w _, (fun x h => by cases h), fun _ => rfl⟩
theorem MapH.same {w w' : World} {r : Nat} {m : List Int → Option Int} (h : MapH w r m) (he : w'.heap[r]? = w.heap[r]?) : MapH w' r m := by
  obtain ⟨L, clock, h1, h2⟩ := h
  exact ⟨L, clock, he.trans h1, h2⟩
theorem MapH.lt {w : World} {r : Nat} {m : List Int → Option Int} (h : MapH w r m) : r < w.heap.size := by
  obtain ⟨L, clock, h1, h2⟩ := h
  exact (Array.getElem?_eq_some_iff.1 h1).1
theorem run_equal29 {X Y : List Int} (hX : X.length = 32) (hY : Y.length = 32) (w : World) : (Op.equal 40 (.agg (h8 X)) (.agg (h8 Y))).run Tryz.prog w = .ok (decide (X = Y)) w := run_eqIn24 hX hY w
theorem find_ask (k : List Int) (hk : k.length = 32) (w : World) : ∀ (L : List (List Int × Int × Nat)) (i : Nat), (∀ x ∈ L, x.1.length = 32) → (kvH L k = none ∧ (Instr.findAsking 40 (.agg (h8 k)) (entsH L) i).run Tryz.prog w = .ok none w) ∨ ∃ v j, kvH L k = some v ∧ (Instr.findAsking 40 (.agg (h8 k)) (entsH L) i).run Tryz.prog w = .ok (some (j, .int .i64 v)) w
  | [], i, _ => .inl ⟨rfl, by simp [entsH, Instr.findAsking]⟩
  | x :: L, i, hl => by
    have hx := hl x (by simp)
    have he := run_equal29 hk hx w
    by_cases h : x.1 = k
    · right
      refine ⟨x.2.1, i, by simp [kvH, h], ?_⟩
      rw [decide_eq_true h.symm] at he
      simp [entsH, Instr.findAsking, Sem.run_bind, he]
    · rw [decide_eq_false (fun e => h e.symm)] at he
      have h1 : kvH (x :: L) k = kvH L k := by simp [kvH, h]
      have h2 : (Instr.findAsking 40 (.agg (h8 k)) (entsH (x :: L)) i).run Tryz.prog w = (Instr.findAsking 40 (.agg (h8 k)) (entsH L) (i + 1)).run Tryz.prog w := by
        simp [entsH, Instr.findAsking, Sem.run_bind, he]
      rw [h1, h2]
      exact find_ask k hk w L (i + 1) (fun y hy => hl y (by simp [hy]))
theorem find_key (k : List Int) (hk : k.length = 32) (w : World) (L : List (List Int × Int × Nat)) (hl : ∀ x ∈ L, x.1.length = 32) : (kvH L k = none ∧ (Instr.findKey 40 (.agg (h8 k)) (entsH L)).run Tryz.prog w = .ok none w) ∨ ∃ v j, kvH L k = some v ∧ (Instr.findKey 40 (.agg (h8 k)) (entsH L)).run Tryz.prog w = .ok (some (j, .int .i64 v)) w := by
  cases L with
  | nil => exact .inl ⟨rfl, by simp [entsH, Instr.findKey, Instr.findNow, Sem.run_bind, run_underlying Tryz.underlying40]⟩
  | cons x L =>
    have e : (Instr.findKey 40 (.agg (h8 k)) (entsH (x :: L))).run Tryz.prog w = (Instr.findAsking 40 (.agg (h8 k)) (entsH (x :: L)) 0).run Tryz.prog w := by
      simp [entsH, Instr.findKey, Instr.findNow, Instr.sameNow, Sem.run_bind, run_underlying Tryz.underlying40]
    rw [e]
    exact find_ask k hk w (x :: L) 0 hl
theorem check_byte (b : Bool) (n : Nat) (z : Int) (w : World) : (Instr.checkKey b (n + 1) 5 (.int .u8 z)).run Tryz.prog w = .ok () w := by
  rw [Instr.checkKey]
  simp only [Sem.run_bind, run_underlying Tryz.underlying5, Result.andThen_ok]
  rfl
theorem check_sum (X : List Int) (hX : X.length = 32) (w : World) (b : Bool) : (Instr.checkKey b 10000 40 (.agg (h8 X))).run Tryz.prog w = .ok () w := by
  obtain ⟨i0, hi, -, hz1, -⟩ := info_parts info5
  have hc : Tryz.prog.cellsOf 5 = 1 := by kernel_rfl
  have each : ∀ j ∈ List.range' 0 32, (part 5 (h8 X) (j * Tryz.prog.cellsOf 5)).run Tryz.prog w = .ok (.int .u8 (bat X j)) w := fun j hj => by
    have hj : j < 32 := by simpa using hj
    have hg := h8_get (X := X) (t := j) (by omega)
    have ha := @Tryz.isAgg5
    simp [part, ha, hc, hg]
  have hb9 : ∀ z : Int, (Instr.checkKey b 9999 5 (.int .u8 z)).run Tryz.prog w = .ok () w := fun z => check_byte b 9998 z w
  rw [show (10000 : Nat) = 9999 + 1 from rfl, Instr.checkKey]
  simp only [Sem.run_bind, run_underlying Tryz.underlying40, Result.andThen_ok]
  simp only [Std.Legacy.Range.forIn_eq_forIn_range', Std.Legacy.Range.size, Nat.sub_zero, Nat.add_one_sub_one, Nat.div_one]
  generalize List.range' 0 32 = is at each
  induction is with
  | nil => simp
  | cons j is ih =>
    have p1 := each j (by simp)
    simp only [List.forIn_cons, Sem.run_bind, run_sizeOf w hi, Result.andThen_ok, p1, hb9, Sem.run_pure]
    exact ih (fun y hy => each y (by simp [hy]))
theorem run_lookupH {w : World} {r : Nat} {m : List Int → Option Int} (h : MapH w r m) (k : List Int) (hk : k.length = 32) :
    (Instr.lookup 152 (.map (some r)) (.agg (h8 k)) true).run Tryz.prog w = .ok (.tuple #[.int .i64 ((m k).getD 0), .bool (m k).isSome]) w := by
  obtain ⟨L, clock, h1, hl, h2⟩ := h
  have hg : (getObj r).run Tryz.prog w = .ok (.map (entsH L).toArray clock) w := by simp [getObj, Sem.run, h1]
  have hck := check_sum k hk w
  have hz : (zeroValue 3).run Tryz.prog w = .ok (.int .i64 0) w := by kernel_rfl
  rw [← h2]
  rcases find_key k hk w L hl with ⟨e1, e2⟩ | ⟨v, j, e1, e2⟩
  · simp [Instr.lookup, Sem.run_bind, run_underlying Tryz.underlying152, hg, hck, e1, e2, Result.andThen, hz]
  · simp [Instr.lookup, Sem.run_bind, run_underlying Tryz.underlying152, hg, hck, e1, e2, Result.andThen]
theorem run_updateH {w : World} {r : Nat} {m : List Int → Option Int} (h : MapH w r m) (k : List Int) (hk : k.length = 32) (v : Int) (hno : m k = none) :
    ∃ o, (Instr.mapUpdate 152 (.map (some r)) (.agg (h8 k)) (.int .i64 v)).run Tryz.prog w = .ok () (w.putObj r o) ∧ MapH (w.putObj r o) r (fun j => if j = k then some v else m j) := by
  obtain ⟨L, clock, h1, hl, h2⟩ := h
  have hlt := (Array.getElem?_eq_some_iff.1 h1).1
  have hg : (getObj r).run Tryz.prog w = .ok (.map (entsH L).toArray clock) w := by simp [getObj, Sem.run, h1]
  have hs : ∀ o, (setObj r o).run Tryz.prog w = .ok () (w.putObj r o) := fun o => by simp [setObj, Sem.run, h1, World.putObj]
  have hck := check_sum k hk w
  rcases find_key k hk w L hl with ⟨e1, e2⟩ | ⟨v', j, e1, e2⟩
  · refine ⟨.map ((entsH L).toArray.push { key := .agg (h8 k), val := .int .i64 v, born := clock }) (clock + 1), ?_, L ++ [(k, v, clock)], clock + 1, ?_, ?_, fun j => ?_⟩
    · simp [Instr.mapUpdate, Sem.run_bind, run_underlying Tryz.underlying152, hg, hck, hs, e2, Result.andThen]
    · rw [World.putObj_heap_same hlt]; simp [entsH]
    · intro x hx
      rcases List.mem_append.1 hx with hx | hx
      · exact hl x hx
      · simp at hx; subst hx; exact hk
    · have : kvH (L ++ [(k, v, clock)]) j = (kvH L j).or (if j = k then some v else none) := by
        simp only [kvH, List.find?_append, Option.map_or]
        congr 1
        by_cases e : j = k
        · subst e; simp
        · simp [e, Ne.symm e]
      rw [this, h2]
      by_cases e : j = k
      · subst e; rw [hno]; simp
      · simp [e]
  · rw [h2, hno] at e1; cases e1
end Go.Proofs.YtneihkegipcakaaGreat
/- Layer trace: what the layers below give. -/
namespace Go.Proofs.YtneihkegipcakaaGreat
open Go.RowKit
set_option maxRecDepth 100000
set_option linter.unusedVariables false
set_option linter.unusedSimpArgs false

theorem wrap64_of {x : Int} (h : 0 ≤ x) (h2 : x < 18446744073709551616) : IntKind.u64.wrap x = x := by
  simp only [IntKind.wrap, IntKind.bits, IntKind.signed]; simp; omega
end Go.Proofs.YtneihkegipcakaaGreat
/- Layer trace: what the layers below give. -/
namespace Go.Proofs.YtneihkegipcakaaGreat
open Go.RowKit
set_option maxRecDepth 100000
set_option linter.unusedVariables false
set_option linter.unusedSimpArgs false

theorem wrap_u64 {x : Int} (h : U64 x) : IntKind.u64.wrap x = x := wrap64_of h.1 h.2
theorem wrap_mod (x : Int) : IntKind.u64.wrap x = x % 18446744073709551616 := by
  simp only [IntKind.wrap, IntKind.bits, IntKind.signed]
  simp
theorem bits_u64 (op : BinOp) (x y : Int) : U64 (bits op .u64 x y) := by
  unfold bits
  exact U64.wrap _
/-- Moved up, moved down. -/
def sl64 (x y : Int) : Int := IntKind.u64.wrap (x * 2 ^ min y.toNat 64)
def sr64 (x y : Int) : Int := x / 2 ^ min y.toNat 64
theorem sl64_big {x y : Int} (h : 64 ≤ y) : sl64 x y = 0 := by
  unfold sl64
  rw [show min y.toNat 64 = 64 from Nat.min_eq_right (by omega), wrap_mod]
  omega
theorem sr64_big {x y : Int} (hx : U64 x) (h : 64 ≤ y) : sr64 x y = 0 := by
  have h1 := hx.1
  have h2 := hx.2
  unfold sr64
  rw [show min y.toNat 64 = 64 from Nat.min_eq_right (by omega)]
  omega
/-- What an instruction from ADD to EQ makes of two words. -/
def rk (op x y : Int) : Option Int :=
  if op = 5 then some (IntKind.u64.wrap (x + y)) else if op = 6 then some (IntKind.u64.wrap (x - y)) else if op = 7 then some (IntKind.u64.wrap (x * y))
  else if op = 8 then (if y = 0 then none else some (x / y)) else if op = 9 then (if y = 0 then none else some (x % y))
  else if op = 10 then some (bits .and .u64 x y) else if op = 11 then some (bits .or .u64 x y) else if op = 12 then some (bits .xor .u64 x y)
  else if op = 13 then some (sl64 x y) else if op = 14 then some (sr64 x y)
  else if op = 15 then some (if x < y then 1 else 0) else some (if x = y then 1 else 0)
theorem sl64_u (x y : Int) : U64 (sl64 x y) := U64.wrap _
theorem ediv_u {x y : Int} (hx : U64 x) (hy : 0 ≤ y) : U64 (x / y) := by
  have h1 := hx.1
  have h2 := hx.2
  refine ⟨Int.ediv_nonneg h1 hy, ?_⟩
  have := Int.ediv_le_self y h1
  omega
theorem sr64_u {x : Int} (y : Int) (hx : U64 x) : U64 (sr64 x y) := ediv_u hx (Int.le_of_lt (Int.pow_pos (by omega)))
theorem ops12 {op : Int} (h : 5 ≤ op ∧ op ≤ 16) : op = 5 ∨ op = 6 ∨ op = 7 ∨ op = 8 ∨ op = 9 ∨ op = 10 ∨ op = 11 ∨ op = 12 ∨ op = 13 ∨ op = 14 ∨ op = 15 ∨ op = 16 := by omega
theorem bit_u (b : Prop) [Decidable b] : U64 (if b then 1 else 0) := by
  split <;> (unfold U64; omega)
theorem rk_u {op x y z : Int} (ho : 5 ≤ op ∧ op ≤ 16) (hx : U64 x) (hy : U64 y) (h : rk op x y = some z) : U64 z := by
  have hy1 := hy.1
  have hy2 := hy.2
  rcases ops12 ho with rfl | rfl | rfl | rfl | rfl | rfl | rfl | rfl | rfl | rfl | rfl | rfl
  · rw [← show IntKind.u64.wrap (x + y) = z by simpa [rk] using h]; exact U64.wrap _
  · rw [← show IntKind.u64.wrap (x - y) = z by simpa [rk] using h]; exact U64.wrap _
  · rw [← show IntKind.u64.wrap (x * y) = z by simpa [rk] using h]; exact U64.wrap _
  · have hz' : ¬ y = 0 ∧ x / y = z := by simpa [rk] using h
    rw [← hz'.2]; exact ediv_u hx hy1
  · have hz' : ¬ y = 0 ∧ x % y = z := by simpa [rk] using h
    rw [← hz'.2]
    have h2 := Int.emod_nonneg x hz'.1
    have h3 := Int.emod_lt_of_pos x (show 0 < y by have := hz'.1; omega)
    unfold U64; omega
  · rw [← show bits .and .u64 x y = z by simpa [rk] using h]; exact bits_u64 _ _ _
  · rw [← show bits .or .u64 x y = z by simpa [rk] using h]; exact bits_u64 _ _ _
  · rw [← show bits .xor .u64 x y = z by simpa [rk] using h]; exact bits_u64 _ _ _
  · rw [← show sl64 x y = z by simpa [rk] using h]; exact sl64_u _ _
  · rw [← show sr64 x y = z by simpa [rk] using h]; exact sr64_u _ hx
  · rw [← show (if x < y then 1 else 0) = z by simpa [rk] using h]; exact bit_u _
  · rw [← show (if x = y then 1 else 0) = z by simpa [rk] using h]; exact bit_u _
theorem rk_none {op x y : Int} (ho : 5 ≤ op ∧ op ≤ 16) (hz : rk op x y = none) : (op = 8 ∨ op = 9) ∧ y = 0 := by
  rcases ops12 ho with rfl | rfl | rfl | rfl | rfl | rfl | rfl | rfl | rfl | rfl | rfl | rfl <;> simp [rk] at hz ⊢ <;> exact hz
/-- What leaves a step that can't be done. -/
def trapV : List PanicEntry := [{ v := .iface 194 (.agg #[]), recovered := false }]
end Go.Proofs.YtneihkegipcakaaGreat
/- Layer trace: what the layers below give. -/
namespace Go.Proofs.YtneihkegipcakaaGreat
open Go.RowKit
set_option maxRecDepth 100000
set_option linter.unusedVariables false
set_option linter.unusedSimpArgs false

/-- What stands in a word. -/
def dOp (w : Int) : Int := w / 72057594037927936
def dA (w : Int) : Int := w / 4503599627370496 % 16
def dB (w : Int) : Int := w / 281474976710656 % 16
def dC (w : Int) : Int := w / 17592186044416 % 16
def dI (w : Int) : Int := w % 4294967296
/-- Is it an instruction? -/
def dOk (w : Int) : Bool := decide (1 ≤ dOp w ∧ dOp w ≤ 25 ∧ w / 4294967296 % 4096 = 0)
/-- The word of an instruction. -/
def wdI (o a b c i : Int) : Int := o * 72057594037927936 + a % 16 * 4503599627370496 + b % 16 * 281474976710656 + c % 16 * 17592186044416 + i
theorem wdI_u {o a b c i : Int} (ho : 0 ≤ o ∧ o < 256) (hi : 0 ≤ i ∧ i < 4294967296) : U64 (wdI o a b c i) := by
  unfold U64 wdI; omega
/-- An instruction as it lies in memory. -/
def cdA (o a b c i : Int) : Array Value := #[.int .u8 o, .int .u8 a, .int .u8 b, .int .u8 c, .int .u32 i]
theorem toNat64 {x : Int} (h : U64 x) : (BitVec.ofInt 64 x).toNat = x.toNat := by
  have h1 := h.1
  have h2 := h.2
  rw [BitVec.toNat_ofInt]
  omega
theorem and15_8 {x : Int} (h : 0 ≤ x ∧ x < 256) : bits .and .u8 x 15 = x % 16 := by
  have e : (BitVec.ofInt 8 15).toNat = 2 ^ 4 - 1 := by decide
  have e2 : (BitVec.ofInt 8 x).toNat = x.toNat := by rw [BitVec.toNat_ofInt]; omega
  show IntKind.u8.wrap ((BitVec.ofInt 8 x &&& BitVec.ofInt 8 15).toNat : Int) = _
  rw [BitVec.toNat_and, e2, e, Nat.and_two_pow_sub_one_eq_mod]
  simp only [IntKind.wrap, IntKind.bits, IntKind.signed]
  simp
  omega
theorem nat_gap (x : Nat) : x &&& 17587891077120 = x / 4294967296 % 4096 * 4294967296 := by
  have e : (17587891077120 : Nat) = 4095 <<< 32 := by decide
  have e2 : x / 4294967296 % 4096 * 4294967296 = ((x >>> 32) &&& 4095) <<< 32 := by
    rw [show (4095 : Nat) = 2 ^ 12 - 1 by decide, Nat.and_two_pow_sub_one_eq_mod, Nat.shiftLeft_eq, Nat.shiftRight_eq_div_pow]
  rw [e, e2]
  apply Nat.eq_of_testBit_eq
  intro i
  simp only [Nat.testBit_and, Nat.testBit_shiftLeft, Nat.testBit_shiftRight]
  by_cases h : 32 ≤ i
  · simp [h, show 32 + (i - 32) = i by omega]
  · simp [h]
theorem and_gap {x : Int} (h : U64 x) : bits .and .u64 x 17587891077120 = x / 4294967296 % 4096 * 4294967296 := by
  have h1 := h.1
  have h2 := h.2
  have e : (BitVec.ofInt 64 17587891077120).toNat = 17587891077120 := by decide
  show IntKind.u64.wrap ((BitVec.ofInt 64 x &&& BitVec.ofInt 64 17587891077120).toNat : Int) = _
  rw [BitVec.toNat_and, toNat64 h, e, nat_gap, wrap_mod]
  omega
theorem or_add (k q y : Nat) (hy : y < 2 ^ k) (h : 2 ^ k * q + y < 18446744073709551616) : bits .or .u64 ((2 ^ k * q : Nat) : Int) (y : Int) = ((2 ^ k * q + y : Nat) : Int) := by
  have e1 : (BitVec.ofInt 64 ((2 ^ k * q : Nat) : Int)).toNat = 2 ^ k * q := by rw [toNat64 ⟨by omega, by omega⟩]; omega
  have e2 : (BitVec.ofInt 64 (y : Int)).toNat = y := by rw [toNat64 ⟨by omega, by omega⟩]; omega
  show IntKind.u64.wrap ((BitVec.ofInt 64 ((2 ^ k * q : Nat) : Int) ||| BitVec.ofInt 64 (y : Int)).toNat : Int) = _
  rw [BitVec.toNat_or, e1, e2, ← Nat.two_pow_add_eq_or_of_lt hy, wrap_mod]
  omega
theorem or_addI (k : Nat) {x y : Int} (hx : U64 x) (hd : x % (2 ^ k : Nat) = 0) (hy : 0 ≤ y ∧ y < (2 ^ k : Nat)) (h : x + y < 18446744073709551616) : bits .or .u64 x y = x + y := by
  have h1 := hx.1
  obtain ⟨q, hq⟩ : ∃ q, x.toNat = 2 ^ k * q := by
    refine ⟨x.toNat / 2 ^ k, ?_⟩
    have : x.toNat % 2 ^ k = 0 := by
      have e : x = (x.toNat : Int) := by omega
      rw [e] at hd
      exact_mod_cast hd
    have h3 := Nat.div_add_mod x.toNat (2 ^ k)
    omega
  have hq' : x = ((2 ^ k * q : Nat) : Int) := by omega
  have := or_add k q y.toNat (by have := hy.1; have := hy.2; omega) (by have := hy.1; omega)
  rw [hq', show y = (y.toNat : Int) by have := hy.1; omega, this]
  omega
/-- Word, as the model reckons it. -/
def wdV (o a b c i : Int) : Int := bits .or .u64 (bits .or .u64 (bits .or .u64 (bits .or .u64 (IntKind.u64.wrap (IntKind.u64.wrap o * 72057594037927936)) (IntKind.u64.wrap (IntKind.u64.wrap (bits .and .u8 a 15) * 4503599627370496))) (IntKind.u64.wrap (IntKind.u64.wrap (bits .and .u8 b 15) * 281474976710656))) (IntKind.u64.wrap (IntKind.u64.wrap (bits .and .u8 c 15) * 17592186044416))) (IntKind.u64.wrap i)
theorem wdV_eq {o a b c i : Int} (ho : 0 ≤ o ∧ o < 256) (ha : 0 ≤ a ∧ a < 256) (hb : 0 ≤ b ∧ b < 256) (hc : 0 ≤ c ∧ c < 256) (hi : 0 ≤ i ∧ i < 4294967296) : wdV o a b c i = wdI o a b c i := by
  unfold wdV wdI
  rw [and15_8 ha, and15_8 hb, and15_8 hc]
  have wr : ∀ x : Int, 0 ≤ x → x < 18446744073709551616 → IntKind.u64.wrap x = x := fun x h1 h2 => wrap_u64 ⟨h1, h2⟩
  rw [wr o (by omega) (by omega), wr (a % 16) (by omega) (by omega), wr (b % 16) (by omega) (by omega), wr (c % 16) (by omega) (by omega), wr i (by omega) (by omega),
    wr (o * 72057594037927936) (by omega) (by omega), wr (a % 16 * 4503599627370496) (by omega) (by omega), wr (b % 16 * 281474976710656) (by omega) (by omega), wr (c % 16 * 17592186044416) (by omega) (by omega)]
  have p56 : ((2 ^ 56 : Nat) : Int) = 72057594037927936 := by decide
  have p52 : ((2 ^ 52 : Nat) : Int) = 4503599627370496 := by decide
  have p48 : ((2 ^ 48 : Nat) : Int) = 281474976710656 := by decide
  have p44 : ((2 ^ 44 : Nat) : Int) = 17592186044416 := by decide
  rw [or_addI 56 (x := o * 72057594037927936) (y := a % 16 * 4503599627370496) ⟨by omega, by omega⟩ (by rw [p56]; omega) (by rw [p56]; omega) (by omega),
    or_addI 52 (x := o * 72057594037927936 + a % 16 * 4503599627370496) (y := b % 16 * 281474976710656) ⟨by omega, by omega⟩ (by rw [p52]; omega) (by rw [p52]; omega) (by omega),
    or_addI 48 (x := o * 72057594037927936 + a % 16 * 4503599627370496 + b % 16 * 281474976710656) (y := c % 16 * 17592186044416) ⟨by omega, by omega⟩ (by rw [p48]; omega) (by rw [p48]; omega) (by omega),
    or_addI 44 (x := o * 72057594037927936 + a % 16 * 4503599627370496 + b % 16 * 281474976710656 + c % 16 * 17592186044416) (y := i) ⟨by omega, by omega⟩ (by rw [p44]; omega) (by rw [p44]; omega) (by omega)]
set_option maxHeartbeats 1000000 in
theorem refWord_any {o a b c i : Int} (w : World) (ho : 0 ≤ o ∧ o < 256) (ha : 0 ≤ a ∧ a < 256) (hb : 0 ≤ b ∧ b < 256) (hc : 0 ≤ c ∧ c < 256) (hi : 0 ≤ i ∧ i < 4294967296) :
    Calls Tryz.prog 45 #[.agg (cdA o a b c i)] w fun e w' => e = .returned (.int .u64 (wdI o a b c i)) ∧ Below w.heap.size w w' := by
  have E := Hid.mk' (wdV_eq ho ha hb hc hi)
  clear ho ha hb hc hi
  unfold cdA
  go_enter Tryz.func45, Tryz.ntmps45
  go_wp2
  go_ret
  exact ⟨congrArg (fun z => Ending.returned (Value.int IntKind.u64 z)) E.out, (Below.refl _ _).alloc (Nat.le_refl _) _⟩
end Go.Proofs.YtneihkegipcakaaGreat
