/- Pm, Po. -/
import Derived.Test.YtbfelelngoonjaaX01
import Derived.Test.YtbfelelngoonjaaX02
import Derived.Test.YtbfelelngoonjaaX03
import Derived.Test.YtbfelelngoonjaaX04
import Derived.Test.YtbfelelngoonjaaX05
import Derived.Test.YtbfelelngoonjaaX07
import Derived.Test.YtbfelelngoonjaaX17
import Derived.Test.YtbfelelngoonjaaX10
import Derived.Test.YtbfelelngoonjaaX06
import Derived.Test.YtbfelelngoonjaaX12
import Derived.Test.YtbfelelngoonjaaX13
import Derived.Test.YtbfelelngoonjaaX19
import Derived.Test.YtbfelelngoonjaaX14
import Derived.Test.YtbfelelngoonjaaX16
import Derived.Test.YtbfelelngoonjaaX18
import Derived.Test.YtbfelelngoonjaaX20
import Derived.BigQuiet
import Derived.BigRegion
import Derived.ChangeKeysEq
import Derived.Deep.DeepCutAuto
import Derived.Deep.DrawnRows
import Derived.Deep.MidRow
import Derived.Deep.QuietTactic
import Derived.Deep.RegionHeld3
import Derived.Deep.RegionLaw
import Derived.Deep.RegionWith
import Derived.Deep.WholeRow
import Derived.Great.BuildSlice
import Derived.Great.FillDense
import Derived.Laws.AppendOwnNone
import Derived.Laws.BitsLemmas
import Derived.Laws.BytesArg
import Derived.Laws.CopyOwn
import Derived.Laws.CopyRow
import Derived.Laws.MakeOwn
import Derived.Laws.OwnMore
import Derived.Laws.Tables
import Derived.Lib.SlBytesConst
import Derived.LoopIn
import Derived.LoopNIn
import Derived.Maps.AppendAt
import Derived.OwnWalkIn
import Derived.RangeFuncBound
import Derived.RangeFuncCalls
import Derived.RangeFuncLeaves
import Derived.RangeFuncNested
import Derived.RangeFuncRecord
import Derived.Shelf.Abstract
import Derived.Shelf.RegionOpen
import Derived.TacticsInMore
import Derived.WalkKit
import Derived.WalkLawsBesides
import Derived.WalkSpells
/- Layer oracle: what the layers below give. -/
namespace Go.Proofs.Ytbfelelngoonjaa
open Go.RowKit Go.Shelf
set_option maxRecDepth 100000
set_option linter.unusedVariables false
set_option linter.unusedSimpArgs false
attribute [local go_sem] Oper.semAt_some

/-- A pair's entry. -/
def PoPost (X Y : List Int) (w : World) (r : Ending) (w' : World) : Prop :=
  ∃ e : En, r = .returned (.agg e.arr) ∧ EnOK w'.heap.size w' e ∧ Hid (e.bs = 1 :: (X ++ Y) ∧ e.sm = shl (1 :: (X ++ Y))) ∧ (∀ b off, e.sp = some ⟨b, off, none⟩ → w.heap.size ≤ b) ∧ Below w.heap.size w w'
theorem one_32 {Y : List Int} (hY : Y.length = 32) : ∀ x ∈ [Y], x.length = 32 := by
  intro x hx; simp at hx; subst hx; exact hY
theorem one_bt {Y : List Int} (hY : Bts Y) : ∀ x ∈ [Y], Bts x := by
  intro x hx; simp at hx; subst hx; exact hY
theorem path1 (X Y : List Int) (w : World) (hX : X.length = 32) (hY : Y.length = 32) (bX : Bts X) (bY : Bts Y) (N g c : Nat) (hS : HS N w (some ⟨g, 0, none⟩) 1 c [Y]) :
    Calls Try.prog 69 #[.int .i64 0, .agg (h8 X), .slice (some ⟨g, 0, none⟩) 1 c] w fun r w' => ∃ (e : En) (gp op cp : Nat), r = .returned (.tuple #[.slice (some ⟨gp, op, none⟩) 1 cp, .int .i64 0]) ∧ w'.rangeAt gp op e.cells ∧ EnOK w'.heap.size w' e ∧ Hid (e.bs = 1 :: (X ++ Y) ∧ e.sm = shl (1 :: (X ++ Y))) ∧ (∀ b off, e.sp = some ⟨b, off, none⟩ → w.heap.size ≤ b) ∧ Below w.heap.size w w' := by
  refine (path_any 0 X N _ 1 c [Y] w hX bX hS (one_bt bY)).mono ?_
  rintro r w' ⟨sp, n, cap, es, rfl, hE, hbs, hsm, hfr, -, -, hb⟩
  have hF : FoOK 0 [Y].length := ⟨by simp, by omega, by simp⟩
  have hbs := hbs.out
  rw [if_pos hF] at hbs
  have hp : pth (0 : Int).toNat X [Y] = [1 :: (X ++ Y)] := by simp [pth, pb]
  rw [hp] at hbs
  have hl1 : es.length = 1 := by simpa using congrArg List.length hbs
  obtain ⟨e, rfl⟩ := List.length_eq_one_iff.1 hl1
  have hn : n = 1 := hE.len.out
  subst hn
  obtain ⟨gp, op, rfl, hg, hR⟩ := hE.at0 (by omega)
  have he : e.bs = 1 :: (X ++ Y) := by simpa using hbs
  have hfe : foE 0 [Y] = 0 := by unfold foE; rw [if_pos hF]
  refine ⟨e, gp, op, cap, by rw [hfe], ?_, hE.ok e (by simp), Hid.mk' ⟨he, ?_⟩, hfr e (by simp), hb⟩
  · have := hR 0 e rfl
    simpa using this
  · rw [hsm.out e (by simp), he]
theorem z77 : En.arr ⟨none, 0, 0, [], Z32⟩ = #[.slice none 0 0, .int .u8 0, .int .u8 0, .int .u8 0, .int .u8 0, .int .u8 0, .int .u8 0, .int .u8 0, .int .u8 0, .int .u8 0, .int .u8 0, .int .u8 0, .int .u8 0, .int .u8 0, .int .u8 0, .int .u8 0, .int .u8 0, .int .u8 0, .int .u8 0, .int .u8 0, .int .u8 0, .int .u8 0, .int .u8 0, .int .u8 0, .int .u8 0, .int .u8 0, .int .u8 0, .int .u8 0, .int .u8 0, .int .u8 0, .int .u8 0, .int .u8 0, .int .u8 0] := rfl
set_option maxHeartbeats 1000000 in
theorem pairOf6_any (X Y : List Int) (w : World) (hX : X.length = 32) (hY : Y.length = 32) (bX : Bts X) (bY : Bts Y) : Calls Try.prog 95 #[.agg (h8 X), .agg (h8 Y)] w (PoPost X Y w) := by
  have X0 := ((Arr.new w 32 (h8 X)).alloc (.cells (h8 Y) 32)).alloc (.cells (En.arr ⟨none, 0, 0, [], Z32⟩) 71)
  have Y0 := (show Arr ((w.alloc (.cells (h8 X) 32)).alloc (.cells (h8 Y) 32)) (w.heap.size + 1) 32 (h8 Y) from (by simpa using Arr.new (w.alloc (.cells (h8 X) 32)) 32 (h8 Y))).alloc (.cells (En.arr ⟨none, 0, 0, [], Z32⟩) 71)
  have Z0 := Arr.new3 w (.cells (h8 X) 32) (.cells (h8 Y) 32) 71 (En.arr ⟨none, 0, 0, [], Z32⟩)
  have B0 := ((alloc_bel' w (.cells (h8 X) 32)).alloc (by simp) (.cells (h8 Y) 32)).alloc (by simp; omega) (.cells (En.arr ⟨none, 0, 0, [], Z32⟩) 71)
  have hs0 : (((w.alloc (.cells (h8 X) 32)).alloc (.cells (h8 Y) 32)).alloc (.cells (En.arr ⟨none, 0, 0, [], Z32⟩) 71)).heap.size = w.heap.size + 3 := by simp
  have hzz : (En.arr ⟨none, 0, 0, [], Z32⟩).size = 33 := En.size Z32_len
  go_enter Try.func95, Try.ntmps95
  go_upto_region 1 with fail
  rw [← z77]
  generalize ((w.alloc (.cells (h8 X) 32)).alloc (.cells (h8 Y) 32)).alloc (.cells (En.arr ⟨none, 0, 0, [], Z32⟩) 71) = W at *
  replace hs0 := Hid.mk' hs0
  have hH := hs_lit (Arr.new W 32 (flat32 [Y]).toArray) (one_32 hY) (m := 1) rfl (by omega)
  have e1 : (flat32 [Y]).toArray = h8 Y := by simp [flat32, h8]
  rw [e1] at hH
  have hP := Hid.mk' (path1 X Y _ hX hY bX bY _ _ _ hH)
  go_upto_region 2 with (first
    | (refine ld24 (by rfl) _ (by rfl) w.heap.size 0 (by rfl) X hX X0.range ?_)
    | (refine ld24 (by rfl) _ (by rfl) (w.heap.size + 1) 0 (by rfl) Y hY Y0.range ?_)
    | (refine b1L (by rfl) _ (by rfl) Y (by rfl) hY ?_)
    | (go_at_call 69; go_must (refine hP.out.mono ?_; rintro r w1 ⟨e, gp, op, cp, rfl, hR, hE, he, hfr, hb⟩)))
  have he32 := hE.s32
  have hb' := (alloc_bel' W (.cells (h8 Y) 32)).trans (hb.mono (by simp))
  have Z1 := Z0.below hb' Z0.lt
  have B1 := B0.trans (hb'.mono B0.size)
  have hzs := hs0.out
  have hbs := hb'.size
  go_wp2_with (first
    | (refine ld54 (by rfl) _ (by rfl) gp op (by rfl) e he32 hR ?_)
    | (refine wpList_store_arr (by rfl) 71 (.tmp 4) (.tmp 16) (by rfl) (w.heap.size + 2) e.arr (by rfl) (by rfl) 71 _ Z1 (s54 he32) (by rw [En.size he32]; exact hzz) e.oneA ?_))
  refine bodyPost_ret (v := .agg e.arr) (res54 Try.results95 rfl he32 (Z1.setRow _)) rfl ⟨e, rfl, ⟨?_, he32⟩, he, fun b off q => by have := hfr b off q; simp at this; omega, below_setRow B1 (by omega) _⟩
  refine ⟨hE.body.len, hE.body.nil, hE.body.le, hE.body.big, hE.body.small, fun h0 => ?_, hE.body.bts⟩
  obtain ⟨b, off, q, hbN, hB⟩ := hE.body.at0 h0
  have := hfr b off q
  simp at this
  exact ⟨b, off, q, by simpa using hbN, fun u hu => (World.cell?_of_block (w := w1) (a := ⟨b, off + u, none⟩) (setRow_other w1 (w.heap.size + 2) b _ (by omega))).trans (hB u hu)⟩
/-- A row of sums that is written over. -/
structure LL (W : World) (g : Nat) (F : List (List Int)) : Prop where
  rg : ∀ k X, F[k]? = some X → W.rangeAt g (k * 32) (by8 X)
  th : W.there g 0 (F.length * 32)
  l32 : ∀ X ∈ F, X.length = 32
theorem LL.block {W W' : World} {g : Nat} {F : List (List Int)} (h : LL W g F) (hb : W'.heap[g]? = W.heap[g]?) : LL W' g F :=
  ⟨fun k X hX j v hv => (World.cell?_of_block (w := W) (a := ⟨g, k * 32 + j, none⟩) hb).trans (h.rg k X hX j v hv), fun j hj => ⟨by rw [World.cell?_of_block (w := W) (a := ⟨g, 0 + j, none⟩) hb]; exact (h.th j hj).1, by have h2 := (h.th j hj).2; simp only [World.frozen?] at h2 ⊢; rw [hb]; exact h2⟩, h.l32⟩
theorem LL.arr {W : World} {g : Nat} {F : List (List Int)} (hA : Arr W g 32 (flat32 F).toArray) (h : ∀ X ∈ F, X.length = 32) : LL W g F :=
  ⟨fun k X hX j v hv => by rw [hA.cell]; simpa using flat32_at h hX hv, fun j hj => ⟨by rw [hA.cell, Nat.zero_add, Array.getElem?_eq_getElem (by simp [flat32_len h]; exact hj)]; rfl, hA.frozen _⟩, h⟩
theorem LL.lt {W : World} {g : Nat} {F : List (List Int)} (h : LL W g F) (h0 : 0 < F.length) : g < W.heap.size := by
  have := (h.th 0 (by omega)).1
  obtain ⟨v, hv⟩ := Option.isSome_iff_exists.1 this
  exact block_lt_of_cell hv
theorem LL.at {W : World} {g : Nat} {F : List (List Int)} (h : LL W g F) {i : Nat} (hi : i < F.length) : W.there g (i * 32) 32 := fun j hj => by
  have := h.th (i * 32 + j) (by have : i * 32 + 32 ≤ F.length * 32 := by omega
                                omega)
  rwa [Nat.zero_add] at this
theorem LL.set {W : World} {g : Nat} {F : List (List Int)} (h : LL W g F) {i : Nat} (hi : i < F.length) {X : List Int} (hX : X.length = 32) : LL (W.setCells g (i * 32) (by8 X)) g (F.set i X) := by
  refine ⟨fun k Y hY => ?_, by rw [List.length_set]; exact World.there_setCells h.th g (i * 32) (by8 X), fun Y hY => ?_⟩
  · by_cases hk : k = i
    · subst hk
      rw [List.getElem?_set_self hi] at hY
      cases hY
      exact World.rangeAt_setCells_same W g (k * 32) (by8 X) (by rw [by8_len, hX]; exact h.at hi)
    · rw [List.getElem?_set_ne (Ne.symm hk)] at hY
      refine World.rangeAt_setCells_apart (h.rg k Y hY) g (i * 32) (by8 X) (.inr ?_)
      rw [by8_len, by8_len, hX, h.l32 Y (List.mem_of_getElem? hY)]
      omega
  · rcases List.mem_or_eq_of_mem_set hY with h1 | h1
    · exact h.l32 Y h1
    · rw [h1]; exact hX
theorem upd_set {A F : List (List Int)} {i : Nat} {x : List Int} (hA : A[i]? = some x) (hF : i < F.length) : (A.take i ++ F.drop i).set i x = A.take (i + 1) ++ F.drop (i + 1) := by
  have hi := (List.getElem?_eq_some_iff.1 hA).1
  rw [List.set_append_right _ _ (by simp; omega), List.length_take, Nat.min_eq_left (by omega), Nat.sub_self, List.drop_eq_getElem_cons hF, List.set_cons_zero, List.take_add_one, hA]
  simp
theorem upd_get {A F : List (List Int)} {i k : Nat} (h : i ≤ k) (hA : i ≤ A.length) : (A.take i ++ F.drop i)[k]? = F[k]? := by
  rw [List.getElem?_append_right (by simp; omega), List.length_take, Nat.min_eq_left hA, List.getElem?_drop]
  congr 1; omega
theorem ES.s32'' {N : Nat} {w : World} {sp : Option Addr} {n cap : Nat} {es : List En} {ls : List (List Int)} (h : ES N w sp n cap es) (hl : Hid (es.map En.sm = ls)) : ∀ x ∈ ls, x.length = 32 := by
  intro x hx
  rw [← hl.out] at hx
  obtain ⟨e, he, rfl⟩ := List.mem_map.1 hx
  exact (h.ok e he).s32
theorem q0n {Q : Exit → Act → World → Prop} {a : Act} {w : World} (h : Q .normal a w) : Q0 Q .normal a w := h
/-- 32 noughts. -/
def zl : List (List Int) := List.replicate 32 Z32
theorem mk24w {k : Nat} {ops : Array Oper} {rest : List Oper} {o : Oper} {a : Act} {w : World} {Q : Exit → Act → World → Prop} (hgd : o.guard = none) (x : Operand) (ho : o.op = .makeSlice 90 x x) (hx : a.eval x = .int .i64 32)
    (h : wpListIn Fence.wide k Try.prog ops Q rest (a.put o.dst (.slice (some ⟨w.heap.size, 0, none⟩) 32 32)) (w.alloc (.cells (flat32 zl).toArray 32))) : wpListIn Fence.wide k Try.prog ops Q (o :: rest) a w := by
  obtain ⟨i0, hi0, hz0, hz1, hz2⟩ := info_parts info24
  have hr := run_make (P := Try.prog) w 90 32 i0 (.agg (h8 Z32)) Try.underlying90 hi0 hz0 .i64 .i64 (32 : Nat) (32 : Nat) (by omega) (Int.le_refl _) (by rw [hz2]; omega) (by omega)
  rw [hz1, Int.toNat_natCast, made24] at hr
  refine wpListIn_plain hgd fun _ hK => opInw (by rw [ho]; intro c hc; cases hc) ?_
  unfold Oper.wp execOp
  have hr' : (Instr.makeSlice 90 (.int .i64 32) (.int .i64 32)).run Try.prog w = _ := hr
  simp only [ho, hx, hr', Sem.run_bind, Sem.run_pure, Result.andThen_ok]
  exact hK _ _ h
theorem cp24w {m : Nat} {ops : Array Oper} {rest : List Oper} {o : Oper} {a : Act} {w : World} {Q : Exit → Act → World → Prop} (hgd : o.guard = none) (x y : Operand) (ho : o.op = .call { callee := .builtin .copy, args := #[x, y], argTypes := #[90, 90] })
    (g k N : Nat) (sp : Option Addr) (n cap : Nat) (ls : List (List Int)) (hx : a.eval x = .slice (some ⟨g, 0, none⟩) k k) (hy : a.eval y = .slice sp n cap) (hS : HS N w sp n cap ls) (hA : Arr w g 32 (flat32 (List.replicate k Z32)).toArray) (hn : n ≤ k)
    (h : wpListIn Fence.wide m Try.prog ops Q rest (a.put o.dst (goInt n)) (w.setRow g (flat32 (ls ++ List.replicate (k - n) Z32)).toArray)) : wpListIn Fence.wide m Try.prog ops Q (o :: rest) a w := by
  refine wpListIn_plain hgd fun _ hK => opInw (by rw [ho]; intro c hc; cases hc) ?_
  have hr := run_copy24 w g k N sp n cap ls o.type hS hA hn
  unfold Oper.wp
  simp [execOp, ho, resolve, invoke, builtin, hx, hy, hr, Result.andThen]
  exact hK _ _ h
theorem si24mw {k : Nat} {ops : Array Oper} {rest : List Oper} {o : Oper} {a : Act} {w : World} {Q : Exit → Act → World → Prop} (hgd : o.guard = none) (x y : Operand) (ho : o.op = .store 32 x y)
    (g i : Nat) (F : List (List Int)) (X : List Int) (off : Nat) (hoff : off = i * 32) (hx : a.eval x = .pointer (some ⟨g, off, none⟩)) (hy : a.eval y = .agg (h8 X)) (hX : X.length = 32) (hL : LL w g F) (hi : i < F.length)
    (h : wpListIn Fence.wide k Try.prog ops Q rest (a.put o.dst undef) (w.setCells g (i * 32) (by8 X))) : wpListIn Fence.wide k Try.prog ops Q (o :: rest) a w := by
  subst hoff
  exact wpListIn_plain hgd fun _ hK => opInw (by rw [ho]; intro c hc; cases hc) (wp_store_mid 32 x y ho g (i * 32) (h8 X) hx hy (by rw [h8_size, hX]; exact hL.at hi) (s24h8 hX) (h8_one X) (hK _ _ h))
end Go.Proofs.Ytbfelelngoonjaa
/- Layer oracle: what the layers below give. -/
namespace Go.Proofs.Ytbfelelngoonjaa
open Go.RowKit Go.Shelf
set_option maxRecDepth 100000
set_option linter.unusedVariables false
set_option linter.unusedSimpArgs false
attribute [local go_sem] Oper.semAt_some

theorem Tells.weaken {gf : Nat} {lb : Array Value} {S0 B0 : Nat} {M M' : World → Prop} {T T' : Nat → En → Prop} {n : Nat} (h : Tells gf lb S0 B0 M T n) (hM : ∀ W, M' W → M W) (hT : ∀ j e, T j e → T' j e) : Tells gf lb S0 B0 M' T' n :=
  fun k lp J h1 h2 h3 W own h0 => h k lp J (fun j own W hJ => ⟨hM W (h1 j own W hJ).1, (h1 j own W hJ).2⟩) h2 (fun j own W e hJ hj he ht hq => h3 j own W e hJ hj he (hT j e ht) hq) W own h0
theorem roundIn_any {l n n' lp : Nat} {f : FuncId} {tmps : Array Value} {assign body : Code} {w : World} {R : Ending → World → Prop} (h : RoundIn Fence.wide n Try.prog lp f tmps assign body w R) : RoundIn (Fence.wide.inRound l) n' Try.prog lp f tmps assign body w R :=
  ⟨trivial, fun c cs _ => h.2 c cs (fun d hd => by cases hd)⟩
theorem yield_at1 {l m : Nat} {t : Tmp} {rc : Loop} {W : World} {R : Ending → World → Prop} (x : Value) (hl : W.heap[l]? = some (.loop rc)) (hp : rc.params = #[t])
    (h : rc.assign.wpIn (Fence.wide.inRound l) m Try.prog (Exit.then (fun a₁ w₁ => ∃ w₂, (Instr.beginRound l).run Try.prog w₁ = .ok () w₂ ∧ rc.body.wpIn (Fence.wide.inRound l) m Try.prog (roundPost Try.prog l R) a₁ w₂) (fun _ _ _ => False)) { tmps := rc.tmps.setIfInBounds t x, defers := [] } W) :
    YieldAt Fence.wide m Try.prog l #[x] W R :=
  ⟨_, _, _, _, run_yield hl (by rw [hp]; rfl), roundIn_of_wpIn trivial (by rw [hp]; simpa using h)⟩
theorem wp_range1 {k : Nat} {g : Operand} {ts : Array Tmp} {assign body : Code} {Q : Exit → Act → World → Prop} {a : Act} {W0 : World} (gf : Nat) (lb : Array Value) (hg : a.eval g = .func (.func gf) #[] lb) (eg : ∀ args w, (callFunc gf args).run Try.prog w = .ok (.enter gf args) w)
    (I : World → Prop)
    (hcall : ∀ rc : Loop, rc.state = .ready → rc.pending = none → rc.params = ts → rc.tmps = a.tmps → rc.assign = assign → rc.body = body →
      CallsIn Fence.wide (k - 1) Try.prog gf (#[.func (.yield (W0.heap.size + 1)) #[] #[]] ++ lb) ((W0.alloc (.deferred (some []))).alloc (.loop rc)) fun e W' => (∃ v, e = .returned v) ∧ I W' ∧ W'.heap[W0.heap.size + 1]? = some (.loop rc) ∧ W'.heap[W0.heap.size]? = some (.deferred (some [])))
    (hdone : ∀ W' o, I W' → W'.heap[W0.heap.size]? = some (.deferred (some [])) → Q .normal { a with defers := { target := .collected W0.heap.size, args := #[] } :: a.defers } (W'.putObj (W0.heap.size + 1) o)) :
    (Code.rangeFunc g ts assign body).wpIn Fence.wide k Try.prog Q a W0 := by
  refine wpIn_rangeFunc fun fn hfn => ?_
  have hent := run_enterLoop_outer (P := Try.prog) (w := W0) fn a.tmps ts assign body
  obtain ⟨rc, hrc⟩ : ∃ rc : Loop, rc = { state := .ready, pending := none, fn, tmps := a.tmps, params := ts, assign, body, defers := W0.heap.size } := ⟨_, rfl⟩
  rw [← hrc] at hent
  refine ⟨_, _, _, { target := .fn (.func gf) lb, args := #[.func (.yield (W0.heap.size + 1)) #[] #[]] }, (W0.alloc (.deferred (some []))).alloc (.loop rc), gf, #[.func (.yield (W0.heap.size + 1)) #[] #[]] ++ lb, (W0.alloc (.deferred (some []))).alloc (.loop rc), hent, ?_, fun _ _ => trivial, ?_, fun h => (by cases h), ?_⟩
  · simp only [resolve, hg]
    simp [go_sem]
  · simp [invoke, go_sem, eg]
  · refine (hcall rc (by rw [hrc]) (by rw [hrc]) (by rw [hrc]) (by rw [hrc]) (by rw [hrc]) (by rw [hrc])).mono ?_
    rintro e W2 ⟨⟨v, rfl⟩, hI, hl, hk⟩
    have hend := run_endLoop (P := Try.prog) hl (by rw [hrc]; simp)
    rw [show rc.pending = none by rw [hrc]] at hend
    exact ⟨none, _, hend, hdone W2 _ hI hk⟩
theorem cell_def {W : World} {b o : Nat} {x : Option (List Deferred)} (h : W.heap[b]? = some (.deferred x)) : W.cell? ⟨b, o, none⟩ = none := by simp [World.cell?, h]
theorem cell_loop {W : World} {b o : Nat} {r : Loop} (h : W.heap[b]? = some (.loop r)) : W.cell? ⟨b, o, none⟩ = none := by simp [World.cell?, h]
/-- An entry is as it was where one block that holds no cells has changed. -/
theorem EnOK.put {W W1 w2 : World} {l : Nat} {r : Loop} {e : En} (h : EnOK W.heap.size W e) (hl : W.heap[l]? = some (.loop r)) (hb : ∀ b, b < W.heap.size → b ≠ l → w2.heap[b]? = W.heap[b]?) (hs : W.heap.size ≤ w2.heap.size) : EnOK w2.heap.size w2 e := by
  refine ⟨⟨h.body.len, h.body.nil, h.body.le, h.body.big, h.body.small, fun h0 => ?_, h.body.bts⟩, h.s32⟩
  obtain ⟨b, off, q, hbN, hB⟩ := h.body.at0 h0
  have hne : b ≠ l := fun e' => by
    subst e'
    have := hB 0 h0
    rw [cell_loop hl] at this
    cases this
  exact ⟨b, off, q, by omega, fun u hu => (World.cell?_of_block (w := W) (a := ⟨b, off + u, none⟩) (hb b hbN hne)).trans (hB u hu)⟩
theorem sam_put {S0 g : Nat} {own : Nat → Prop} {W : World} (hg : S0 ≤ g) (ho : ¬ own g) (o : Obj) : Sam S0 own W (W.putObj g o) :=
  ⟨rfl, rfl, rfl, by simp, fun b hb hbo => World.putObj_heap_other (fun e => by subst e; rcases hbo with h | h; omega; exact ho h)⟩
/-- The whole loop over an iterator of entries. -/
theorem range_one {k : Nat} {g : Operand} {t : Tmp} {assign body : Code} {Q : Exit → Act → World → Prop} {a : Act} {W0 : World} (gf : Nat) (lb : Array Value) (D : Nat) (hD : W0.heap.size = D) (hg : a.eval g = .func (.func gf) #[] lb) (eg : ∀ args w, (callFunc gf args).run Try.prog w = .ok (.enter gf args) w)
    (n B0 : Nat) (T : Nat → En → Prop) (M : World → Prop) (ht : Tells gf lb (D + 2) B0 M T n)
    (I : Nat → (Nat → Prop) → World → Prop) (hIM : ∀ j own W, I j own W → M W ∧ ∀ b, own b → b < W.heap.size) (hIB : ∀ j own W W', I j own W → Sam D own W W' → I j own W') (own0 : Nat → Prop) (h0 : I 0 own0 W0)
    (hround : ∀ j own W e, I j own W → j < n → D + 2 ≤ W.heap.size → EnOK W.heap.size W e → T j e → (∀ b, EB e b → b < B0 ∨ ¬ own b) → ∀ m,
      assign.wpIn (Fence.wide.inRound (D + 1)) m Try.prog (Exit.then (fun a1 w1 => Below W.heap.size W w1 ∧ ∀ w2, Below (D + 1) w1 w2 → (∀ b, D + 2 ≤ b → w2.heap[b]? = w1.heap[b]?) → w2.heap.size = w1.heap.size → EnOK w2.heap.size w2 e → I j own w2 →
        body.wpIn (Fence.wide.inRound (D + 1)) m Try.prog (Exit.then (fun a3 w3 => ∃ own', I (j + 1) own' w3 ∧ (∀ b, own' b → own b ∨ W.heap.size ≤ b ∨ EB e b) ∧ w2.heap.size ≤ w3.heap.size ∧ ∀ b, D ≤ b → b < W.heap.size → ¬ own b → w3.heap[b]? = w2.heap[b]?) (fun _ _ _ => False)) a1 w2) (fun _ _ _ => False))
        { tmps := a.tmps.setIfInBounds t (.agg e.arr), defers := [] } W)
    (hdone : ∀ own W' o, I n own W' → (¬ own D ∧ ¬ own (D + 1)) → D + 2 ≤ W'.heap.size → W'.heap[D]? = some (.deferred (some [])) → Q .normal { a with defers := { target := .collected D, args := #[] } :: a.defers } (W'.putObj (D + 1) o)) :
    (Code.rangeFunc g #[t] assign body).wpIn Fence.wide k Try.prog Q a W0 := by
  refine wp_range1 gf lb hg eg (fun W => ∃ own, I n own W ∧ (¬ own D ∧ ¬ own (D + 1)) ∧ D + 2 ≤ W.heap.size) ?_ (fun W' o h1 h2 => by rw [hD] at h2 ⊢; obtain ⟨own, a1, a2, a3⟩ := h1; exact hdone own W' o a1 a2 a3 h2)
  intro rc h1 hpend h2 h3 h4 h5
  rw [hD]
  refine (ht (k - 1) (D + 1) (fun j own W => I j own W ∧ W.heap[D]? = some (.deferred (some [])) ∧ W.heap[D + 1]? = some (.loop rc) ∧ D + 2 ≤ W.heap.size ∧ ¬ own D ∧ ¬ own (D + 1)) ?hJc ?hJB ?hY _ own0 ?h0).mono ?fin
  case hJc => exact fun j own W h => ⟨(hIM j own W h.1).1, h.2.2.2.1, (hIM j own W h.1).2⟩
  case hJB => exact fun j own W W' h hb => ⟨hIB j own W W' h.1 (hb.lift (by omega)), (hb.block D (by have := h.2.2.2.1; omega) (.inl (by omega))).trans h.2.1, (hb.block (D + 1) (by have := h.2.2.2.1; omega) (.inl (by omega))).trans h.2.2.1, Nat.le_trans h.2.2.2.1 hb.size, h.2.2.2.2⟩
  case fin =>
    rintro e W' ⟨hv, own, hI, hdf, hlp, hsz, ho⟩
    exact ⟨hv, ⟨own, hI, ho, hsz⟩, hlp, hdf⟩
  case h0 =>
    have hb : Below W0.heap.size W0 ((W0.alloc (.deferred (some []))).alloc (.loop rc)) := (alloc_bel' W0 _).alloc (by simp) _
    have ho := (hIM 0 own0 W0 h0).2
    refine ⟨hIB 0 own0 W0 _ h0 (Sam.of hb), ?_, ?_, by simp; omega, fun h => by have := ho _ h; omega, fun h => by have := ho _ h; omega⟩
    · rw [Below.heap_alloc _ _ _ (by simp; omega), ← hD]; exact heap_alloc_new W0 _
    · have := heap_alloc_new (W0.alloc (.deferred (some []))) (.loop rc)
      rwa [World.size_alloc, hD] at this
  case hY =>
    rintro j own W e ⟨hI, hdf, hlp, hsz, ho1, ho2⟩ hj heo hte hqe
    refine yield_at1 _ hlp h2 ?_
    rw [h3, h4, h5]
    refine wpIn_mono (hround j own W e hI hj hsz heo hte hqe _) ?_
    intro q a1 w1 hq
    cases q with
    | normal =>
      obtain ⟨hb1, hbody⟩ := hq
      have hl1 : w1.heap[D + 1]? = some (.loop rc) := (hb1.block _ (by omega)).trans hlp
      have hs1 := hb1.size
      refine ⟨_, run_beginRound hl1 h1, ?_⟩
      have hs2 : (w1.putObj (D + 1) (.loop { rc with state := .busy })).heap.size = w1.heap.size := by simp
      refine wpIn_mono (hbody _ (below_put (Below.refl _ _) (Nat.le_refl _) _) (fun b hb => World.putObj_heap_other (by omega)) hs2 (heo.put (W1 := W) hlp (fun b hb hne => (World.putObj_heap_other hne).trans (hb1.block b hb)) (by omega)) (hIB j own W _ hI ((Sam.of hb1).trans (sam_put (by omega) ho2 _)))) ?_
      intro q a3 w3 hq3
      cases q with
      | normal =>
        obtain ⟨own', hI3, hown', hs3, hk3⟩ := hq3
        rw [hs2] at hs3
        have no1 : ¬ own' D := fun h => by rcases hown' _ h with h | h | h; exact ho1 h; omega; obtain ⟨off, x, hc⟩ := h.cell heo; rw [cell_def hdf] at hc; cases hc
        have no2 : ¬ own' (D + 1) := fun h => by rcases hown' _ h with h | h | h; exact ho2 h; omega; obtain ⟨off, x, hc⟩ := h.cell heo; rw [cell_loop hlp] at hc; cases hc
        have l3 : w3.heap[D + 1]? = some (.loop { rc with state := .busy }) := (hk3 _ (by omega) (by omega) ho2).trans (World.putObj_heap_same (by omega))
        refine ⟨_, _, run_endRound none l3, rfl, own', ⟨?_, ?_, ?_, ?_, no1, no2⟩, hown', ?_⟩
        · exact hIB (j + 1) own' w3 _ hI3 (sam_put (by omega) no2 _)
        · rw [World.putObj_heap_other (by omega), hk3 D (Nat.le_refl _) (by omega) ho1, World.putObj_heap_other (by omega)]
          exact (hb1.block D (by omega)).trans hdf
        · rw [World.putObj_heap_same (by omega)]
          obtain ⟨st, pe, fn', tm, ps, asg, bd, df⟩ := rc
          cases h1; cases hpend
          rfl
        · simp; omega
        · intro b hb1' hb2 hb3
          rw [World.putObj_heap_other (by omega), hk3 b (by omega) (by omega) hb3, World.putObj_heap_other (by omega)]
          exact hb1.block b hb2
      | _ => exact hq3.elim
    | _ => exact hq.elim
end Go.Proofs.Ytbfelelngoonjaa
