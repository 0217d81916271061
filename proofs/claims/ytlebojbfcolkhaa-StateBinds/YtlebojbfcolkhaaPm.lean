/- Layer state: what is told of a tree's pairs. -/
import Derived.Test.YtlebojbfcolkhaaPl
import Derived.Test.YtlebojbfcolkhaaA18
namespace Go.Proofs.Ytlebojbfcolkhaa
open Go.RowKit Go.Shelf
set_option maxRecDepth 100000
set_option linter.unusedVariables false
set_option linter.unusedSimpArgs false

attribute [local go_sem] Oper.semAt_some
/-- A pair's entry. -/
def PoPost (X Y : List Int) (w : World) (r : Ending) (w' : World) : Prop :=
  ∃ e : En, r = .returned (.agg e.arr) ∧ EnOK w'.heap.size w' e ∧ Hid (e.bs = 1 :: (X ++ Y) ∧ e.sm = shl (1 :: (X ++ Y))) ∧ (∀ b off, e.sp = some ⟨b, off, none⟩ → w.heap.size ≤ b) ∧ Below w.heap.size w w'
theorem one_32 {Y : List Int} (hY : Y.length = 32) : ∀ x ∈ [Y], x.length = 32 := by
  intro x hx; simp at hx; subst hx; exact hY
theorem one_bt {Y : List Int} (hY : Bts Y) : ∀ x ∈ [Y], Bts x := by
  intro x hx; simp at hx; subst hx; exact hY
theorem path1 (X Y : List Int) (w : World) (hX : X.length = 32) (hY : Y.length = 32) (bX : Bts X) (bY : Bts Y) (N g c : Nat) (hS : HS N w (some ⟨g, 0, none⟩) 1 c [Y]) :
    Calls Try.prog 81 #[.int .i64 0, .agg (h8 X), .slice (some ⟨g, 0, none⟩) 1 c] w fun r w' => ∃ (e : En) (gp op cp : Nat), r = .returned (.tuple #[.slice (some ⟨gp, op, none⟩) 1 cp, .int .i64 0]) ∧ w'.rangeAt gp op e.cells ∧ EnOK w'.heap.size w' e ∧ Hid (e.bs = 1 :: (X ++ Y) ∧ e.sm = shl (1 :: (X ++ Y))) ∧ (∀ b off, e.sp = some ⟨b, off, none⟩ → w.heap.size ≤ b) ∧ Below w.heap.size w w' := by
  refine (path_any 0 X N _ 1 c [Y] w hX bX hS (one_bt bY)).mono ?_
  rintro r w' ⟨sp, n, cap, es, rfl, hE, hbs, hsm, hfr, -, -, hb⟩
  have hF : FoOK 0 [Y].length := ⟨by simp, by omega, by simp⟩
  have hbs := hbs.out
  rw [if_pos hF] at hbs
  have hp : pth (0 : Int).toNat X [Y] = [1 :: (X ++ Y)] := by simp [pth, pb]
  rw [hp] at hbs
  have hl1 : es.length = 1 := by simpa using congrArg List.length hbs
  obtain ⟨e, rfl⟩ := List.length_eq_one_iff.1 hl1
  have hn : n = 1 := hE.len.out
  subst hn
  obtain ⟨gp, op, rfl, hg, hR⟩ := hE.at0 (by omega)
  have he : e.bs = 1 :: (X ++ Y) := by simpa using hbs
  have hfe : foE 0 [Y] = 0 := by unfold foE; rw [if_pos hF]
  refine ⟨e, gp, op, cap, by rw [hfe], ?_, hE.ok e (by simp), Hid.mk' ⟨he, ?_⟩, hfr e (by simp), hb⟩
  · have := hR 0 e rfl
    simpa using this
  · rw [hsm.out e (by simp), he]
theorem z77 : En.arr ⟨none, 0, 0, [], Z32⟩ = #[.slice none 0 0, .int .u8 0, .int .u8 0, .int .u8 0, .int .u8 0, .int .u8 0, .int .u8 0, .int .u8 0, .int .u8 0, .int .u8 0, .int .u8 0, .int .u8 0, .int .u8 0, .int .u8 0, .int .u8 0, .int .u8 0, .int .u8 0, .int .u8 0, .int .u8 0, .int .u8 0, .int .u8 0, .int .u8 0, .int .u8 0, .int .u8 0, .int .u8 0, .int .u8 0, .int .u8 0, .int .u8 0, .int .u8 0, .int .u8 0, .int .u8 0, .int .u8 0, .int .u8 0] := rfl
set_option maxHeartbeats 1000000 in
theorem pairOf6_any (X Y : List Int) (w : World) (hX : X.length = 32) (hY : Y.length = 32) (bX : Bts X) (bY : Bts Y) : Calls Try.prog 103 #[.agg (h8 X), .agg (h8 Y)] w (PoPost X Y w) := by
  have X0 := ((Arr.new w 24 (h8 X)).alloc (.cells (h8 Y) 24)).alloc (.cells (En.arr ⟨none, 0, 0, [], Z32⟩) 77)
  have Y0 := (show Arr ((w.alloc (.cells (h8 X) 24)).alloc (.cells (h8 Y) 24)) (w.heap.size + 1) 24 (h8 Y) from (by simpa using Arr.new (w.alloc (.cells (h8 X) 24)) 24 (h8 Y))).alloc (.cells (En.arr ⟨none, 0, 0, [], Z32⟩) 77)
  have Z0 := Arr.new3 w (.cells (h8 X) 24) (.cells (h8 Y) 24) 77 (En.arr ⟨none, 0, 0, [], Z32⟩)
  have B0 := ((alloc_bel' w (.cells (h8 X) 24)).alloc (by simp) (.cells (h8 Y) 24)).alloc (by simp; omega) (.cells (En.arr ⟨none, 0, 0, [], Z32⟩) 77)
  have hs0 : (((w.alloc (.cells (h8 X) 24)).alloc (.cells (h8 Y) 24)).alloc (.cells (En.arr ⟨none, 0, 0, [], Z32⟩) 77)).heap.size = w.heap.size + 3 := by simp
  have hzz : (En.arr ⟨none, 0, 0, [], Z32⟩).size = 33 := En.size Z32_len
  go_enter Try.func103, Try.ntmps103
  go_upto_region 1 with fail
  rw [← z77]
  generalize ((w.alloc (.cells (h8 X) 24)).alloc (.cells (h8 Y) 24)).alloc (.cells (En.arr ⟨none, 0, 0, [], Z32⟩) 77) = W at *
  replace hs0 := Hid.mk' hs0
  have hH := hs_lit (Arr.new W 24 (flat32 [Y]).toArray) (one_32 hY) (m := 1) rfl (by omega)
  have e1 : (flat32 [Y]).toArray = h8 Y := by simp [flat32, h8]
  rw [e1] at hH
  have hP := Hid.mk' (path1 X Y _ hX hY bX bY _ _ _ hH)
  go_upto_region 2 with (first
    | (refine ld24 (by rfl) _ (by rfl) w.heap.size 0 (by rfl) X hX X0.range ?_)
    | (refine ld24 (by rfl) _ (by rfl) (w.heap.size + 1) 0 (by rfl) Y hY Y0.range ?_)
    | (refine b1L (by rfl) _ (by rfl) Y (by rfl) hY ?_)
    | (go_at_call 81; go_must (refine hP.out.mono ?_; rintro r w1 ⟨e, gp, op, cp, rfl, hR, hE, he, hfr, hb⟩)))
  have he32 := hE.s32
  have hb' := (alloc_bel' W (.cells (h8 Y) 24)).trans (hb.mono (by simp))
  have Z1 := Z0.below hb' Z0.lt
  have B1 := B0.trans (hb'.mono B0.size)
  have hzs := hs0.out
  have hbs := hb'.size
  go_wp2_with (first
    | (refine ld54 (by rfl) _ (by rfl) gp op (by rfl) e he32 hR ?_)
    | (refine wpList_store_arr (by rfl) 77 (.tmp 4) (.tmp 16) (by rfl) (w.heap.size + 2) e.arr (by rfl) (by rfl) 77 _ Z1 (s54 he32) (by rw [En.size he32]; exact hzz) e.oneA ?_))
  refine bodyPost_ret (v := .agg e.arr) (res54 Try.results103 rfl he32 (Z1.setRow _)) rfl ⟨e, rfl, ⟨?_, he32⟩, he, fun b off q => by have := hfr b off q; simp at this; omega, below_setRow B1 (by omega) _⟩
  refine ⟨hE.body.len, hE.body.nil, hE.body.le, hE.body.big, hE.body.small, fun h0 => ?_, hE.body.bts⟩
  obtain ⟨b, off, q, hbN, hB⟩ := hE.body.at0 h0
  have := hfr b off q
  simp at this
  exact ⟨b, off, q, by simpa using hbN, fun u hu => (World.cell?_of_block (w := w1) (a := ⟨b, off + u, none⟩) (setRow_other w1 (w.heap.size + 2) b _ (by omega))).trans (hB u hu)⟩

/-- A row of sums that is written over. -/
structure LL (W : World) (g : Nat) (F : List (List Int)) : Prop where
  rg : ∀ k X, F[k]? = some X → W.rangeAt g (k * 32) (by8 X)
  th : W.there g 0 (F.length * 32)
  l32 : ∀ X ∈ F, X.length = 32
theorem LL.block {W W' : World} {g : Nat} {F : List (List Int)} (h : LL W g F) (hb : W'.heap[g]? = W.heap[g]?) : LL W' g F :=
  ⟨fun k X hX j v hv => (World.cell?_of_block (w := W) (a := ⟨g, k * 32 + j, none⟩) hb).trans (h.rg k X hX j v hv), fun j hj => ⟨by rw [World.cell?_of_block (w := W) (a := ⟨g, 0 + j, none⟩) hb]; exact (h.th j hj).1, by have h2 := (h.th j hj).2; simp only [World.frozen?] at h2 ⊢; rw [hb]; exact h2⟩, h.l32⟩
theorem LL.arr {W : World} {g : Nat} {F : List (List Int)} (hA : Arr W g 24 (flat32 F).toArray) (h : ∀ X ∈ F, X.length = 32) : LL W g F :=
  ⟨fun k X hX j v hv => by rw [hA.cell]; simpa using flat32_at h hX hv, fun j hj => ⟨by rw [hA.cell, Nat.zero_add, Array.getElem?_eq_getElem (by simp [flat32_len h]; exact hj)]; rfl, hA.frozen _⟩, h⟩
theorem LL.lt {W : World} {g : Nat} {F : List (List Int)} (h : LL W g F) (h0 : 0 < F.length) : g < W.heap.size := by
  have := (h.th 0 (by omega)).1
  obtain ⟨v, hv⟩ := Option.isSome_iff_exists.1 this
  exact block_lt_of_cell hv
theorem LL.at {W : World} {g : Nat} {F : List (List Int)} (h : LL W g F) {i : Nat} (hi : i < F.length) : W.there g (i * 32) 32 := fun j hj => by
  have := h.th (i * 32 + j) (by have : i * 32 + 32 ≤ F.length * 32 := by omega
                                omega)
  rwa [Nat.zero_add] at this
theorem LL.set {W : World} {g : Nat} {F : List (List Int)} (h : LL W g F) {i : Nat} (hi : i < F.length) {X : List Int} (hX : X.length = 32) : LL (W.setCells g (i * 32) (by8 X)) g (F.set i X) := by
  refine ⟨fun k Y hY => ?_, by rw [List.length_set]; exact World.there_setCells h.th g (i * 32) (by8 X), fun Y hY => ?_⟩
  · by_cases hk : k = i
    · subst hk
      rw [List.getElem?_set_self hi] at hY
      cases hY
      exact World.rangeAt_setCells_same W g (k * 32) (by8 X) (by rw [by8_len, hX]; exact h.at hi)
    · rw [List.getElem?_set_ne (Ne.symm hk)] at hY
      refine World.rangeAt_setCells_apart (h.rg k Y hY) g (i * 32) (by8 X) (.inr ?_)
      rw [by8_len, by8_len, hX, h.l32 Y (List.mem_of_getElem? hY)]
      omega
  · rcases List.mem_or_eq_of_mem_set hY with h1 | h1
    · exact h.l32 Y h1
    · rw [h1]; exact hX
theorem upd_set {A F : List (List Int)} {i : Nat} {x : List Int} (hA : A[i]? = some x) (hF : i < F.length) : (A.take i ++ F.drop i).set i x = A.take (i + 1) ++ F.drop (i + 1) := by
  have hi := (List.getElem?_eq_some_iff.1 hA).1
  rw [List.set_append_right _ _ (by simp; omega), List.length_take, Nat.min_eq_left (by omega), Nat.sub_self, List.drop_eq_getElem_cons hF, List.set_cons_zero, List.take_add_one, hA]
  simp
theorem upd_get {A F : List (List Int)} {i k : Nat} (h : i ≤ k) (hA : i ≤ A.length) : (A.take i ++ F.drop i)[k]? = F[k]? := by
  rw [List.getElem?_append_right (by simp; omega), List.length_take, Nat.min_eq_left hA, List.getElem?_drop]
  congr 1; omega
theorem ES.s32'' {N : Nat} {w : World} {sp : Option Addr} {n cap : Nat} {es : List En} {ls : List (List Int)} (h : ES N w sp n cap es) (hl : Hid (es.map En.sm = ls)) : ∀ x ∈ ls, x.length = 32 := by
  intro x hx
  rw [← hl.out] at hx
  obtain ⟨e, he, rfl⟩ := List.mem_map.1 hx
  exact (h.ok e he).s32
theorem q0n {Q : Exit → Act → World → Prop} {a : Act} {w : World} (h : Q .normal a w) : Q0 Q .normal a w := h
/-- 32 noughts. -/
def zl : List (List Int) := List.replicate 32 Z32
theorem mk24w {k : Nat} {ops : Array Oper} {rest : List Oper} {o : Oper} {a : Act} {w : World} {Q : Exit → Act → World → Prop} (hgd : o.guard = none) (x : Operand) (ho : o.op = .makeSlice 42 x x) (hx : a.eval x = .int .i64 32)
    (h : wpListIn Fence.wide k Try.prog ops Q rest (a.put o.dst (.slice (some ⟨w.heap.size, 0, none⟩) 32 32)) (w.alloc (.cells (flat32 zl).toArray 24))) : wpListIn Fence.wide k Try.prog ops Q (o :: rest) a w := by
  obtain ⟨i0, hi0, hz0, hz1, hz2⟩ := info_parts info24
  have hr := run_make (P := Try.prog) w 42 24 i0 (.agg (h8 Z32)) Try.underlying42 hi0 hz0 .i64 .i64 (32 : Nat) (32 : Nat) (by omega) (Int.le_refl _) (by rw [hz2]; omega) (by omega)
  rw [hz1, Int.toNat_natCast, made24] at hr
  refine wpListIn_plain hgd fun _ hK => opInw (by rw [ho]; intro c hc; cases hc) ?_
  unfold Oper.wp execOp
  have hr' : (Instr.makeSlice 42 (.int .i64 32) (.int .i64 32)).run Try.prog w = _ := hr
  simp only [ho, hx, hr', Sem.run_bind, Sem.run_pure, Result.andThen_ok]
  exact hK _ _ h
theorem cp24w {m : Nat} {ops : Array Oper} {rest : List Oper} {o : Oper} {a : Act} {w : World} {Q : Exit → Act → World → Prop} (hgd : o.guard = none) (x y : Operand) (ho : o.op = .call { callee := .builtin .copy, args := #[x, y], argTypes := #[42, 42] })
    (g k N : Nat) (sp : Option Addr) (n cap : Nat) (ls : List (List Int)) (hx : a.eval x = .slice (some ⟨g, 0, none⟩) k k) (hy : a.eval y = .slice sp n cap) (hS : HS N w sp n cap ls) (hA : Arr w g 24 (flat32 (List.replicate k Z32)).toArray) (hn : n ≤ k)
    (h : wpListIn Fence.wide m Try.prog ops Q rest (a.put o.dst (goInt n)) (w.setRow g (flat32 (ls ++ List.replicate (k - n) Z32)).toArray)) : wpListIn Fence.wide m Try.prog ops Q (o :: rest) a w := by
  refine wpListIn_plain hgd fun _ hK => opInw (by rw [ho]; intro c hc; cases hc) ?_
  have hr := run_copy24 w g k N sp n cap ls o.type hS hA hn
  unfold Oper.wp
  simp [execOp, ho, resolve, invoke, builtin, hx, hy, hr, Result.andThen]
  exact hK _ _ h
theorem si24mw {k : Nat} {ops : Array Oper} {rest : List Oper} {o : Oper} {a : Act} {w : World} {Q : Exit → Act → World → Prop} (hgd : o.guard = none) (x y : Operand) (ho : o.op = .store 24 x y)
    (g i : Nat) (F : List (List Int)) (X : List Int) (off : Nat) (hoff : off = i * 32) (hx : a.eval x = .pointer (some ⟨g, off, none⟩)) (hy : a.eval y = .agg (h8 X)) (hX : X.length = 32) (hL : LL w g F) (hi : i < F.length)
    (h : wpListIn Fence.wide k Try.prog ops Q rest (a.put o.dst undef) (w.setCells g (i * 32) (by8 X))) : wpListIn Fence.wide k Try.prog ops Q (o :: rest) a w := by
  subst hoff
  exact wpListIn_plain hgd fun _ hK => opInw (by rw [ho]; intro c hc; cases hc) (wp_store_mid 24 x y ho g (i * 32) (h8 X) hx hy (by rw [h8_size, hX]; exact hL.at hi) (s24h8 hX) (h8_one X) (hK _ _ h))
end Go.Proofs.Ytlebojbfcolkhaa
