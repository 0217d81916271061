/- So, Sp, Sq, Sr. -/
import Derived.Test.YtlebojbfcolkhaaPm
import Derived.Test.YtlebojbfcolkhaaA28
import Derived.Test.YtlebojbfcolkhaaQi
import Derived.Test.YtlebojbfcolkhaaPn
import Derived.Test.YtlebojbfcolkhaaA20
import Derived.Test.YtlebojbfcolkhaaA18
import Derived.Test.YtlebojbfcolkhaaA06
import Derived.Test.YtlebojbfcolkhaaA17
/- Layer state, the document's answer: entry. -/
namespace Go.Proofs.Ytlebojbfcolkhaa
set_option linter.unusedSectionVars false
set_option maxHeartbeats 1000000
open Go.RowKit
set_option maxRecDepth 100000
set_option linter.unusedVariables false
set_option linter.unusedSimpArgs false

variable [DecidableEq Ac] [DecidableEq Ou]
theorem refPair_s (X Y : List Int) (w : World) (hX : X.length = 32) (hY : Y.length = 32) :
    Calls Try.prog 38 #[.agg (h8 X), .agg (h8 Y)] w fun e w' => e = .returned (.agg (h8 (shl (1 :: (X ++ Y))))) ∧ Below w.heap.size w w' := by
  have h := refPair_any X Y w hX hY
  rw [sha_h8] at h
  exact h
theorem bs_row {N : Nat} {w : World} {sp : Option Addr} {n cap g : Nat} {L : List Int} (h : BS N w sp n cap L) {D : Array Value} (hne : ∀ b off, sp = some ⟨b, off, none⟩ → b ≠ g) : BS N (w.setRow g D) sp n cap L := by
  refine ⟨h.len, h.nil, h.le, h.big, h.small, fun h0 => ?_, h.bts⟩
  obtain ⟨b, off, q, hbN, hB⟩ := h.at0 h0
  exact ⟨b, off, q, hbN, fun u hu => (World.cell?_of_block (w := w) (a := ⟨b, off + u, none⟩) (setRow_other w g b _ (hne b off q))).trans (hB u hu)⟩
set_option maxHeartbeats 4000000 in
theorem entry_any (X Y : List Int) (w : World) (hX : X.length = 32) (hY : Y.length = 32) (bX : Bts X) (bY : Bts Y) : Calls Try.prog 63 #[.agg (h8 X), .agg (h8 Y)] w (PoPost X Y w) := by
  have X0 := ((Arr.new w 24 (h8 X)).alloc (.cells (h8 Y) 24)).alloc (.cells (En.arr ⟨none, 0, 0, [], Z32⟩) 77)
  have Y0 := (show Arr ((w.alloc (.cells (h8 X) 24)).alloc (.cells (h8 Y) 24)) (w.heap.size + 1) 24 (h8 Y) from (by simpa using Arr.new (w.alloc (.cells (h8 X) 24)) 24 (h8 Y))).alloc (.cells (En.arr ⟨none, 0, 0, [], Z32⟩) 77)
  have V0 := Arr.new3 w (.cells (h8 X) 24) (.cells (h8 Y) 24) 77 (En.arr ⟨none, 0, 0, [], Z32⟩)
  have B0 := ((alloc_bel' w (.cells (h8 X) 24)).alloc (by simp) (.cells (h8 Y) 24)).alloc (by simp; omega) (.cells (En.arr ⟨none, 0, 0, [], Z32⟩) 77)
  have hzz : (En.arr ⟨none, 0, 0, [], Z32⟩).size = 33 := En.size Z32_len
  have hPr := Hid.mk' (fun u => refPair_s X Y u hX hY)
  obtain ⟨L, hLe⟩ : ∃ L, L = 1 :: (X ++ Y) := ⟨_, rfl⟩
  have hLb : Bts L := by rw [hLe]; exact Bts.one (bX.app bY)
  have hL : Hid ([1] ++ X ++ Y = L) := Hid.mk' (by rw [hLe]; simp)
  obtain ⟨Sm, hSe⟩ : ∃ S, S = shl L := ⟨_, rfl⟩
  have hS32 : Sm.length = 32 := by rw [hSe]; exact shl_len _
  rw [← hLe, ← hSe] at hPr
  have hfin := Hid.mk' (fun (uf : World) sp9 cp9 (hb : BS uf.heap.size uf sp9 65 cp9 L) (hg : ∀ b off, sp9 = some ⟨b, off, none⟩ → w.heap.size + 3 ≤ b) (hB : Below w.heap.size w uf) => show PoPost X Y w (.returned (.agg (En.arr ⟨sp9, 65, cp9, L, Sm⟩))) uf from
    ⟨⟨sp9, 65, cp9, L, Sm⟩, rfl, ⟨hb, hS32⟩, Hid.mk' ⟨hLe, by rw [← hLe]; exact hSe⟩, fun b off e => by have := hg b off e; omega, hB⟩)
  clear hLe hSe
  go_enter Try.func63, Try.ntmps63
  go_upto_region 1 with fail
  rw [← z77]
  replace B0 := B0.drew
  replace X0 := X0.drew
  replace Y0 := Y0.drew
  replace V0 := V0.drew
  obtain ⟨u0, hu0⟩ : ∃ u : World, u = (((w.alloc (.cells (h8 X) 24)).alloc (.cells (h8 Y) 24)).alloc (.cells (En.arr ⟨none, 0, 0, [], Z32⟩) 77)).drew := ⟨_, rfl⟩
  rw [← hu0] at B0 X0 Y0 V0
  have hsz0 := V0.lt
  refine wp_region_held_drew (S := fun u => Below w.heap.size w u ∧ Arr u w.heap.size 24 (h8 X) ∧ Arr u (w.heap.size + 1) 24 (h8 Y)) (by kernel_rfl) (by rw [← hu0]; exact ⟨B0, X0, Y0⟩) (fun hHeld => ?_)
  rw [← hu0]
  rw [← hu0] at hHeld
  clear hu0
  refine wpAnyH_take (i := 1) (oi := ⟨_, _, _, _, _, _⟩) (v := ?_) rfl (by kernel_rfl) (by kernel_rfl) (by kernel_rfl) (fun _ _ _ h => h) (Or.inl ⟨by rfl, ?_⟩) (by assumption) ?_
  rotate_left
  · intro u hSw
    go_simp
    try (with_reducible rfl)
  try simp only [Act.put, List.setIfInBounds_toArray, List.set_cons_zero, List.set_cons_succ]
  refine wpAnyH_take (i := 3) (oi := ⟨_, _, _, _, _, _⟩) (v := ?_) rfl (by kernel_rfl) (by kernel_rfl) (by kernel_rfl) (fun _ _ _ h => h) (Or.inl ⟨by rfl, ?_⟩) (by assumption) ?_
  rotate_left
  · intro u hSw
    go_simp
    try (with_reducible rfl)
  try simp only [Act.put, List.setIfInBounds_toArray, List.set_cons_zero, List.set_cons_succ]
  refine wpAnyH_take (i := 5) (oi := ⟨_, _, _, _, _, _⟩) rfl (by kernel_rfl) (by kernel_rfl) (by kernel_rfl) (fun _ _ _ h => h) (y24c (by rfl) (.tmp 2) rfl w.heap.size 0 rfl X hX (fun u hu => hu.2.1.range)) (by assumption) ?_
  try simp only [Act.put, List.setIfInBounds_toArray, List.set_cons_zero, List.set_cons_succ]
  refine wpAnyH_take (i := 6) (oi := ⟨_, _, _, _, _, _⟩) rfl (by kernel_rfl) (by kernel_rfl) (by kernel_rfl) (fun _ _ _ h => h) (y24c (by rfl) (.tmp 3) rfl (w.heap.size + 1) 0 rfl Y hY (fun u hu => hu.2.2.range)) (by assumption) ?_
  try simp only [Act.put, List.setIfInBounds_toArray, List.set_cons_zero, List.set_cons_succ]

  refine wpAnyH_ready (rs := [0]) (by kernel_rfl) (by simp) ?_
  refine AllReadyH.cons (o := ⟨_, _, _, _, _, _⟩) rfl (fun K hK => ?_) AllReadyH.nil
  have hb1 := alloc_bel' u0 (.cells #[.int .u8 1] 5)
  have B1 := B0.trans (hb1.mono B0.size)
  have X1 := X0.below hb1 X0.lt
  have Y1 := Y0.below hb1 Y0.lt
  have V1 := V0.below hb1 V0.lt
  have hsz1 := V1.lt
  have ow1 : (u0.alloc (.cells #[.int .u8 1] 5)).ownsRow (w.heap.size + 3) 5 1 (.slice (some ⟨u0.heap.size, 0, none⟩) 1 1) 1 (by8 [1]) := World.ownsRow_lit _ _ _ (by have := V0.lt; omega) (by unfold maxLen; omega) rfl
  go_simp
  go_wp2_with fail
  refine hK.out _ _ ⟨B1, X1, Y1⟩ (fun hHeld => ?_)
  clear hK K
  try simp only [Act.put, List.setIfInBounds_toArray, List.set_cons_zero, List.set_cons_succ]
  obtain ⟨u1, huq⟩ : ∃ u, u = u0.alloc (.cells #[.int .u8 1] 5) := ⟨_, rfl⟩
  rw [← huq] at B1 X1 Y1 V1 ow1 hsz1 hHeld ⊢
  clear huq hb1
  refine wpAnyH_ready (rs := [2]) (by kernel_rfl) (by simp) ?_
  refine AllReadyH.cons (o := ⟨_, _, _, _, _, _⟩) rfl (fun K hK => ?_) AllReadyH.nil
  refine step_append_bytes rfl (.tmp 5) (.tmp 6) rfl (w.heap.size + 3) _ 1 [1] rfl ow1 (some ⟨w.heap.size, 0, none⟩) 32 32 X rfl hX.symm (fun h => by cases h) (Arr.sl X1) (by omega) (by omega) (fun v2 u2 ow2 hg2 => ?_)
  have B2 := B1.grown hg2 (by have := B1.size; omega) (fun k e => by have := own_ge ow1 k e; omega)
  have X2 := X1.grown hg2 (fun e => by have := own_ge ow1 _ e.symm; omega)
  have Y2 := Y1.grown hg2 (fun e => by have := own_ge ow1 _ e.symm; omega)
  have V2 := V1.grown hg2 (fun e => by have := own_ge ow1 _ e.symm; omega)
  have hsz2 := V2.lt
  refine hK.out _ _ ⟨B2, X2, Y2⟩ (fun hHeld => ?_)
  clear hK K
  try simp only [Act.put, List.setIfInBounds_toArray, List.set_cons_zero, List.set_cons_succ]
  refine wpAnyH_ready (rs := [4]) (by kernel_rfl) (by simp) ?_
  refine AllReadyH.cons (o := ⟨_, _, _, _, _, _⟩) rfl (fun K hK => ?_) AllReadyH.nil
  refine step_append_bytes rfl (.tmp 7) (.tmp 8) rfl (w.heap.size + 3) _ 33 ([1] ++ X) rfl ow2 (some ⟨(w.heap.size + 1), 0, none⟩) 32 32 Y rfl hY.symm (fun h => by cases h) (Arr.sl Y2) (by omega) (by omega) (fun v3 u3 ow3 hg3 => ?_)
  have B3 := B2.grown hg3 (by have := B2.size; omega) (fun k e => by have := own_ge ow2 k e; omega)
  have X3 := X2.grown hg3 (fun e => by have := own_ge ow2 _ e.symm; omega)
  have Y3 := Y2.grown hg3 (fun e => by have := own_ge ow2 _ e.symm; omega)
  have V3 := V2.grown hg3 (fun e => by have := own_ge ow2 _ e.symm; omega)
  have hsz3 := V3.lt
  refine hK.out _ _ ⟨B3, X3, Y3⟩ (fun hHeld => ?_)
  clear hK K
  try simp only [Act.put, List.setIfInBounds_toArray, List.set_cons_zero, List.set_cons_succ]
  rw [hL.out] at ow3
  refine wpAnyH_ready (rs := [7]) (by kernel_rfl) (by simp) ?_
  refine AllReadyH.cons (o := ⟨_, _, _, _, _, _⟩) rfl (fun K hK => ?_) AllReadyH.nil
  go_simp
  refine (hPr.out u3).mono ?_; rintro e u4 ⟨rfl, hb4⟩
  have B4 := B3.trans (hb4.mono B3.size)
  have X4 := X3.below hb4 X3.lt
  have Y4 := Y3.below hb4 Y3.lt
  have V4 := V3.below hb4 V3.lt
  have hsz4 := V4.lt
  have ow4 := own_same ow3 (fun k hk => hb4.block k (ow3.lt k hk).2)
  go_wp2_with fail
  refine hK.out _ _ ⟨B4, X4, Y4⟩ (fun hHeld => ?_)
  clear hK K
  try simp only [Act.put, List.setIfInBounds_toArray, List.set_cons_zero, List.set_cons_succ]
  obtain ⟨sp9, cp9, rfl, hb9, hg9⟩ := own_bs ow4 hLb (by omega)
  refine wpAnyH_ready (rs := [8]) (by kernel_rfl) (by simp) ?_
  refine AllReadyH.cons (o := ⟨_, _, _, _, _, _⟩) rfl (fun K hK => ?_) AllReadyH.nil
  refine step_want rfl (wp_bdT 77 _ rfl rfl (built54 sp9 65 cp9 Sm hS32 L) ?_)
  refine hK.out _ _ ⟨B4, X4, Y4⟩ (fun hHeld => ?_)
  clear hK K
  try simp only [Act.put, List.setIfInBounds_toArray, List.set_cons_zero, List.set_cons_succ]
  refine wpAnyH_ready (rs := [9]) (by kernel_rfl) (by simp) ?_
  refine AllReadyH.cons (o := ⟨_, _, _, _, _, _⟩) rfl (fun K hK => ?_) AllReadyH.nil
  refine step_want rfl (wp_store_row 77 (.tmp 4) (.tmp 13) rfl (w.heap.size + 2) (En.arr ⟨sp9, 65, cp9, L, Sm⟩) rfl rfl 77 _ V4 (s54 hS32) (by first | exact hzz.trans (En.size (e := ⟨sp9, 65, cp9, L, Sm⟩) hS32).symm | exact (En.size (e := ⟨sp9, 65, cp9, L, Sm⟩) hS32).trans hzz.symm) (En.oneA _) ?_)
  have Bf := below_setRow B4 (g := w.heap.size + 2) (by omega) (En.arr ⟨sp9, 65, cp9, L, Sm⟩)
  have Vf := V4.setRow (En.arr ⟨sp9, 65, cp9, L, Sm⟩)
  have hbf := bs_row hb9 (D := En.arr ⟨sp9, 65, cp9, L, Sm⟩) (g := w.heap.size + 2) (fun b off e => by have := (hg9 b off e).1; omega)
  have Xf := X4.setRowOther (k := w.heap.size + 2) (En.arr ⟨sp9, 65, cp9, L, Sm⟩) (by omega)
  have Yf := Y4.setRowOther (k := w.heap.size + 2) (En.arr ⟨sp9, 65, cp9, L, Sm⟩) (by omega)
  generalize u4.setRow (w.heap.size + 2) (En.arr ⟨sp9, 65, cp9, L, Sm⟩) = uf at *
  refine hK.out _ _ ⟨Bf, Xf, Yf⟩ (fun hHeld => ?_)
  clear hK K
  try simp only [Act.put, List.setIfInBounds_toArray, List.set_cons_zero, List.set_cons_succ]
  refine wpAnyH_done (by kernel_rfl) ?_ _
  go_wp2_with fail
  exact bodyPost_ret (v := .agg (En.arr ⟨sp9, 65, cp9, L, Sm⟩)) (res54 Try.results63 rfl hS32 Vf) rfl (hfin.out uf sp9 cp9 hbf.here (fun b off e => (hg9 b off e).1) Bf)
end Go.Proofs.Ytlebojbfcolkhaa
/- Layer state, the document's answer: pairs. -/
namespace Go.Proofs.Ytlebojbfcolkhaa
set_option linter.unusedSectionVars false
set_option maxHeartbeats 1000000
open Go.RowKit
set_option maxRecDepth 100000
set_option linter.unusedVariables false
set_option linter.unusedSimpArgs false

variable [DecidableEq Ac] [DecidableEq Ou]
theorem ag24b {ops : Array Oper} {rest : List Oper} {o : Oper} {a : Act} {w : World} {Q : Exit → Act → World → Prop} (hgd : o.guard = none) (s x : Operand) (ho : o.op = .call { callee := .builtin .append, args := #[s, x], argTypes := #[42, 42] })
    (base k : Nat) (v : Value) (ls : List (List Int)) (X : List Int) (hs : a.eval s = v) (hown : w.ownsRow base 24 32 v k (flat32 ls))
    (gx c : Nat) (hx : a.eval x = .slice (some ⟨gx, 0, none⟩) 1 c) (hA : Arr w gx 24 (h8 X)) (hX : X.length = 32) (hk : k ≤ 1000) (hbase : base ≤ w.heap.size)
    (h : ∀ v' w', w'.ownsRow base 24 32 v' (k + 1) (flat32 (ls ++ [X])) → w.grownBy w' v.ownBlock → (v'.ownBlock = v.ownBlock ∨ v'.ownBlock = some w.heap.size) → wpList Try.prog ops Q rest (a.put o.dst v') w') : wpList Try.prog ops Q (o :: rest) a w := by
  obtain ⟨i0, hi0, hz0, hz1, hz2⟩ := info_parts info24
  refine wpList_plain hgd fun _ hK => ?_
  obtain ⟨v', w', hr, h2, h3, h4, h5⟩ := run_append_own_at (P := Try.prog) w base 42 o.type 24 i0 (.agg (h8 Z32)) 32 32 Try.underlying42 hi0 hz0 hz1 hz2 (by show (h8 Z32).size = 32; rw [h8_size, Z32_len]) (by omega) v k _ hown ⟨gx, 0, none⟩ 1 c (by8 X) (by rw [by8_len, hX]) (fun j u hj => by
    rw [Addr.add_mid]; exact hA.range j u hj) (by8_one X) (by unfold maxLen; omega) (by omega) hbase
  unfold Oper.wp execOp
  simp only [ho, resolve, invoke, builtin, Sem.run_bind, Sem.run_pure, Result.andThen_ok, List.map_toArray, List.map_cons, List.map_nil, hs, hx, hr]
  exact hK _ _ (h v' w' (by rw [flat32_app]; exact h2) h3 h5)
theorem bl24 {ops : Array Oper} {rest : List Oper} {o : Oper} {a : Act} {w : World} {Q : Exit → Act → World → Prop} (hgd : o.guard = none) (x : Operand) (ho : o.op = .buildSlice 42 1 #[(0, x)]) (X : List Int) (hx : a.eval x = .agg (h8 X)) (hX : X.length = 32)
    (h : wpList Try.prog ops Q rest (a.put o.dst (.slice (some ⟨w.heap.size, 0, none⟩) 1 1)) (w.alloc (.cells (h8 X) 24))) : wpList Try.prog ops Q (o :: rest) a w :=
  wpList_plain hgd fun _ hK => wp_bld1 x ho X hx hX (hK _ _ h)
theorem EnOK.far {N : Nat} {w w' : World} {r : Option Nat} {e : En} (h : EnOK N w e) (hg : w.grownBy w' r) (hN : N ≤ w.heap.size) (hne : ∀ b off, e.sp = some ⟨b, off, none⟩ → some b ≠ r) : EnOK N w' e :=
  ⟨⟨h.body.len, h.body.nil, h.body.le, h.body.big, h.body.small, fun h0 => by
    obtain ⟨b, off, q, hb, hB⟩ := h.body.at0 h0
    refine ⟨b, off, q, hb, fun u hu => ?_⟩
    rw [World.cell?_of_block (w := w) (a := ⟨b, off + u, none⟩) (hg.block b (by omega) (hne b off q))]
    exact hB u hu, h.body.bts⟩, h.s32⟩
theorem HS.far {N : Nat} {w w' : World} {r : Option Nat} {sp : Option Addr} {n cap : Nat} {ls : List (List Int)} (h : HS N w sp n cap ls) (hg : w.grownBy w' r) (hN : N ≤ w.heap.size) (hne : ∀ b off, sp = some ⟨b, off, none⟩ → some b ≠ r) : HS N w' sp n cap ls :=
  ⟨h.len, h.nil, h.le, h.big, h.small, fun h0 => by
    obtain ⟨b, off, q, hb, hB⟩ := h.at0 h0
    refine ⟨b, off, q, hb, fun i X hX j v hv => ?_⟩
    rw [World.cell?_of_block (w := w) (a := ⟨b, off + i * 32 + j, none⟩) (hg.block b (by omega) (hne b off q))]
    exact hB i X hX j v hv, h.l32⟩
theorem EO.up {base ax : Nat} {w w' : World} {v u : Value} {es : List En} (h : EO base ax w v es) (hg : w.grownBy w' u.ownBlock) (hu : ∀ k, u.ownBlock = some k → k = ax) (hv : v.ownBlock ≠ some ax) : EO base ax w' v es ∧ EO base w.heap.size w' v es := by
  have hz := hg.size
  have h1 : w'.ownsRow base 77 33 v es.length (flatE es) := own_same h.own (fun k hk => hg.block k (own_lt h.own hk) (fun e => hv (by rw [← hu k e.symm]; exact hk)))
  have h2 : ∀ e ∈ es, EnOK w'.heap.size w' e := fun e he => ((h.ok e he).far hg (Nat.le_refl _) (fun b off q hb => (h.ap e he b off q).2.2.2 (hu b hb.symm))).mono hz
  refine ⟨⟨h1, h2, fun e he b off q => ?_⟩, ⟨h1, h2, fun e he b off q => ?_⟩⟩
  · obtain ⟨a1, a2, a3, a4⟩ := h.ap e he b off q
    exact ⟨a1, by omega, a3, a4⟩
  · obtain ⟨a1, a2, a3, a4⟩ := h.ap e he b off q
    exact ⟨a1, by omega, a3, by omega⟩
theorem EO.ax {base ax ax' : Nat} {w : World} {v : Value} {es : List En} (h : EO base ax w v es) (h' : ax' < base) : EO base ax' w v es :=
  ⟨h.own, h.ok, fun e he b off q => by obtain ⟨a1, a2, a3, a4⟩ := h.ap e he b off q; exact ⟨a1, a2, a3, by omega⟩⟩
theorem own_eq {w : World} {base e s n k : Nat} {v : Value} {xs : List Value} (h : w.ownsRow base e s v n xs) (hk : v.ownBlock = some k) : base ≤ k ∧ k < w.heap.size := ⟨own_ge h k hk, own_lt h hk⟩
/-- What pairs answers. -/
def PRPost (l : List (List Int)) (w : World) (r : Ending) (w' : World) : Prop :=
  ∃ v es, r = .returned (.tuple #[v, .agg (h8 (tr 5 l))]) ∧ EO (w.heap.size + 1) w.heap.size w' v es ∧ Hid (es.map En.bs = prs 5 (pad l)) ∧ Hid (∀ e ∈ es, e.sm = shl e.bs) ∧ Below w.heap.size w w'
theorem lvl_two {F : List (List Int)} {K k : Nat} (hF : F.length = 2 * K) (hk : k < K) : ∃ X Y, F[2 * k]? = some X ∧ F[2 * k + 1]? = some Y ∧ (lvl F)[k]? = some (1 :: (X ++ Y)) := by
  have h1 : 2 * k < F.length := by omega
  have h2 : 2 * k + 1 < F.length := by omega
  exact ⟨_, _, List.getElem?_eq_getElem h1, List.getElem?_eq_getElem h2, lvl_get F k _ _ (List.getElem?_eq_getElem h1) (List.getElem?_eq_getElem h2)⟩
theorem pairs_res {f : Func} {w : World} {tmps : Array Value} {g : Nat} {X : List Int} {v : Value} {k t : Nat} (hf : f.results = #[.tmp k, .cell t 24]) (hk : tmps.getD k undef = v) (hp : tmps.getD t undef = .pointer (some ⟨g, 0, none⟩)) (hX : X.length = 32) (hA : Arr w g 24 (h8 X)) :
    (results f tmps).run Try.prog w = .ok (.tuple #[v, .agg (h8 X)]) w := by
  have hl := run_loadVar_mid (P := Try.prog) w g 0 24 (by8 X) _ hA.range Try.underlying24 rfl (by rw [by8_len, hX]; exact size24)
  have hp' : tmps[t]?.getD undef = .pointer (some ⟨g, 0, none⟩) := by simpa using hp
  have hk' : tmps[k]?.getD undef = v := by simpa using hk
  simp [results, hf, hp', hk', asAddr, hl, h8]
theorem shl_map_32 (l : List (List Int)) : ∀ x ∈ l.map shl, x.length = 32 := by
  intro x hx; obtain ⟨y, -, rfl⟩ := List.mem_map.1 hx; exact shl_len _
theorem shl_map_bts (l : List (List Int)) : ∀ x ∈ l.map shl, Bts x := by
  intro x hx; obtain ⟨y, -, rfl⟩ := List.mem_map.1 hx; exact shl_bts _
theorem pad_bts {l : List (List Int)} (h : ∀ x ∈ l, Bts x) : ∀ x ∈ pad l, Bts x := by
  intro x hx
  rcases List.mem_append.1 hx with h1 | h1
  · exact h x h1
  · rw [(List.mem_replicate.1 h1).2]; exact Z32_bts
/-- What stands at the head of the outer loop. -/
structure OI (w : World) (B : List (List Int)) (R : List Int) (d : Nat) (F : List (List Int)) (es : List En) (vo : Value) (spF : Option Addr) (nF cF : Nat) (W : World) : Prop where
  len : Hid (F.length = 2 ^ d ∧ nF = 2 ^ d ∧ d ≤ 5)
  hs : HS W.heap.size W spF nF cF F
  bts : Hid (∀ x ∈ F, Bts x)
  eo : EO (w.heap.size + 1) w.heap.size W vo es
  far : ∀ b off, spF = some ⟨b, off, none⟩ → vo.ownBlock ≠ some b
  gb : ∀ b off, spF = some ⟨b, off, none⟩ → w.heap.size < b
  bs : Hid (es.map En.bs ++ prs d F = B)
  sm : Hid (∀ e ∈ es, e.sm = shl e.bs)
  rt : Hid (tr d F = R)
  res : Arr W w.heap.size 24 (h8 Z32)
  bel : Below w.heap.size w W
theorem hs_lt {N : Nat} {w : World} {sp : Option Addr} {n cap b off : Nat} {ls : List (List Int)} (h : HS N w sp n cap ls) (hn : 0 < n) (he : sp = some ⟨b, off, none⟩) : b < N := by
  obtain ⟨g, o, q, hg, -⟩ := h.at0 hn
  rw [he] at q; cases q; exact hg
/-- .. of the inner one: k pairs of the level are laid. -/
structure II (w : World) (F : List (List Int)) (K : Nat) (bs0 : List (List Int)) (spF : Option Addr) (nF cF : Nat) (k : Nat) (es : List En) (vo vu : Value) (ub : Nat) (W : World) : Prop where
  hs : HS W.heap.size W spF nF cF F
  eo : EO (w.heap.size + 1) ub W vo es
  up : W.ownsRow (w.heap.size + 1) 24 32 vu k (flat32 (((lvl F).map shl).take k))
  hu : ∀ j, vu.ownBlock = some j → j = ub
  ne : vo.ownBlock ≠ some ub
  lt : ub < W.heap.size
  fo : ∀ b off, spF = some ⟨b, off, none⟩ → vo.ownBlock ≠ some b
  fu : ∀ b off, spF = some ⟨b, off, none⟩ → vu.ownBlock ≠ some b
  bs : Hid (es.map En.bs = bs0 ++ (lvl F).take k)
  sm : Hid (∀ e ∈ es, e.sm = shl e.bs)
  res : Arr W w.heap.size 24 (h8 Z32)
  bel : Below w.heap.size w W
section
variable {w : World} {F : List (List Int)} {K : Nat} {bs0 : List (List Int)} {spF : Option Addr} {nF cF k : Nat} {es : List En} {vo vu : Value} {ub : Nat} {W W1 W2 W3 W4 : World}
theorem II.below (h : II w F K bs0 spF nF cF k es vo vu ub W) (hb : Below W.heap.size W W1) : II w F K bs0 spF nF cF k es vo vu ub W1 :=
  ⟨(h.hs.below hb).mono hb.size, h.eo.below hb, own_same h.up (fun j hj => hb.block j (own_lt h.up hj)), h.hu, h.ne, Nat.lt_of_lt_of_le h.lt hb.size, h.fo, h.fu, h.bs, h.sm, h.res.bel hb, h.bel.trans (hb.mono h.bel.size)⟩
theorem II.upAt (h1 : II w F K bs0 spF nF cF k es vo vu ub W1) (hg : W1.grownBy W2 vo.ownBlock) (hb3 : Below W2.heap.size W2 W3) : W3.ownsRow (w.heap.size + 1) 24 32 vu k (flat32 (((lvl F).map shl).take k)) := by
  have h2 : W2.ownsRow (w.heap.size + 1) 24 32 vu k (flat32 (((lvl F).map shl).take k)) := own_same h1.up (fun j hj => hg.block j (own_lt h1.up hj) (fun e => h1.ne (by rw [← h1.hu j hj]; exact e.symm)))
  exact own_same h2 (fun j hj => hb3.block j (own_lt h2 hj))
theorem II.next {e : En} {vo2 vu2 : Value} (hn : 0 < nF) (h1 : II w F K bs0 spF nF cF k es vo vu ub W1) (hE : EO (w.heap.size + 1) ub W2 vo2 (es ++ [e])) (hg : W1.grownBy W2 vo.ownBlock) (h5 : vo2.ownBlock = vo.ownBlock ∨ vo2.ownBlock = some W1.heap.size)
    (hb3 : Below W2.heap.size W2 W3) (hu : W4.ownsRow (w.heap.size + 1) 24 32 vu2 (k + 1) (flat32 (((lvl F).map shl).take k ++ [e.sm]))) (hg4 : W3.grownBy W4 vu.ownBlock) (h6 : vu2.ownBlock = vu.ownBlock ∨ vu2.ownBlock = some W3.heap.size)
    (hl : (lvl F)[k]? = some e.bs) (hsm : e.sm = shl e.bs) : ∃ ub2, II w F K bs0 spF nF cF (k + 1) (es ++ [e]) vo2 vu2 ub2 W4 := by
  have z12 := hg.size
  have z23 := hb3.size
  have z34 := hg4.size
  have hv2 : vo2.ownBlock ≠ some ub := fun q => by
    rcases h5 with h5 | h5
    · exact h1.ne (h5.symm.trans q)
    · rw [h5] at q; have := Option.some.inj q; have := h1.lt; omega
  have e3 := hE.below hb3
  obtain ⟨e4, e4'⟩ := e3.up hg4 h1.hu hv2
  have hs2 := h1.hs.far hg (Nat.le_refl _) (fun b off q r => h1.fo b off q r.symm)
  have hs3 := ((hs2.mono z12).below hb3).mono z23
  have hs4 := (hs3.far hg4 (Nat.le_refl _) (fun b off q r => h1.fu b off q r.symm)).mono z34
  have hm : ((lvl F).map shl)[k]? = some e.sm := by rw [List.getElem?_map, hl, hsm]; rfl
  rw [← take_succ' hm] at hu
  have hfo : ∀ b off, spF = some ⟨b, off, none⟩ → vo2.ownBlock ≠ some b := fun b off q r => by
    have hlt := hs_lt h1.hs hn q
    rcases h5 with h5 | h5
    · exact h1.fo b off q (h5.symm.trans r)
    · rw [h5] at r; have := Option.some.inj r; omega
  have hfu : ∀ b off, spF = some ⟨b, off, none⟩ → vu2.ownBlock ≠ some b := fun b off q r => by
    have hlt := hs_lt hs3 hn q
    rcases h6 with h6 | h6
    · exact h1.fu b off q (h6.symm.trans r)
    · rw [h6] at r; have := Option.some.inj r; omega
  have hbs : Hid ((es ++ [e]).map En.bs = bs0 ++ (lvl F).take (k + 1)) := Hid.mk' (by rw [take_succ' hl, List.map_append, h1.bs.out, List.append_assoc]; rfl)
  have hsm' : Hid (∀ f ∈ es ++ [e], f.sm = shl f.bs) := Hid.mk' (fun f hf => by
    rcases List.mem_append.1 hf with hf | hf
    · exact h1.sm.out f hf
    · simp at hf; subst hf; exact hsm)
  have hB1 := h1.bel.size
  have b2 : Below w.heap.size w W2 := grown_below h1.bel hg (fun j hj => by have := (own_eq h1.eo.own hj).1; omega) hB1
  have b3 := b2.trans (hb3.mono b2.size)
  have b4 : Below w.heap.size w W4 := grown_below b3 hg4 (fun j hj => by have := (own_eq h1.up hj).1; omega) b3.size
  have r2 : Arr W2 w.heap.size 24 (h8 Z32) := h1.res.grown hg (fun e => by have := (own_eq h1.eo.own e.symm).1; omega)
  have r4 : Arr W4 w.heap.size 24 (h8 Z32) := (r2.bel hb3).grown hg4 (fun e => by have := (own_eq h1.up e.symm).1; omega)
  rcases h6 with h6 | h6
  · exact ⟨ub, hs4, e4, hu, fun j hj => h1.hu j (h6.symm.trans hj), hv2, by have := h1.lt; omega, hfo, hfu, hbs, hsm', r4, b4⟩
  · refine ⟨W3.heap.size, hs4, e4', hu, fun j hj => by rw [h6] at hj; exact (Option.some.inj hj).symm, fun q => ?_, ?_, hfo, hfu, hbs, hsm', r4, b4⟩
    · have := (own_eq hE.own q).2; omega
    · exact own_lt hu h6
/-- A level is done. -/
theorem II.done {B : List (List Int)} {R : List Int} {d : Nat} {k : Nat} (hF : F.length = 2 ^ (d + 1)) (hd : d + 1 ≤ 5) (hK : K = 2 ^ d) (hk : k = K) (hB : bs0 ++ prs (d + 1) F = B) (hR : tr (d + 1) F = R) (h : II w F K bs0 spF nF cF k es vo vu ub W) :
    ∃ sp cap, vu = .slice sp (2 ^ d) cap ∧ OI w B R d ((lvl F).map shl) es vo sp (2 ^ d) cap W := by
  rw [hk] at h
  clear hk
  have hl : (lvl F).length = K := lvl_len K F (by rw [hF, hK, Nat.pow_succ]; omega)
  have htk : ((lvl F).map shl).take K = (lvl F).map shl := List.take_of_length_le (by simp [hl])
  have htk' : (lvl F).take K = lvl F := List.take_of_length_le (by omega)
  have hup := h.up
  rw [htk] at hup
  have hp : 2 ^ d ≤ 32 := by
    have : 2 ^ d ≤ 2 ^ 5 := Nat.pow_le_pow_right (by omega) (by omega)
    omega
  obtain ⟨sp, cap, rfl, hS, hsp⟩ := own_hs hup (shl_map_32 _) (by simp [hl]) (by omega)
  have hbs := h.bs.out
  rw [htk'] at hbs
  rw [hK] at hS ⊢
  refine ⟨sp, cap, rfl, ⟨Hid.mk' ⟨by simp [hl, hK], rfl, by omega⟩, hS, Hid.mk' (shl_map_bts _), h.eo.ax (by omega), fun b off q r => ?_, fun b off q => hsp b off q, Hid.mk' ?_, h.sm, Hid.mk' ?_, h.res, h.bel⟩⟩
  · have hub : (Value.slice sp K cap).ownBlock = some b → b = ub := h.hu b
    obtain ⟨-, h' | ⟨g, c, cur, q', -⟩⟩ := hup
    · obtain ⟨q', -⟩ := h'
      cases q'; cases q
    · cases q'; cases q
      have := hub rfl
      subst this
      exact h.ne r
  · rw [hbs, ← hB, List.append_assoc]; rfl
  · rw [← hR]; exact (tr_lvl d F (by rw [hF]; exact Nat.le_refl _)).symm
end
end Go.Proofs.Ytlebojbfcolkhaa
/- Layer state, the document's answer: pairs, the walk. -/
namespace Go.Proofs.Ytlebojbfcolkhaa
set_option linter.unusedSectionVars false
set_option maxHeartbeats 1000000
open Go.RowKit
set_option maxRecDepth 100000
set_option linter.unusedVariables false
set_option linter.unusedSimpArgs false

variable [DecidableEq Ac] [DecidableEq Ou]
theorem OI.start {w W : World} {l : List (List Int)} {n G : Nat} (hn : n = l.length) (hn2 : n ≤ 32) (hl : ∀ x ∈ l, x.length = 32) (hb : ∀ x ∈ l, Bts x) (hA : Arr W G 24 (flat32 (pad l)).toArray) (hG : w.heap.size < G) (hR : Arr W w.heap.size 24 (h8 Z32)) (hB : Below w.heap.size w W) :
    OI w (prs 5 (pad l)) (tr 5 l) 5 (pad l) [] (.slice none 0 0) (some ⟨G, 0, none⟩) 32 32 W :=
  ⟨Hid.mk' ⟨pad_len (by omega), rfl, by omega⟩, hs_arr hA (pad_32 hl) (pad_len (by omega)).symm (by omega), Hid.mk' (pad_bts hb), EO.nil _ _ _, (fun b off q r => by cases r), (fun b off q => by cases q; exact hG), Hid.mk' rfl, Hid.mk' (fun e he => (by cases he)), Hid.mk' (pad_tr 5 l), hR, hB⟩
theorem II.start {w W : World} {B : List (List Int)} {R : List Int} {d : Nat} {F : List (List Int)} {es : List En} {vo : Value} {spF : Option Addr} {nF cF K : Nat} (h : OI w B R d F es vo spF nF cF W) : II w F K (es.map En.bs) spF nF cF 0 es vo (.slice none 0 0) w.heap.size W :=
  ⟨h.hs, h.eo, World.ownsRow_nil _ _ _ _, fun j hj => (by cases hj), fun q => by have := (own_eq h.eo.own q).1; omega, h.res.lt, h.far, fun b off q r => (by cases r), Hid.mk' (by simp), h.sm, h.res, h.bel⟩
theorem EO.row {ax : Nat} {w : World} {v : Value} {es : List En} (h : EO (ax + 1) ax w v es) (D : Array Value) : EO (ax + 1) ax (w.drew.setRow ax D) v es := by
  have hz : (w.drew.setRow ax D).heap.size = w.heap.size := by simp
  refine ⟨own_same h.own (fun k hk => setRow_other w.drew ax k D (by have := own_ge h.own k hk; omega)), fun e he => ⟨?_, (h.ok e he).s32⟩, fun e he b off q => ?_⟩
  · rw [hz]
    exact bs_row (w := w.drew) ⟨(h.ok e he).body.len, (h.ok e he).body.nil, (h.ok e he).body.le, (h.ok e he).body.big, (h.ok e he).body.small, (h.ok e he).body.at0, (h.ok e he).body.bts⟩ (fun b off q => (h.ap e he b off q).2.2.2)
  · rw [hz]; exact h.ap e he b off q
theorem range_row {w : World} {g b o : Nat} {cs : List Value} {D : Array Value} (h : w.rangeAt b o cs) (hne : b ≠ g) : (w.setRow g D).rangeAt b o cs := fun j v hv => (World.cell?_of_block (w := w) (a := ⟨b, o + j, none⟩) (setRow_other w g b D hne)).trans (h j v hv)
theorem En.range {w : World} {g ty : Nat} {e : En} (h : Arr w g ty e.arr) : w.rangeAt g 0 e.cells := fun j v hv => by
  rw [Nat.zero_add, h.cell]; simpa [En.arr] using hv
set_option maxHeartbeats 4000000 in
theorem refPairs_any (l : List (List Int)) (N : Nat) (sp : Option Addr) (n cap : Nat) (w : World) (hS : HS N w sp n cap l) (hn : n ≤ 32) (hb : ∀ x ∈ l, Bts x) :
    Calls Try.prog 62 #[.slice sp n cap] w (PRPost l w) := by
  have hlen := hS.len
  have R0 := Arr.new w 24 (h8 Z32)
  have B0 := alloc_bel' w (.cells (h8 Z32) 24)
  have S0 := (hS.here).below B0
  have hG0 : w.heap.size < (w.alloc (.cells (h8 Z32) 24)).heap.size := by simp
  have hpad : Hid (l ++ List.replicate (32 - n) Z32 = pad l) := Hid.mk' (by rw [hlen.out]; rfl)
  have hl32 := Hid.mk' hS.l32
  have hzz : (En.arr ⟨none, 0, 0, [], Z32⟩).size = 33 := En.size Z32_len
  obtain ⟨B, hBB⟩ : ∃ B, Hid (B = prs 5 (pad l)) := ⟨_, rfl⟩
  obtain ⟨R, hRR⟩ : ∃ R, Hid (R = tr 5 l) := ⟨_, rfl⟩
  have hBl : Hid (B.length = 31) := Hid.mk' (by rw [hBB.out]; have := prs_len 5 (pad l) (pad_len (by rw [← hlen.out]; exact hn)); omega)
  go_enter Try.func62, Try.ntmps62
  go_upto_region 1 with fail
  rw [← h8_Z]
  generalize w.alloc (.cells (h8 Z32) 24) = V0 at R0 B0 S0 hG0 ⊢
  go_upto_region 3 with (first
    | (at_make; go_must (refine mk24 (by rfl) (.const (.int .i64 32)) (by rfl) 32 (by rfl) (by omega) ?_; have A1 := Arr.new V0 24 (flat32 (List.replicate 32 Z32)).toArray; have R1 := R0.alloc (.cells (flat32 (List.replicate 32 Z32)).toArray 24); have B1 := B0.alloc B0.size (.cells (flat32 (List.replicate 32 Z32)).toArray 24); have S1 := (S0.mono B0.size).here.below (alloc_bel' V0 (.cells (flat32 (List.replicate 32 Z32)).toArray 24))))
    | (refine cp24 (by rfl) (.tmp 10) (.tmp 11) (by rfl) V0.heap.size 32 _ sp n cap l (by rfl) (by rfl) S1 A1 hn ?_; rw [hpad.out]; have A2 := A1.setRow (flat32 (pad l)).toArray; have R2 := R1.setRowOther (flat32 (pad l)).toArray (Nat.ne_of_lt hG0); have B2 := below_setRow B1 (Nat.le_of_lt hG0) (flat32 (pad l)).toArray))
  have O0 := OI.start hlen.out hn hl32.out hb A2 hG0 R2 B2
  rw [← hBB.out, ← hRR.out] at O0
  clear A1 A2 R0 R1 R2 B0 B1 B2 S0 S1 hG0
  go_upto_region 4 with fail
  go_loopw [4, 5] (fun u q wr => ∃ d F es spF nF cF vo, vo = q ∧ u = .slice spF nF cF ∧ OI w B R d F es vo spF nF cF wr) (fun u _ _ => vlen u)
  case atStart => exact ⟨5, _, _, _, _, _, _, rfl, rfl, O0⟩
  case round =>
    obtain ⟨d, F, es0, spF, nF, cF, vO, rfl, rfl, hO⟩ := hrel
    clear O0
    cases d with
    | succ d =>
      have hFl := Hid.mk' hO.len.out.1
      have hnF := hO.len.out.2.1
      have hd5 := hO.len.out.2.2
      obtain ⟨K, hK⟩ : ∃ K, K = 2 ^ d := ⟨_, rfl⟩
      have hpw : 2 ^ (d + 1) = 2 * K := by rw [hK, Nat.pow_succ]; omega
      have hKp : 0 < K := by rw [hK]; exact Nat.two_pow_pos d
      rw [hpw] at hnF
      have hFK : Hid (F.length = 2 * K) := Hid.mk' (by rw [hFl.out, hpw])
      have hcF := hO.hs.le
      have hbig := hO.hs.big
      have hgt : (1 : Int) < nF := by omega
      have HnF := Hid.mk' hnF
      have hes0 : (es0.map En.bs).length ≤ 31 := by
        have h1 := congrArg List.length hO.bs.out
        rw [List.length_append, hBl.out] at h1
        omega
      have HK := Hid.mk' hK
      have hK16 : K ≤ 16 := by
        rw [hK]
        have : 2 ^ d ≤ 2 ^ 4 := Nat.pow_le_pow_right (by omega) (by omega)
        omega
      have hF32 := Hid.mk' hO.hs.l32
      have hFb := hO.bts
      have I0 := II.start (K := K) hO
      have hOB := hO.bs
      have hOR := hO.rt
      clear hK hpw hO hnF
      obtain ⟨bs0, hbs0⟩ : ∃ b, b = es0.map En.bs := ⟨_, rfl⟩
      rw [← hbs0] at I0 hOB hes0
      clear hbs0
      go_wp2_with fail
      go_loopw [5, 6, 7] (fun q u i wr => ∃ i' k es ub vo vu, vo = q ∧ vu = u ∧ i = .int .i64 ((i' : Nat) : Int) ∧ Hid (i' = 2 * k) ∧ Hid (k ≤ K) ∧ II w F K bs0 spF nF cF k es vo vu ub wr) (fun _ _ i _ => nF - (intOf i).toNat)
      case atStart => exact ⟨0, 0, _, _, _, _, rfl, rfl, rfl, Hid.mk' (by omega), Hid.mk' (by omega), I0⟩
      case round =>
        obtain ⟨i, k, es, ub, vo, vu, rfl, rfl, rfl, hik, hkK, hI⟩ := hrel
        clear I0
        by_cases hlt : i < nF
        · have hiI : (i : Int) < nF := by omega
          have hi0 : (0 : Int) ≤ i := by omega
          have hkK2 : k < K := by have := HnF.out; have := hik.out; omega
          have hi1 : (i : Int) + 1 < nF := by have := HnF.out; have := hik.out; omega
          have hi2 : (0 : Int) ≤ (i : Int) + 1 := by omega
          have hw1 : IntKind.i64.wrap ((i : Int) + 1) = (i : Int) + 1 := by have := HnF.out; rw [IntKind.wrap_i64]; omega
          have ei : ((i : Int) + 1).toNat = i + 1 := by omega
          obtain ⟨X, Y, hX, hY, hXY⟩ := lvl_two hFK.out hkK2
          rw [← hik.out] at hX hY
          replace hkK2 := Hid.mk' hkK2
          have hX32 := hF32.out X (List.mem_of_getElem? hX)
          have hY32 := hF32.out Y (List.mem_of_getElem? hY)
          have bX := hFb.out X (List.mem_of_getElem? hX)
          have bY := hFb.out Y (List.mem_of_getElem? hY)
          obtain ⟨gF, oF, rfl, hgF, hR⟩ := hI.hs.at0 (by omega)
          have rX := hR i X hX
          have rY := hR (i + 1) Y hY
          have hel : es.length ≤ 1000 := by
            have h1 := congrArg List.length hI.bs.out
            have h2 : ((lvl F).take k).length ≤ k := List.length_take_le _ _
            rw [List.length_map, List.length_append] at h1
            have := hkK.out
            omega
          have HXY := Hid.mk' hXY
          have hnpos : 0 < nF := by omega
          clear hX hY hXY hR
          go_upto_region 9 with fail
          go_cut [8] (fun s wc => ∃ b e, s = .pointer (some ⟨b, 0, none⟩) ∧ wr.heap.size ≤ b ∧ Arr wc b 77 (En.arr e) ∧ EnOK wc.heap.size wc e ∧ Hid (e.bs = 1 :: (X ++ Y) ∧ e.sm = shl (1 :: (X ++ Y))) ∧ (∀ b' off, e.sp = some ⟨b', off, none⟩ → wr.heap.size ≤ b') ∧ Below wr.heap.size wr wc)
          case first =>
            refine wp_region_held_drew (S := fun u => Below wr.heap.size wr u) (by kernel_rfl) ((Below.refl _ _).drew) (fun hHeld => ?_)
            refine wpAnyH_take (i := 0) (oi := ⟨_, _, _, _, _, _⟩) (v := ?_) rfl (by kernel_rfl) (by kernel_rfl) (by kernel_rfl) (fun _ _ _ h => h) (Or.inl ⟨by rfl, ?_⟩) (by assumption) ?_
            rotate_left
            · intro u hSw
              go_simp
              try (with_reducible rfl)
            try simp only [Act.put, List.setIfInBounds_toArray, List.set_cons_zero, List.set_cons_succ]
            refine wpAnyH_take (i := 1) (oi := ⟨_, _, _, _, _, _⟩) (v := ?_) rfl (by kernel_rfl) (by kernel_rfl) (by kernel_rfl) (fun _ _ _ h => h) (Or.inl ⟨by rfl, ?_⟩) (by assumption) ?_
            rotate_left
            · intro u hSw
              go_simp
              try (with_reducible rfl)
            try simp only [Act.put, List.setIfInBounds_toArray, List.set_cons_zero, List.set_cons_succ]
            refine wpAnyH_take (i := 2) (oi := ⟨_, _, _, _, _, _⟩) (v := ?_) rfl (by kernel_rfl) (by kernel_rfl) (by kernel_rfl) (fun _ _ _ h => h) (Or.inl ⟨by rfl, ?_⟩) (by assumption) ?_
            rotate_left
            · intro u hSw
              go_simp
              try (with_reducible rfl)
            try simp only [Act.put, List.setIfInBounds_toArray, List.set_cons_zero, List.set_cons_succ]
            refine wpAnyH_take (i := 3) (oi := ⟨_, _, _, _, _, _⟩) rfl (by kernel_rfl) (by kernel_rfl) (by kernel_rfl) (fun _ _ _ h => h) (y24 (by rfl) (.tmp 24) rfl gF (oF + i * 32) rfl X hX32 (fun u hu => range_below rX hu hgF)) (by assumption) ?_
            try simp only [Act.put, List.setIfInBounds_toArray, List.set_cons_zero, List.set_cons_succ]
            refine wpAnyH_take (i := 4) (oi := ⟨_, _, _, _, _, _⟩) (v := ?_) rfl (by kernel_rfl) (by kernel_rfl) (by kernel_rfl) (fun _ _ _ h => h) (Or.inl ⟨by rfl, ?_⟩) (by assumption) ?_
            rotate_left
            · intro u hSw
              go_simp
              try (with_reducible rfl)
            try simp only [Act.put, List.setIfInBounds_toArray, List.set_cons_zero, List.set_cons_succ]
            refine wpAnyH_take (i := 5) (oi := ⟨_, _, _, _, _, _⟩) (v := ?_) rfl (by kernel_rfl) (by kernel_rfl) (by kernel_rfl) (fun _ _ _ h => h) (Or.inl ⟨by rfl, ?_⟩) (by assumption) ?_
            rotate_left
            · intro u hSw
              go_simp
              try (with_reducible rfl)
            try simp only [Act.put, List.setIfInBounds_toArray, List.set_cons_zero, List.set_cons_succ]
            refine wpAnyH_take (i := 6) (oi := ⟨_, _, _, _, _, _⟩) (v := ?_) rfl (by kernel_rfl) (by kernel_rfl) (by kernel_rfl) (fun _ _ _ h => h) (Or.inl ⟨by rfl, ?_⟩) (by assumption) ?_
            rotate_left
            · intro u hSw
              go_simp
              try (with_reducible rfl)
            try simp only [Act.put, List.setIfInBounds_toArray, List.set_cons_zero, List.set_cons_succ]
            refine wpAnyH_take (i := 7) (oi := ⟨_, _, _, _, _, _⟩) (v := ?_) rfl (by kernel_rfl) (by kernel_rfl) (by kernel_rfl) (fun _ _ _ h => h) (Or.inl ⟨by rfl, ?_⟩) (by assumption) ?_
            rotate_left
            · intro u hSw
              go_simp
              try (with_reducible rfl)
            try simp only [Act.put, List.setIfInBounds_toArray, List.set_cons_zero, List.set_cons_succ]
            refine wpAnyH_take (i := 8) (oi := ⟨_, _, _, _, _, _⟩) rfl (by kernel_rfl) (by kernel_rfl) (by kernel_rfl) (fun _ _ _ h => h) (y24 (by rfl) (.tmp 29) rfl gF (oF + (i + 1) * 32) rfl Y hY32 (fun u hu => range_below rY hu hgF)) (by assumption) ?_
            try simp only [Act.put, List.setIfInBounds_toArray, List.set_cons_zero, List.set_cons_succ]
            refine wpAnyH_ready (rs := [9, 10]) (by kernel_rfl) (by simp) ?_
            refine AllReadyH.cons (o := ⟨_, _, _, _, _, _⟩) rfl (fun K hK => ?_) (AllReadyH.cons (o := ⟨_, _, _, _, _, _⟩) rfl (fun K hK => ?_) AllReadyH.nil)
            · go_simp
              refine (entry_any X Y _ hX32 hY32 bX bY).mono ?_; rintro r u1 ⟨e, rfl, he, hbse, hspe, hb1⟩
              have H1 := ((Below.refl wr.heap.size wr).drew).trans (hb1.mono (by simp))
              have hs1 := H1.size
              go_wp2_with fail
              refine hK.out _ _ H1 (fun hHeld => ?_)
              clear hK K
              try simp only [Act.put, List.setIfInBounds_toArray, List.set_cons_zero, List.set_cons_succ]
              refine wpAnyH_ready (rs := [10]) (by kernel_rfl) (by simp) ?_
              refine AllReadyH.cons (o := ⟨_, _, _, _, _, _⟩) rfl (fun K hK => ?_) AllReadyH.nil
              go_simp
              go_wp2_with fail
              rw [← z77]
              have H2 := H1.alloc H1.size (.cells (En.arr ⟨none, 0, 0, [], Z32⟩) 77)
              have A2 := Arr.new u1 77 (En.arr ⟨none, 0, 0, [], Z32⟩)
              refine hK.out _ _ H2 (fun hHeld => ?_)
              clear hK K
              try simp only [Act.put, List.setIfInBounds_toArray, List.set_cons_zero, List.set_cons_succ]
              refine wpAnyH_ready (rs := [11]) (by kernel_rfl) (by simp) ?_
              refine AllReadyH.cons (o := ⟨_, _, _, _, _, _⟩) rfl (fun K hK => ?_) AllReadyH.nil
              refine step_want rfl (wp_store_row 77 (.tmp 8) (.tmp 31) rfl u1.heap.size e.arr rfl rfl 77 _ A2 (s54 he.s32) (by rw [hzz, En.size he.s32]) e.oneA ?_)
              have H3 := below_setRow H2 hs1 e.arr
              have A3 := A2.setRow e.arr
              have he2 : EnOK ((u1.alloc (.cells (En.arr ⟨none, 0, 0, [], Z32⟩) 77)).setRow u1.heap.size e.arr).heap.size ((u1.alloc (.cells (En.arr ⟨none, 0, 0, [], Z32⟩) 77)).setRow u1.heap.size e.arr) e := by
                have q1 := (he.below (alloc_bel' u1 (.cells (En.arr ⟨none, 0, 0, [], Z32⟩) 77))).mono (alloc_bel' u1 (.cells (En.arr ⟨none, 0, 0, [], Z32⟩) 77)).size
                refine ⟨(bs_row q1.body (fun b off hb => ?_)).mono (by simp), q1.s32⟩
                have hn0 : 0 < e.n := by have := he.body.len.out; rw [hbse.out.1] at this; simp at this; omega
                obtain ⟨b', off', q', hb', -⟩ := he.body.at0 hn0
                rw [hb] at q'; cases q'; exact Nat.ne_of_lt hb'
              refine hK.out _ _ H3 (fun hHeld => ?_)
              clear hK K
              try simp only [Act.put, List.setIfInBounds_toArray, List.set_cons_zero, List.set_cons_succ]
              refine wpAnyH_done (by kernel_rfl) ?_ _
              go_wp2_with fail
              go_meet
              exact ⟨_, e, rfl, hs1, A3, he2, hbse, fun b' off q' => by have := hspe b' off q'; simpa using this, H3⟩
            · go_simp
              go_wp2_with fail
              rw [← z77]
              have H1 := ((Below.refl wr.heap.size wr).drew).alloc (by simp) (.cells (En.arr ⟨none, 0, 0, [], Z32⟩) 77)
              have A1 : Arr (wr.drew.alloc (.cells (En.arr ⟨none, 0, 0, [], Z32⟩) 77)) wr.heap.size 77 (En.arr ⟨none, 0, 0, [], Z32⟩) := Arr.new wr.drew 77 (En.arr ⟨none, 0, 0, [], Z32⟩)
              refine hK.out _ _ H1 (fun hHeld => ?_)
              clear hK K
              try simp only [Act.put, List.setIfInBounds_toArray, List.set_cons_zero, List.set_cons_succ]
              refine wpAnyH_ready (rs := [9]) (by kernel_rfl) (by simp) ?_
              refine AllReadyH.cons (o := ⟨_, _, _, _, _, _⟩) rfl (fun K hK => ?_) AllReadyH.nil
              go_simp
              refine (entry_any X Y _ hX32 hY32 bX bY).mono ?_; rintro r u2 ⟨e, rfl, he, hbse, hspe, hb2⟩
              have H2 := H1.trans (hb2.mono H1.size)
              have A2 := A1.bel hb2
              go_wp2_with fail
              refine hK.out _ _ H2 (fun hHeld => ?_)
              clear hK K
              try simp only [Act.put, List.setIfInBounds_toArray, List.set_cons_zero, List.set_cons_succ]
              refine wpAnyH_ready (rs := [11]) (by kernel_rfl) (by simp) ?_
              refine AllReadyH.cons (o := ⟨_, _, _, _, _, _⟩) rfl (fun K hK => ?_) AllReadyH.nil
              refine step_want rfl (wp_store_row 77 (.tmp 8) (.tmp 31) rfl wr.heap.size e.arr rfl rfl 77 _ A2 (s54 he.s32) (by rw [hzz, En.size he.s32]) e.oneA ?_)
              have H3 := below_setRow H2 (Nat.le_refl _) e.arr
              have A3 := A2.setRow e.arr
              have hsp' : ∀ b off, e.sp = some ⟨b, off, none⟩ → wr.heap.size + 1 ≤ b := fun b off q' => by have := hspe b off q'; simpa using this
              have he2 : EnOK (u2.setRow wr.heap.size e.arr).heap.size (u2.setRow wr.heap.size e.arr) e := ⟨(bs_row he.body (fun b off hb => by have := hsp' b off hb; omega)).mono (by simp), he.s32⟩
              refine hK.out _ _ H3 (fun hHeld => ?_)
              clear hK K
              try simp only [Act.put, List.setIfInBounds_toArray, List.set_cons_zero, List.set_cons_succ]
              refine wpAnyH_done (by kernel_rfl) ?_ _
              go_wp2_with fail
              go_meet
              exact ⟨_, e, rfl, Nat.le_refl _, A3, he2, hbse, fun b' off q' => by have := hsp' b' off q'; omega, H3⟩
          case rest =>
            obtain ⟨b, e, rfl, hb, Ae, he, hbse, hspe, hbc⟩ := hcut
            have hsm32 := he.s32
            have rE := En.range Ae
            have hbl := Ae.lt
            have I1 := hI.below hbc
            have hwz := hbc.size
            have hub := hI.lt
            have hbwr := hI.bel.size
            have hres := hI.res.lt
            have hapE := apart (base := w.heap.size + 1) (ax := ub) (v := vo) he.body (by have := he.body.len.out; rw [hbse.out.1] at this; simp at this; omega) hspe (fun j hj => (own_eq hI.eo.own hj).2) (by omega) hub (Nat.le_refl wc.heap.size)
            have I2 := I1.below (alloc_bel' wc (.cells e.arr 77))
            have he2 := (he.below (alloc_bel' wc (.cells e.arr 77))).mono (alloc_bel' wc (.cells e.arr 77)).size
            have Ax := Arr.new wc 77 e.arr
            have Ab := Ae.alloc (.cells e.arr 77)
            go_upto_region 11 with (first
              | (refine ld54 (by rfl) (.tmp 8) (by rfl) b 0 (by rfl) e hsm32 rE ?_)
              | (refine bldE (by rfl) (.tmp 33) (by rfl) e (by rfl) hsm32 ?_)
              | (at_builtin; go_must (refine appE (by rfl) (.tmp 32) (.tmp 34) (by rfl) (w.heap.size + 1) ub _ es e (by rfl) I2.eo wc.heap.size 1 (by rfl) Ax he2 (fun b' off q' => by have := hapE b' off q'; simp only [World.size_alloc] at *; exact ⟨this.1, by omega, this.2.2⟩) (by omega) (by simp; omega) ?_; intro vo2 W2 hE2 hg2 h52)))
            have z2 := hg2.size
            have hbo : some b ≠ vo.ownBlock := fun e' => by have := (own_eq hI.eo.own e'.symm).2; omega
            have Ab2 := Ab.grown hg2 (fun e' => hbo e')
            have sE := range_sm (En.range Ab2)
            have U3 := II.upAt I2 hg2 (alloc_bel' W2 (.cells (h8 e.sm) 24))
            have As := Arr.new W2 24 (h8 e.sm)
            go_wp2_with (first
              | (refine ld24 (by rfl) (.tmp 37) (by rfl) b (0 + 1) (by rfl) e.sm hsm32 sE ?_)
              | (refine bl24 (by rfl) (.tmp 38) (by rfl) e.sm (by rfl) hsm32 ?_)
              | (at_builtin; go_must (refine ag24b (by rfl) (.tmp 36) (.tmp 39) (by rfl) (w.heap.size + 1) k _ _ e.sm (by rfl) U3 W2.heap.size 1 (by rfl) As hsm32 (by have := hkK.out; omega) (by simp at z2 ⊢; omega) ?_; intro vu2 W4 hU4 hg4 h64)))
            obtain ⟨ub2, I4⟩ := II.next hnpos I2 hE2 hg2 h52 (alloc_bel' W2 (.cells (h8 e.sm) 24)) hU4 hg4 h64 (by rw [hbse.out.1]; exact HXY.out) (by rw [hbse.out.2, hbse.out.1])
            go_roundw
            case rel => exact ⟨i + 2, k + 1, _, _, _, _, rfl, rfl, by go_num, Hid.mk' (by have := hik.out; omega), Hid.mk' (by have := hkK2.out; omega), I4⟩
            case measure => simp [intOf]; omega
        · have hiI : ¬ (i : Int) < nF := by omega
          obtain ⟨sp2, c2, rfl, O2⟩ := II.done (k := k) hFl.out hd5 HK.out (by have := HnF.out; have := hik.out; have := hkK.out; omega) hOB.out hOR.out hI
          go_wp2_with fail
          go_roundw
          case rel => exact ⟨d, _, _, _, _, _, _, rfl, rfl, O2⟩
          case measure =>
            have := HK.out
            have := HnF.out
            simp only [vlen]
            omega
    | zero =>
      have hF1 : F.length = 1 := by have := hO.len.out.1; simpa using this
      have hnF : nF = 1 := by have := hO.len.out.2.1; simpa using this
      subst hnF
      match F, hF1 with
      | [X], _ =>
      have hXR : X = R := by have := hO.rt.out; simpa [tr] using this
      subst hXR
      obtain ⟨gF, oF, rfl, hgF, hR⟩ := hO.hs.at0 (by omega)
      have rX := hR 0 X rfl
      have hX32 := hO.hs.l32 X (by simp)
      have hbs := Hid.mk' hO.bs.out
      simp only [Nat.zero_mul, Nat.add_zero] at rX
      have hres := hO.res
      have E := hO.eo
      have hbel := hO.bel
      have hsm := hO.sm
      have hgb := hO.gb gF oF rfl
      have E' : EO (w.heap.size + 1) w.heap.size (wr.drew.setRow w.heap.size (h8 X)) vO es0 := E.row (h8 X)
      clear hO hR
      go_upto_region 13 with fail
      refine wp_region_held_drew (S := fun u => u.rangeAt gF oF (by8 X)) (by kernel_rfl) (by simpa using rX) (fun hHeld => ?_)
      refine wpAnyH_take (i := 0) (oi := ⟨_, _, _, _, _, _⟩) (v := ?_) rfl (by kernel_rfl) (by kernel_rfl) (by kernel_rfl) (fun _ _ _ h => h) (Or.inl ⟨by rfl, ?_⟩) (by assumption) ?_
      rotate_left
      · intro u hSw
        go_simp
        try (with_reducible rfl)
      try simp only [Act.put, List.setIfInBounds_toArray, List.set_cons_zero, List.set_cons_succ]
      refine wpAnyH_take (i := 1) (oi := ⟨_, _, _, _, _, _⟩) (v := ?_) rfl (by kernel_rfl) (by kernel_rfl) (by kernel_rfl) (fun _ _ _ h => h) (Or.inl ⟨by rfl, ?_⟩) (by assumption) ?_
      rotate_left
      · intro u hSw
        go_simp
        try (with_reducible rfl)
      try simp only [Act.put, List.setIfInBounds_toArray, List.set_cons_zero, List.set_cons_succ]
      refine wpAnyH_take (i := 2) (oi := ⟨_, _, _, _, _, _⟩) (v := ?_) rfl (by kernel_rfl) (by kernel_rfl) (by kernel_rfl) (fun _ _ _ h => h) (Or.inl ⟨by rfl, ?_⟩) (by assumption) ?_
      rotate_left
      · intro u hSw
        go_simp
        try (with_reducible rfl)
      try simp only [Act.put, List.setIfInBounds_toArray, List.set_cons_zero, List.set_cons_succ]
      refine wpAnyH_take (i := 3) (oi := ⟨_, _, _, _, _, _⟩) rfl (by kernel_rfl) (by kernel_rfl) (by kernel_rfl) (fun _ _ _ h => h) (y24 (by rfl) (.tmp 44) rfl gF oF rfl X hX32 (fun u hu => hu)) (by assumption) ?_
      try simp only [Act.put, List.setIfInBounds_toArray, List.set_cons_zero, List.set_cons_succ]
      refine wpAnyH_take (i := 4) (oi := ⟨_, _, _, _, _, _⟩) (v := ?_) rfl (by kernel_rfl) (by kernel_rfl) (by kernel_rfl) (fun _ _ _ h => h) (Or.inl ⟨by rfl, ?_⟩) (by assumption) ?_
      rotate_left
      · intro u hSw
        go_simp
        try (with_reducible rfl)
      try simp only [Act.put, List.setIfInBounds_toArray, List.set_cons_zero, List.set_cons_succ]
      refine wpAnyH_ready (rs := [5]) (by kernel_rfl) (by simp) ?_
      refine AllReadyH.cons (o := ⟨_, _, _, _, _, _⟩) rfl (fun K hK => ?_) AllReadyH.nil
      refine step_want rfl (wp_store_row 24 (.tmp 3) (.tmp 45) rfl w.heap.size (h8 X) rfl rfl 24 _ hres (s24h8 hX32) (by rw [h8_size, h8_size, hX32, Z32_len]) (h8_one X) ?_)
      refine hK.out _ _ (range_row rX (by omega)) (fun hHeld => ?_)
      clear hK K
      try simp only [Act.put, List.setIfInBounds_toArray, List.set_cons_zero, List.set_cons_succ]
      refine wpAnyH_done (by kernel_rfl) ?_ _
      go_wp2_with fail
      exact bodyPost_ret (v := .tuple #[vO, .agg (h8 X)]) (pairs_res Try.results62 rfl rfl hX32 (hres.drew.setRow _)) rfl ⟨vO, es0, by rw [hRR.out], E', Hid.mk' (by rw [← hBB.out, ← hbs.out]; simp [prs]), hsm, below_setRow hbel.drew (Nat.le_refl _) _⟩
end Go.Proofs.Ytlebojbfcolkhaa
/- Layer state: many entries appended; two laid. -/
namespace Go.Proofs.Ytlebojbfcolkhaa
set_option linter.unusedSectionVars false
set_option maxHeartbeats 1000000
open Go.RowKit
set_option maxRecDepth 100000
set_option linter.unusedVariables false
set_option linter.unusedSimpArgs false

variable [DecidableEq Ac] [DecidableEq Ou]
theorem flatE_app2 (es fs : List En) : flatE (es ++ fs) = flatE es ++ flatE fs := by simp [flatE]
theorem flatE_of {es : List En} (hl : ∀ e ∈ es, e.sm.length = 32) {j : Nat} {v : Value} (h : (flatE es)[j]? = some v) : ∃ e, es[j / 33]? = some e ∧ e.cells[j % 33]? = some v := by
  have hj := (List.getElem?_eq_some_iff.1 h).1
  rw [flatE_len hl] at hj
  have hd : j / 33 < es.length := by omega
  obtain ⟨X, hX⟩ : ∃ X, es[j / 33]? = some X := ⟨es[j / 33], List.getElem?_eq_getElem hd⟩
  have h32 := En.len (hl X (List.mem_of_getElem? hX))
  have hm : j % 33 < 33 := Nat.mod_lt _ (by omega)
  have hc : j % 33 < X.cells.length := by omega
  have h1 := flatE_at hl hX (List.getElem?_eq_getElem hc)
  rw [Nat.div_add_mod' j 33, h] at h1
  exact ⟨X, hX, by rw [List.getElem?_eq_getElem hc, Option.some.inj h1]⟩
theorem flatE_one (es : List En) : ∀ v ∈ flatE es, v.oneCell' = true := by
  intro v hv
  simp only [flatE, List.mem_flatten, List.mem_map] at hv
  obtain ⟨l, ⟨e, -, rfl⟩, hv⟩ := hv
  exact e.one v hv
theorem wp_appEs {o : Oper} {a : Act} {w : World} {K : Act → World → Prop} {Q : Exit → Act → World → Prop} (s x : Operand) (ho : o.op = .call { callee := .builtin .append, args := #[s, x], argTypes := #[63, 63] })
    (base ax : Nat) (v : Value) (es fs : List En) (hs : a.eval s = v) (hE : EO base ax w v es) (gx ox m c : Nat) (hm : m = fs.length) (hx : a.eval x = .slice (some ⟨gx, ox, none⟩) m c) (hR : ∀ i e, fs[i]? = some e → w.rangeAt gx (ox + i * 33) e.cells) (hF : ∀ e ∈ fs, EnOK w.heap.size w e)
    (hap : ∀ e ∈ fs, ∀ b off, e.sp = some ⟨b, off, none⟩ → base ≤ b ∧ b < w.heap.size ∧ some b ≠ v.ownBlock ∧ b ≠ ax) (hk : es.length ≤ 1000000) (hk2 : m ≤ 1000000) (hbase : base ≤ w.heap.size)
    (h : ∀ v' w', EO base ax w' v' (es ++ fs) → w.grownBy w' v.ownBlock → (v'.ownBlock = v.ownBlock ∨ v'.ownBlock = some w.heap.size) → K (a.put o.dst v') w') : o.wp Try.prog a w K Q := by
  obtain ⟨i0, hi0, hz0, hz1, hz2⟩ := info_parts info54
  have hf32 : ∀ e ∈ fs, e.sm.length = 32 := fun e he => (hF e he).s32
  obtain ⟨v', w', hr, h2, h3, h4, h5⟩ := run_append_own_at (P := Try.prog) w base 63 o.type 77 i0 (.agg (En.arr ⟨none, 0, 0, [], Z32⟩)) 33 56 Try.underlying63 hi0 hz0 hz1 hz2 (En.size (e := ⟨none, 0, 0, [], Z32⟩) Z32_len) (by omega) v es.length _ hE.own ⟨gx, ox, none⟩ m c (flatE fs) (by rw [flatE_len hf32, hm]) (fun j u hj => by
    obtain ⟨e, he, hc⟩ := flatE_of hf32 hj
    rw [Addr.add_mid]
    have := hR _ e he _ u hc
    rw [Nat.add_assoc, Nat.div_add_mod' j 33] at this
    exact this) (flatE_one fs) (by unfold maxLen; omega) (by omega) hbase
  unfold Oper.wp execOp
  simp only [ho, resolve, invoke, builtin, Sem.run_bind, Sem.run_pure, Result.andThen_ok, List.map_toArray, List.map_cons, List.map_nil, hs, hx, hr]
  have hne : ∀ b, b < w.heap.size → some b ≠ v.ownBlock → some b ≠ v'.ownBlock := fun b hb h' e' => by
    rcases h5 with h5 | h5
    · exact h' (e'.trans h5)
    · rw [h5] at e'; have := Option.some.inj e'; omega
  have keep : ∀ f : En, EnOK w.heap.size w f → (∀ b off, f.sp = some ⟨b, off, none⟩ → some b ≠ v.ownBlock) → EnOK w'.heap.size w' f := fun f hf hb => (hf.far h3 (Nat.le_refl _) hb).mono h3.size
  have hz := h3.size
  refine h v' w' ⟨?_, fun f hf => ?_, fun f hf b off hs' => ?_⟩ h3 h5
  · rw [flatE_app2, List.length_append, ← hm]; exact h2
  · rcases List.mem_append.1 hf with hf | hf
    · exact keep f (hE.ok f hf) (fun b off e1 => (hE.ap f hf b off e1).2.2.1)
    · exact keep f (hF f hf) (fun b off e1 => (hap f hf b off e1).2.2.1)
  · rcases List.mem_append.1 hf with hf | hf
    · obtain ⟨a1, a2, a3, a4⟩ := hE.ap f hf b off hs'
      exact ⟨a1, by omega, hne b a2 a3, a4⟩
    · obtain ⟨a1, a2, a3, a4⟩ := hap f hf b off hs'
      exact ⟨a1, by omega, hne b a2 a3, a4⟩
theorem appEs {ops : Array Oper} {rest : List Oper} {o : Oper} {a : Act} {w : World} {Q : Exit → Act → World → Prop} (hgd : o.guard = none) (s x : Operand) (ho : o.op = .call { callee := .builtin .append, args := #[s, x], argTypes := #[63, 63] })
    (base ax : Nat) (v : Value) (es fs : List En) (hs : a.eval s = v) (hE : EO base ax w v es) (gx ox m c : Nat) (hm : m = fs.length) (hx : a.eval x = .slice (some ⟨gx, ox, none⟩) m c) (hR : ∀ i e, fs[i]? = some e → w.rangeAt gx (ox + i * 33) e.cells) (hF : ∀ e ∈ fs, EnOK w.heap.size w e)
    (hap : ∀ e ∈ fs, ∀ b off, e.sp = some ⟨b, off, none⟩ → base ≤ b ∧ b < w.heap.size ∧ some b ≠ v.ownBlock ∧ b ≠ ax) (hk : es.length ≤ 1000000) (hk2 : m ≤ 1000000) (hbase : base ≤ w.heap.size)
    (h : ∀ v' w', EO base ax w' v' (es ++ fs) → w.grownBy w' v.ownBlock → (v'.ownBlock = v.ownBlock ∨ v'.ownBlock = some w.heap.size) → wpList Try.prog ops Q rest (a.put o.dst v') w') : wpList Try.prog ops Q (o :: rest) a w :=
  wpList_plain hgd fun _ hK => wp_appEs s x ho base ax v es fs hs hE gx ox m c hm hx hR hF hap hk hk2 hbase fun v' w' h1 h2 h3 => hK _ _ (h v' w' h1 h2 h3)
/-- Is it this operation? -/
theorem atA {P : Program} {ops : Array Oper} {rest : List Oper} {a : Act} {w : World} {Q : Exit → Act → World → Prop} (x y : Operand) {t u : TypeId} {d} {ty} {pos} {af} {g} (h : wpList P ops Q (⟨d, .call { callee := .builtin .append, args := #[x, y], argTypes := #[t, u] }, ty, pos, af, g⟩ :: rest) a w) : wpList P ops Q (⟨d, .call { callee := .builtin .append, args := #[x, y], argTypes := #[t, u] }, ty, pos, af, g⟩ :: rest) a w := h
theorem atL {P : Program} {ops : Array Oper} {rest : List Oper} {a : Act} {w : World} {Q : Exit → Act → World → Prop} (t : TypeId) (x : Operand) {d} {ty} {pos} {af} {g} (h : wpList P ops Q (⟨d, .load t x, ty, pos, af, g⟩ :: rest) a w) : wpList P ops Q (⟨d, .load t x, ty, pos, af, g⟩ :: rest) a w := h
theorem atS {P : Program} {ops : Array Oper} {rest : List Oper} {a : Act} {w : World} {Q : Exit → Act → World → Prop} (t : TypeId) (x y : Operand) {d} {ty} {pos} {af} {g} (h : wpList P ops Q (⟨d, .store t x y, ty, pos, af, g⟩ :: rest) a w) : wpList P ops Q (⟨d, .store t x y, ty, pos, af, g⟩ :: rest) a w := h
theorem wp_bldE2 {o : Oper} {a : Act} {w : World} {K : Act → World → Prop} {Q : Exit → Act → World → Prop} (x y : Operand) (ho : o.op = .buildSlice 63 2 #[(0, x), (1, y)]) (e f : En) (hx : a.eval x = .agg e.arr) (hy : a.eval y = .agg f.arr) (he : e.sm.length = 32) (hf : f.sm.length = 32)
    (h : K (a.put o.dst (.slice (some ⟨w.heap.size, 0, none⟩) 2 2)) (w.alloc (.cells (flatE [e, f]).toArray 77))) : o.wp Try.prog a w K Q := by
  obtain ⟨i0, hi0, hz0, hz1, hz2⟩ := info_parts info54
  refine wp_buildSlice 63 77 2 _ ho (flatE [e, f]).toArray i0 (.agg (En.arr ⟨none, 0, 0, [], Z32⟩)) Try.underlying63 hi0 hz0 (by rw [hz1]; omega) (by rw [hz1]; omega) ?_ h
  have e1 : (#[(0, x), (1, y)].map fun (p : Nat × Operand) => (p.1, a.eval p.2)).toList = ([Value.agg e.arr, Value.agg f.arr].zipIdx 0).map fun x => (x.2, x.1) := by simp [hx, hy]
  rw [hz1]
  refine Eq.trans (congrArg _ e1) ?_
  rw [Great.fill_whole (s := 33) (by omega) [.agg e.arr, .agg f.arr] _ (fun v hv => by
    simp only [List.mem_cons, List.mem_nil_iff, or_false] at hv
    rcases hv with rfl | rfl
    · exact En.size he
    · exact En.size hf) (by simp)]
  simp [Value.cells, En.arr, flatE]
theorem lit2_range {w : World} {g : Nat} {e f : En} (h : Arr w g 77 (flatE [e, f]).toArray) (he : e.sm.length = 32) (hf : f.sm.length = 32) : ∀ i x, [e, f][i]? = some x → w.rangeAt g (0 + i * 33) x.cells := fun i x hx j v hv => by
  have h32 : ∀ y ∈ [e, f], y.sm.length = 32 := fun y hy => by
    simp only [List.mem_cons, List.mem_nil_iff, or_false] at hy
    rcases hy with rfl | rfl
    · exact he
    · exact hf
  rw [Nat.zero_add, h.cell]
  have := flatE_at h32 hx hv
  simpa using this
/-- A slice of entries of the call's own as one to be read. -/
theorem EO.sl1 {base ax : Nat} {w : World} {v : Value} {es : List En} (h : EO base ax w v es) (h0 : 0 < es.length) : ∃ g cap, v = .slice (some ⟨g, 0, none⟩) es.length cap ∧ base ≤ g ∧ g < w.heap.size ∧ ∀ i e, es[i]? = some e → w.rangeAt g (0 + i * 33) e.cells := by
  obtain ⟨-, h' | ⟨g, cap, cur, rfl, hg, hh, hnc, hcm, hc, ht⟩⟩ := h.own
  · obtain ⟨-, h'⟩ := h'; omega
  · refine ⟨g, cap, rfl, hg, (Array.getElem?_eq_some_iff.1 hh).1, fun i e he j u hu => ?_⟩
    have hi := (List.getElem?_eq_some_iff.1 he).1
    have hj : j < 33 := by
      have := (List.getElem?_eq_some_iff.1 hu).1
      rw [En.len (h.s32 e (List.mem_of_getElem? he))] at this; exact this
    rw [Nat.zero_add, cell_of_row w g _ cur 77 (0, 0) hh, ← Array.getElem?_toList, ← List.getElem?_take_of_lt (show i * 33 + j < es.length * 33 by omega), ht]
    exact flatE_at h.s32 he hu
end Go.Proofs.Ytlebojbfcolkhaa
