/- Pg, Ph, Pi. -/
import Derived.Test.YtoopgppahfnncaaDoorX06
import Derived.LoopNIn
import Derived.LoopIn
import Derived.LoopTactic
/- Layer ir: the document's text of a statement, drawn. -/
namespace Go.Proofs.YtoopgppahfnncaaDoor
open Go.Shelf Go.RowKit Go.Sort
set_option maxRecDepth 100000
set_option linter.unusedVariables false
set_option linter.unusedSimpArgs false

theorem tq4 {P : Program} {ops : Array Oper} {Q : Exit → Act → World → Prop} {md : Region.Mode} {S : World → Prop} (i : Nat) {dst : Option Tmp} {op : Op} {ty : TypeId} {pos : String} {af : Array Edge} {gd : Option (Nat × Bool)} {v : Value} {fuel : Nat} {listed : Array Bool} {a a' : Act} {w : World} (hi : ops[i]? = some ⟨dst, op, ty, pos, af, gd⟩)
    (h : wpAnyH P md ops Q S fuel (listed.setIfInBounds i true) a' w)
    (hs : Region.noSelect ops = true := by kernel_rfl) (hf : Region.free md ops listed i = true := by kernel_rfl) (hr : (Region.ready md ops listed).contains i = true := by kernel_rfl)
    (hw : Region.wanted ⟨dst, op, ty, pos, af, gd⟩ (yielded ops a.tmps) = true := by rfl)
    (hy : ∀ u, S u → (execOp a.eval ⟨dst, op, ty, pos, af, gd⟩).run P u = .ok (.value v) u := by (intro u hSw; obtain ⟨s0, s1, s2, s3⟩ := hSw; go_simp; try (with_reducible rfl)))
    (hQ : ∀ c a w, Q (.panic c) (a.put dst v) w → Q (.panic c) a w := by exact fun _ _ _ h => h)
    (ha : a.put dst v = a' := by (conv => (lhs; try simp only [Act.put, List.setIfInBounds_toArray, List.set_cons_zero, List.set_cons_succ])); (try rfl)) (hS : S w := by assumption) : wpAnyH P md ops Q S (fuel + 1) listed a w :=
  wpAnyH_take hi hs hf hr hQ (Or.inl ⟨hw, hy⟩) hS (by rw [ha]; exact h)
theorem tq9 {P : Program} {ops : Array Oper} {Q : Exit → Act → World → Prop} {md : Region.Mode} {S : World → Prop} (i : Nat) {dst : Option Tmp} {op : Op} {ty : TypeId} {pos : String} {af : Array Edge} {gd : Option (Nat × Bool)} {v : Value} {fuel : Nat} {listed : Array Bool} {a a' : Act} {w : World} (hi : ops[i]? = some ⟨dst, op, ty, pos, af, gd⟩)
    (h : wpAnyH P md ops Q S fuel (listed.setIfInBounds i true) a' w)
    (hs : Region.noSelect ops = true := by kernel_rfl) (hf : Region.free md ops listed i = true := by kernel_rfl) (hr : (Region.ready md ops listed).contains i = true := by kernel_rfl)
    (hw : Region.wanted ⟨dst, op, ty, pos, af, gd⟩ (yielded ops a.tmps) = true := by rfl)
    (hy : ∀ u, S u → (execOp a.eval ⟨dst, op, ty, pos, af, gd⟩).run P u = .ok (.value v) u := by (intro u hSw; obtain ⟨s0, s1, s2, s3, s4, s5, s6, s7, s8⟩ := hSw; go_simp; try (with_reducible rfl)))
    (hQ : ∀ c a w, Q (.panic c) (a.put dst v) w → Q (.panic c) a w := by exact fun _ _ _ h => h)
    (ha : a.put dst v = a' := by (conv => (lhs; try simp only [Act.put, List.setIfInBounds_toArray, List.set_cons_zero, List.set_cons_succ])); (try rfl)) (hS : S w := by assumption) : wpAnyH P md ops Q S (fuel + 1) listed a w :=
  wpAnyH_take hi hs hf hr hQ (Or.inl ⟨hw, hy⟩) hS (by rw [ha]; exact h)
theorem tq14 {P : Program} {ops : Array Oper} {Q : Exit → Act → World → Prop} {md : Region.Mode} {S : World → Prop} (i : Nat) {dst : Option Tmp} {op : Op} {ty : TypeId} {pos : String} {af : Array Edge} {gd : Option (Nat × Bool)} {v : Value} {fuel : Nat} {listed : Array Bool} {a a' : Act} {w : World} (hi : ops[i]? = some ⟨dst, op, ty, pos, af, gd⟩)
    (h : wpAnyH P md ops Q S fuel (listed.setIfInBounds i true) a' w)
    (hs : Region.noSelect ops = true := by kernel_rfl) (hf : Region.free md ops listed i = true := by kernel_rfl) (hr : (Region.ready md ops listed).contains i = true := by kernel_rfl)
    (hw : Region.wanted ⟨dst, op, ty, pos, af, gd⟩ (yielded ops a.tmps) = true := by rfl)
    (hy : ∀ u, S u → (execOp a.eval ⟨dst, op, ty, pos, af, gd⟩).run P u = .ok (.value v) u := by (intro u hSw; obtain ⟨s0, s1, s2, s3, s4, s5, s6, s7, s8, s9, s10, s11, s12, s13⟩ := hSw; go_simp; try (with_reducible rfl)))
    (hQ : ∀ c a w, Q (.panic c) (a.put dst v) w → Q (.panic c) a w := by exact fun _ _ _ h => h)
    (ha : a.put dst v = a' := by (conv => (lhs; try simp only [Act.put, List.setIfInBounds_toArray, List.set_cons_zero, List.set_cons_succ])); (try rfl)) (hS : S w := by assumption) : wpAnyH P md ops Q S (fuel + 1) listed a w :=
  wpAnyH_take hi hs hf hr hQ (Or.inl ⟨hw, hy⟩) hS (by rw [ha]; exact h)
def DLx (N : Nat) (vs : Int) (d : Nat) : Prop := ∀ (w : World) {sp : Option Addr} {n cap : Nat} {l : List (StT d)}, RS N w 7 (StM N w d) sp n cap l → (∀ a ∈ l, okS vs d a) → N ≤ w.heap.size → Tb w → (sL d l).length ≤ 1000000000 →
  Calls Tryd.prog 23 #[.slice sp n cap] w (TxP (sL d l) w)
set_option maxHeartbeats 4000000 in
theorem dst_7 {N d : Nat} {vs : Int} (w : World) (cs : List Value) (st : StT (d + 1)) (hN : N ≤ w.heap.size) (hT : Tb w) (hM : StM N w (d + 1) cs st) (hok : okS vs (d + 1) st) (hk : st.nd.k = 7) (hlen : (sT (d + 1) st).length ≤ 1000000000) :
    Calls Tryd.prog 33 #[.agg cs.toArray] w (TxP (sT (d + 1) st) w) := by
  obtain ⟨⟨ps, hm⟩, hsok, ha400, hA, hTh, hEl⟩ := hok
  obtain ⟨sa, na, ca, sb, nb, cb, sc, nc, cc, rfl, -, hSa, hSb, hSc⟩ := hM
  have hnl := hSa.len
  have hs : sT (d + 1) st = sTn (sT d) st.nd := rfl
  rw [hs] at hlen ⊢
  clear hs
  obtain ⟨⟨k, v, f, tg, a, th, el⟩, ht⟩ : ∃ q : StN (StT d), q = st.nd := ⟨_, rfl⟩
  rw [← ht] at hm hsok ha400 hA hTh hEl hSa hSb hSc hnl hlen hk ⊢
  clear ht
  have hk' : k = 7 := hk
  subst hk'
  clear hk
  have hv64 : I64 v := hsok.v
  have ht64 : I64 tg := hsok.t
  have hf64 : I64 f := hsok.f
  replace hnl : Hid (na = a.length) := hnl
  replace hA : ∀ q ∈ a, okT vs 8 q := hA
  replace hTh : ∀ q ∈ th, okS vs d q := hTh
  replace hEl : ∀ q ∈ el, okS vs d q := hEl
  replace hSa : RS N w 5 (ExM N w 8) sa na ca a := hSa
  replace hSb : RS N w 7 (StM N w d) sb nb cb th := hSb
  replace hSc : RS N w 7 (StM N w d) sc nc cc el := hSc
  have hal : a.length = 3 := by
    unfold mayS at hm
    simp at hm
    omega
  match a, hal, hnl, hA, hSa, hlen with
  | [x, y, z], hal, hnl, hA, hSa, hlen =>
    have hna : na = 3 := hnl.out
    subst hna
    have hres : sTn (sT d) (⟨7, v, f, tg, [x, y, z], th, el⟩ : StN (StT d)) = ln [[104, 97, 115, 104], Lib.itoa tg, xT 8 x, xT 8 y, xT 8 z] := rfl
    rw [hres] at hlen ⊢
    clear hres hsok hm
    have b0 := ab w (.cells #[.int .u8 7, .int .i64 v, .int .i64 f, .int .i64 tg, .slice sa 3 ca, .slice sb nb cb, .slice sc nc cc] 66)
    have A := Arr.new w 66 #[.int .u8 7, .int .i64 v, .int .i64 f, .int .i64 tg, .slice sa 3 ca, .slice sb nb cb, .slice sc nc cc]
    have htU := hT.bl b0
    have hi1 := itoa_any v _ hv64 htU
    have hvl := itoa_len v hv64
    rw [← tx_size] at hvl
    have a0 := A.cell 0
    have a1 := A.cell 1
    have a4 := A.cell 4
    show Calls Tryd.prog 33 #[.agg #[.int .u8 7, .int .i64 v, .int .i64 f, .int .i64 tg, .slice sa 3 ca, .slice sb nb cb, .slice sc nc cc]] w _
    have lR : (tx (jr (xT 8) [32] [x, y, z] 0 [])).size ≤ 100000 := by
      rw [tx_size]
      have lx := xT_len vs 8 x (hA x (by simp))
      have ly := xT_len vs 8 y (hA y (by simp))
      have lz := xT_len vs 8 z (hA z (by simp))
      simp only [jr, List.length_append, List.length_cons, List.length_nil]
      simp
      omega
    have hrf : ∀ u, Below N w u → Tb u → Calls Tryd.prog 47 #[.slice sa 3 ca, .string ⟨#[32]⟩] u (TxP (jr (xT 8) [32] [x, y, z] 0 []) u) := fun u hb hTu => row_any [32] (by omega) (by simp) u (hSa.imp hb (ExM.below hb 8)) hA (Nat.le_trans hN hb.size) hTu
    have htf : ∀ u, Tb u → Calls Tryd.prog 20 #[.int .i64 tg] u (TxP (Lib.itoa tg) u) := fun u hTu => itoa_any tg u ht64 hTu
    have lG := itoa_len tg ht64
    rw [← tx_size] at lG
    have he : tx (ln [[104, 97, 115, 104], Lib.itoa tg, xT 8 x, xT 8 y, xT 8 z]) = ⟨#[104, 97, 115, 104, 32]⟩ ++ tx (Lib.itoa tg) ++ ⟨#[32]⟩ ++ tx (jr (xT 8) [32] [x, y, z] 0 []) ++ ⟨#[10]⟩ := by
      have e : ln [[104, 97, 115, 104], Lib.itoa tg, xT 8 x, xT 8 y, xT 8 z] = [104, 97, 115, 104, 32] ++ (Lib.itoa tg) ++ [32] ++ (jr (xT 8) [32] [x, y, z] 0 []) ++ [10] := by simp [ln, Lib.join_cons, Lib.joinTail, vT, jr]
      rw [e]
      simp only [← tx_app]
      rfl
    unfold TxP at *
    rw [he]
    clear he
    generalize tx (Lib.itoa v) = sV at *
    generalize tx (jr (xT 8) [32] [x, y, z] 0 []) = sR at *
    generalize tx (Lib.itoa tg) = sG at *
    have p1 : ¬ 9223372036854775807 < 1 + sV.size := by omega
    have p2 : ¬ 9223372036854775807 < 1 + sV.size + 3 := by omega
    have q1 : ¬ 9223372036854775807 < 5 + sG.size := by omega
    have q2 : ¬ 9223372036854775807 < 5 + sG.size + 1 := by omega
    have q3 : ¬ 9223372036854775807 < 5 + sG.size + 1 + sR.size := by omega
    have q4 : ¬ 9223372036854775807 < 5 + sG.size + 1 + sR.size + 1 := by omega
    have hrgs := hid (True.intro)
    clear hSa hSb hSc hA hTh hEl hnl hal ha400 hlen hvl
    go_enter Tryd.func33, Tryd.ntmps33
    go_upto_region 19 with (first
      | (go_at_call 20; go_must (refine hi1.mono ?_; rintro e w1 ⟨rfl, hb1⟩; have A1 := A.bl hb1; have k0 := A1.cell 0; have k4 := A1.cell 4; have hT1 := htU.bl hb1; have hB1 := b0.trans (hb1.mono b0.size); have hBN := hB1.mono hN; have k3 := A1.cell 3; have k5 := A1.cell 5; have k6 := A1.cell 6)))
    have hwl : w.heap.size < w1.heap.size := A1.lt
    have hS0 : ∀ u, Below w1.heap.size w1 u → u.cell? ⟨w.heap.size, 3, none⟩ = some (.int .i64 tg) ∧ u.cell? ⟨w.heap.size, 4, none⟩ = some (.slice sa 3 ca) ∧ u.cell? ⟨w.heap.size, 5, none⟩ = some (.slice sb nb cb) ∧ u.cell? ⟨w.heap.size, 6, none⟩ = some (.slice sc nc cc) := fun u hb => ⟨(hb.cell hwl).trans k3, (hb.cell hwl).trans k4, (hb.cell hwl).trans k5, (hb.cell hwl).trans k6⟩
    have hD0 : Below w1.heap.size w1 w1.drew := (Below.refl _ _).drew
    have hBD0 := hBN.trans (hD0.mono (by have := hBN.size; omega))
    refine rgn (fun u => u.cell? ⟨w.heap.size, 3, none⟩ = some (.int .i64 tg) ∧ u.cell? ⟨w.heap.size, 4, none⟩ = some (.slice sa 3 ca) ∧ u.cell? ⟨w.heap.size, 5, none⟩ = some (.slice sb nb cb) ∧ u.cell? ⟨w.heap.size, 6, none⟩ = some (.slice sc nc cc)) (hS0 _ hD0) (fun hSw => ?_)
    refine tq4 0 rfl ?_
    refine tq4 1 rfl ?_
    refine tq4 5 rfl ?_
    refine tq4 6 rfl ?_
    refine rd 2 rfl (fun K hK => ?_)
    go_simp
    refine (htf _ (hT1.bl hD0)).mono ?_
    rintro e w2 ⟨rfl, hb2⟩
    have hW2 := hD0.trans (hb2.mono hD0.size)
    go_wp2_with fail
    refine hK.out _ _ (hS0 _ hW2) (fun hSv2 => ?_)
    clear hK K
    try simp only [Act.put, List.setIfInBounds_toArray, List.set_cons_zero, List.set_cons_succ]
    refine tq4 3 rfl ?_
    refine tq4 4 rfl ?_
    refine rd 7 rfl (fun K hK => ?_)
    go_simp
    refine (hrf _ (hBN.trans (hW2.mono (Nat.le_trans hN hB1.size))) (hT1.bl hW2)).mono ?_
    rintro e w3 ⟨rfl, hb3⟩
    have hW3 := hW2.trans (hb3.mono hW2.size)
    go_wp2_with fail
    refine hK.out _ _ (hS0 _ hW3) (fun hSv3 => ?_)
    clear hK K
    try simp only [Act.put, List.setIfInBounds_toArray, List.set_cons_zero, List.set_cons_succ]
    refine tq4 8 rfl ?_
    refine tq4 9 rfl ?_
    refine tq4 10 rfl ?_
    refine dn ?_
    go_wp2_with fail
    go_ret
    exact ⟨rfl, hB1.trans (hW3.mono hB1.size)⟩
set_option maxHeartbeats 4000000 in
theorem dst_2 {N d : Nat} {vs : Int} (w : World) (cs : List Value) (st : StT (d + 1)) (hN : N ≤ w.heap.size) (hT : Tb w) (hM : StM N w (d + 1) cs st) (hok : okS vs (d + 1) st) (hk : st.nd.k = 2) (hlen : (sT (d + 1) st).length ≤ 1000000000) :
    Calls Tryd.prog 33 #[.agg cs.toArray] w (TxP (sT (d + 1) st) w) := by
  obtain ⟨⟨ps, hm⟩, hsok, ha400, hA, hTh, hEl⟩ := hok
  obtain ⟨sa, na, ca, sb, nb, cb, sc, nc, cc, rfl, -, hSa, hSb, hSc⟩ := hM
  have hnl := hSa.len
  have hs : sT (d + 1) st = sTn (sT d) st.nd := rfl
  rw [hs] at hlen ⊢
  clear hs
  obtain ⟨⟨k, v, f, tg, a, th, el⟩, ht⟩ : ∃ q : StN (StT d), q = st.nd := ⟨_, rfl⟩
  rw [← ht] at hm hsok ha400 hA hTh hEl hSa hSb hSc hnl hlen hk ⊢
  clear ht
  have hk' : k = 2 := hk
  subst hk'
  clear hk
  have hv64 : I64 v := hsok.v
  have ht64 : I64 tg := hsok.t
  have hf64 : I64 f := hsok.f
  replace hnl : Hid (na = a.length) := hnl
  replace hA : ∀ q ∈ a, okT vs 8 q := hA
  replace hTh : ∀ q ∈ th, okS vs d q := hTh
  replace hEl : ∀ q ∈ el, okS vs d q := hEl
  replace hSa : RS N w 5 (ExM N w 8) sa na ca a := hSa
  replace hSb : RS N w 7 (StM N w d) sb nb cb th := hSb
  replace hSc : RS N w 7 (StM N w d) sc nc cc el := hSc
  have hal : a.length = 2 := by
    unfold mayS at hm
    simp at hm
    omega
  match a, hal, hnl, hA, hSa, hlen with
  | [x, y], hal, hnl, hA, hSa, hlen =>
    have hna : na = 2 := hnl.out
    subst hna
    have hres : sTn (sT d) (⟨2, v, f, tg, [x, y], th, el⟩ : StN (StT d)) = ln [[91], xT 8 x, [93], [61], xT 8 y] := rfl
    rw [hres] at hlen ⊢
    clear hres hsok hm
    have b0 := ab w (.cells #[.int .u8 2, .int .i64 v, .int .i64 f, .int .i64 tg, .slice sa 2 ca, .slice sb nb cb, .slice sc nc cc] 66)
    have A := Arr.new w 66 #[.int .u8 2, .int .i64 v, .int .i64 f, .int .i64 tg, .slice sa 2 ca, .slice sb nb cb, .slice sc nc cc]
    have htU := hT.bl b0
    have hi1 := itoa_any v _ hv64 htU
    have hvl := itoa_len v hv64
    rw [← tx_size] at hvl
    have a0 := A.cell 0
    have a1 := A.cell 1
    have a4 := A.cell 4
    show Calls Tryd.prog 33 #[.agg #[.int .u8 2, .int .i64 v, .int .i64 f, .int .i64 tg, .slice sa 2 ca, .slice sb nb cb, .slice sc nc cc]] w _
    obtain ⟨g, off, rfl, hg, hR⟩ := hSa.at0 (by omega)
    obtain ⟨cs0, hrg0, hM0⟩ := hR 0 x rfl
    obtain ⟨ek, en, ev, eo, es, em, ec, rfl⟩ := hM0.cells
    have lX := xT_len vs 8 x (hA x (by simp))
    have hxf : ∀ u, Below N w u → Tb u → Calls Tryd.prog 46 #[.agg (exC ek en ev eo (.slice es em ec)).toArray] u (TxP (xT 8 x) u) := fun u hb hTu => dtx_any N vs 8 (by omega) u _ x (Nat.le_trans hN hb.size) hTu (ExM.below hb 8 _ x hM0) (hA x (by simp))
    rw [← tx_size] at lX
    obtain ⟨cs1, hrg1, hM1⟩ := hR 1 y rfl
    obtain ⟨fk, fn, fv, fo, fs, fm, fc, rfl⟩ := hM1.cells
    have lY := xT_len vs 8 y (hA y (by simp))
    have hyf : ∀ u, Below N w u → Tb u → Calls Tryd.prog 46 #[.agg (exC fk fn fv fo (.slice fs fm fc)).toArray] u (TxP (xT 8 y) u) := fun u hb hTu => dtx_any N vs 8 (by omega) u _ y (Nat.le_trans hN hb.size) hTu (ExM.below hb 8 _ y hM1) (hA y (by simp))
    rw [← tx_size] at lY
    have he : tx (ln [[91], xT 8 x, [93], [61], xT 8 y]) = ⟨#[91, 32]⟩ ++ tx (xT 8 x) ++ ⟨#[32, 93, 32, 61, 32]⟩ ++ tx (xT 8 y) ++ ⟨#[10]⟩ := by
      have e : ln [[91], xT 8 x, [93], [61], xT 8 y] = [91, 32] ++ (xT 8 x) ++ [32, 93, 32, 61, 32] ++ (xT 8 y) ++ [10] := by simp [ln, Lib.join_cons, Lib.joinTail, vT, jr]
      rw [e]
      simp only [← tx_app]
      rfl
    unfold TxP at *
    rw [he]
    clear he
    generalize tx (Lib.itoa v) = sV at *
    generalize tx (xT 8 x) = sX at *
    generalize tx (xT 8 y) = sY at *
    have p1 : ¬ 9223372036854775807 < 1 + sV.size := by omega
    have p2 : ¬ 9223372036854775807 < 1 + sV.size + 3 := by omega
    have q1 : ¬ 9223372036854775807 < 2 + sX.size := by omega
    have q2 : ¬ 9223372036854775807 < 2 + sX.size + 5 := by omega
    have q3 : ¬ 9223372036854775807 < 2 + sX.size + 5 + sY.size := by omega
    have q4 : ¬ 9223372036854775807 < 2 + sX.size + 5 + sY.size + 1 := by omega
    have hrgs := hid (True.intro)
    clear hSa hSb hSc hA hTh hEl hnl hal ha400 hlen hvl hR
    unfold exC at *
    go_enter Tryd.func33, Tryd.ntmps33
    go_upto_region 6 with (first
      | (go_at_call 20; go_must (refine hi1.mono ?_; rintro e w1 ⟨rfl, hb1⟩; have A1 := A.bl hb1; have k0 := A1.cell 0; have k4 := A1.cell 4; have hT1 := htU.bl hb1; have hB1 := b0.trans (hb1.mono b0.size); have hBN := hB1.mono hN; have k3 := A1.cell 3; have k5 := A1.cell 5; have k6 := A1.cell 6; have hrr0 := rb hrg0 hBN hg; have e0 := hrr0 0 _ rfl; have e1 := hrr0 1 _ rfl; have e2 := hrr0 2 _ rfl; have e3 := hrr0 3 _ rfl; have e4 := hrr0 4 _ rfl; simp only [Nat.zero_mul, Nat.one_mul, Nat.add_zero] at e0 e1 e2 e3 e4; have hrr1 := rb hrg1 hBN hg; have f0 := hrr1 0 _ rfl; have f1 := hrr1 1 _ rfl; have f2 := hrr1 2 _ rfl; have f3 := hrr1 3 _ rfl; have f4 := hrr1 4 _ rfl; simp only [Nat.zero_mul, Nat.one_mul, Nat.add_zero] at f0 f1 f2 f3 f4)))
    have hwl : w.heap.size < w1.heap.size := A1.lt
    have hgl : g < w1.heap.size := block_lt_of_cell e0
    have hS0 : ∀ u, Below w1.heap.size w1 u → u.cell? ⟨w.heap.size, 3, none⟩ = some (.int .i64 tg) ∧ u.cell? ⟨w.heap.size, 4, none⟩ = some (.slice (some ⟨g, off, none⟩) 2 ca) ∧ u.cell? ⟨w.heap.size, 5, none⟩ = some (.slice sb nb cb) ∧ u.cell? ⟨w.heap.size, 6, none⟩ = some (.slice sc nc cc) ∧ u.cell? ⟨g, off, none⟩ = some (.int .u8 ek) ∧ u.cell? ⟨g, off + 1, none⟩ = some (.int .u64 en) ∧ u.cell? ⟨g, off + 2, none⟩ = some (.int .i64 ev) ∧ u.cell? ⟨g, off + 3, none⟩ = some (.int .u8 eo) ∧ u.cell? ⟨g, off + 4, none⟩ = some (.slice es em ec) ∧ u.cell? ⟨g, off + 5, none⟩ = some (.int .u8 fk) ∧ u.cell? ⟨g, off + 5 + 1, none⟩ = some (.int .u64 fn) ∧ u.cell? ⟨g, off + 5 + 2, none⟩ = some (.int .i64 fv) ∧ u.cell? ⟨g, off + 5 + 3, none⟩ = some (.int .u8 fo) ∧ u.cell? ⟨g, off + 5 + 4, none⟩ = some (.slice fs fm fc) := fun u hb => ⟨(hb.cell hwl).trans k3, (hb.cell hwl).trans k4, (hb.cell hwl).trans k5, (hb.cell hwl).trans k6, (hb.cell hgl).trans e0, (hb.cell hgl).trans e1, (hb.cell hgl).trans e2, (hb.cell hgl).trans e3, (hb.cell hgl).trans e4, (hb.cell hgl).trans f0, (hb.cell hgl).trans f1, (hb.cell hgl).trans f2, (hb.cell hgl).trans f3, (hb.cell hgl).trans f4⟩
    have hD0 : Below w1.heap.size w1 w1.drew := (Below.refl _ _).drew
    have hBD0 := hBN.trans (hD0.mono (by have := hBN.size; omega))
    refine rgn (fun u => u.cell? ⟨w.heap.size, 3, none⟩ = some (.int .i64 tg) ∧ u.cell? ⟨w.heap.size, 4, none⟩ = some (.slice (some ⟨g, off, none⟩) 2 ca) ∧ u.cell? ⟨w.heap.size, 5, none⟩ = some (.slice sb nb cb) ∧ u.cell? ⟨w.heap.size, 6, none⟩ = some (.slice sc nc cc) ∧ u.cell? ⟨g, off, none⟩ = some (.int .u8 ek) ∧ u.cell? ⟨g, off + 1, none⟩ = some (.int .u64 en) ∧ u.cell? ⟨g, off + 2, none⟩ = some (.int .i64 ev) ∧ u.cell? ⟨g, off + 3, none⟩ = some (.int .u8 eo) ∧ u.cell? ⟨g, off + 4, none⟩ = some (.slice es em ec) ∧ u.cell? ⟨g, off + 5, none⟩ = some (.int .u8 fk) ∧ u.cell? ⟨g, off + 5 + 1, none⟩ = some (.int .u64 fn) ∧ u.cell? ⟨g, off + 5 + 2, none⟩ = some (.int .i64 fv) ∧ u.cell? ⟨g, off + 5 + 3, none⟩ = some (.int .u8 fo) ∧ u.cell? ⟨g, off + 5 + 4, none⟩ = some (.slice fs fm fc)) (hS0 _ hD0) (fun hSw => ?_)
    refine tq14 0 rfl ?_
    refine tq14 1 rfl ?_
    refine tq14 2 rfl ?_
    refine tq14 3 rfl ?_
    refine tq14 7 rfl ?_
    refine tq14 8 rfl ?_
    refine tq14 9 rfl ?_
    refine tq14 10 rfl ?_
    refine rd 4 rfl (fun K hK => ?_)
    go_simp
    refine (hxf _ (hBN.trans (hD0.mono (Nat.le_trans hN hB1.size))) (hT1.bl hD0)).mono ?_
    rintro e w2 ⟨rfl, hb2⟩
    have hW2 := hD0.trans (hb2.mono hD0.size)
    go_wp2_with fail
    refine hK.out _ _ (hS0 _ hW2) (fun hSv2 => ?_)
    clear hK K
    try simp only [Act.put, List.setIfInBounds_toArray, List.set_cons_zero, List.set_cons_succ]
    refine tq14 5 rfl ?_
    refine tq14 6 rfl ?_
    refine rd 11 rfl (fun K hK => ?_)
    go_simp
    refine (hyf _ (hBN.trans (hW2.mono (Nat.le_trans hN hB1.size))) (hT1.bl hW2)).mono ?_
    rintro e w3 ⟨rfl, hb3⟩
    have hW3 := hW2.trans (hb3.mono hW2.size)
    go_wp2_with fail
    refine hK.out _ _ (hS0 _ hW3) (fun hSv3 => ?_)
    clear hK K
    try simp only [Act.put, List.setIfInBounds_toArray, List.set_cons_zero, List.set_cons_succ]
    refine tq14 12 rfl ?_
    refine tq14 13 rfl ?_
    refine tq14 14 rfl ?_
    refine dn ?_
    go_wp2_with fail
    go_ret
    exact ⟨rfl, hB1.trans (hW3.mono hB1.size)⟩
set_option maxHeartbeats 4000000 in
theorem dst_4 {N d : Nat} {vs : Int} (w : World) (cs : List Value) (st : StT (d + 1)) (hN : N ≤ w.heap.size) (hT : Tb w) (hM : StM N w (d + 1) cs st) (hok : okS vs (d + 1) st) (hk : st.nd.k = 4) (hlen : (sT (d + 1) st).length ≤ 1000000000) (hE : DLx N vs d) :
    Calls Tryd.prog 33 #[.agg cs.toArray] w (TxP (sT (d + 1) st) w) := by
  obtain ⟨⟨ps, hm⟩, hsok, ha400, hA, hTh, hEl⟩ := hok
  obtain ⟨sa, na, ca, sb, nb, cb, sc, nc, cc, rfl, -, hSa, hSb, hSc⟩ := hM
  have hnl := hSa.len
  have hs : sT (d + 1) st = sTn (sT d) st.nd := rfl
  rw [hs] at hlen ⊢
  clear hs
  obtain ⟨⟨k, v, f, tg, a, th, el⟩, ht⟩ : ∃ q : StN (StT d), q = st.nd := ⟨_, rfl⟩
  rw [← ht] at hm hsok ha400 hA hTh hEl hSa hSb hSc hnl hlen hk ⊢
  clear ht
  have hk' : k = 4 := hk
  subst hk'
  clear hk
  have hv64 : I64 v := hsok.v
  have ht64 : I64 tg := hsok.t
  have hf64 : I64 f := hsok.f
  replace hnl : Hid (na = a.length) := hnl
  replace hA : ∀ q ∈ a, okT vs 8 q := hA
  replace hTh : ∀ q ∈ th, okS vs d q := hTh
  replace hEl : ∀ q ∈ el, okS vs d q := hEl
  replace hSa : RS N w 5 (ExM N w 8) sa na ca a := hSa
  replace hSb : RS N w 7 (StM N w d) sb nb cb th := hSb
  replace hSc : RS N w 7 (StM N w d) sc nc cc el := hSc
  have hal : a.length = 1 := by
    unfold mayS at hm
    simp at hm
    omega
  match a, hal, hnl, hA, hSa, hlen with
  | [x], hal, hnl, hA, hSa, hlen =>
    have hna : na = 1 := hnl.out
    subst hna
    have hres : sTn (sT d) (⟨4, v, f, tg, [x], th, el⟩ : StN (StT d)) = ln [[119, 104, 105, 108, 101], xT 8 x] ++ sL d th ++ ln [[101, 110, 100]] := rfl
    rw [hres] at hlen ⊢
    clear hres hsok hm
    have b0 := ab w (.cells #[.int .u8 4, .int .i64 v, .int .i64 f, .int .i64 tg, .slice sa 1 ca, .slice sb nb cb, .slice sc nc cc] 66)
    have A := Arr.new w 66 #[.int .u8 4, .int .i64 v, .int .i64 f, .int .i64 tg, .slice sa 1 ca, .slice sb nb cb, .slice sc nc cc]
    have htU := hT.bl b0
    have hi1 := itoa_any v _ hv64 htU
    have hvl := itoa_len v hv64
    rw [← tx_size] at hvl
    have a0 := A.cell 0
    have a1 := A.cell 1
    have a4 := A.cell 4
    show Calls Tryd.prog 33 #[.agg #[.int .u8 4, .int .i64 v, .int .i64 f, .int .i64 tg, .slice sa 1 ca, .slice sb nb cb, .slice sc nc cc]] w _
    obtain ⟨g, off, rfl, hg, hR⟩ := hSa.at0 (by omega)
    obtain ⟨cs0, hrg0, hM0⟩ := hR 0 x rfl
    obtain ⟨ek, en, ev, eo, es, em, ec, rfl⟩ := hM0.cells
    have lX := xT_len vs 8 x (hA x (by simp))
    have hxf : ∀ u, Below N w u → Tb u → Calls Tryd.prog 46 #[.agg (exC ek en ev eo (.slice es em ec)).toArray] u (TxP (xT 8 x) u) := fun u hb hTu => dtx_any N vs 8 (by omega) u _ x (Nat.le_trans hN hb.size) hTu (ExM.below hb 8 _ x hM0) (hA x (by simp))
    rw [← tx_size] at lX
    have lB : (tx (sL d th)).size ≤ 1000000000 := by rw [tx_size]; simp only [List.length_append] at hlen; omega
    have hbf : ∀ u, Below N w u → Tb u → Calls Tryd.prog 23 #[.slice sb nb cb] u (TxP (sL d th) u) := fun u hb hTu => hE u (hSb.imp hb (StM.below hb d)) hTh (Nat.le_trans hN hb.size) hTu (by rw [← tx_size]; exact lB)
    have he : tx (ln [[119, 104, 105, 108, 101], xT 8 x] ++ sL d th ++ ln [[101, 110, 100]]) = ⟨#[119, 104, 105, 108, 101, 32]⟩ ++ tx (xT 8 x) ++ ⟨#[10]⟩ ++ tx (sL d th) ++ ⟨#[101, 110, 100, 10]⟩ := by
      have e : ln [[119, 104, 105, 108, 101], xT 8 x] ++ sL d th ++ ln [[101, 110, 100]] = [119, 104, 105, 108, 101, 32] ++ (xT 8 x) ++ [10] ++ (sL d th) ++ [101, 110, 100, 10] := by simp [ln, Lib.join_cons, Lib.joinTail, vT, jr]
      rw [e]
      simp only [← tx_app]
      rfl
    unfold TxP at *
    rw [he]
    clear he
    generalize tx (Lib.itoa v) = sV at *
    generalize tx (xT 8 x) = sX at *
    generalize tx (sL d th) = sB at *
    have p1 : ¬ 9223372036854775807 < 1 + sV.size := by omega
    have p2 : ¬ 9223372036854775807 < 1 + sV.size + 3 := by omega
    have q1 : ¬ 9223372036854775807 < 6 + sX.size := by omega
    have q2 : ¬ 9223372036854775807 < 6 + sX.size + 1 := by omega
    have q3 : ¬ 9223372036854775807 < 6 + sX.size + 1 + sB.size := by omega
    have q4 : ¬ 9223372036854775807 < 6 + sX.size + 1 + sB.size + 4 := by omega
    have hrgs := hid (True.intro)
    clear hSa hSb hSc hA hTh hEl hnl hal ha400 hlen hvl hR hE
    unfold exC at *
    go_enter Tryd.func33, Tryd.ntmps33
    go_upto_region 10 with (first
      | (go_at_call 20; go_must (refine hi1.mono ?_; rintro e w1 ⟨rfl, hb1⟩; have A1 := A.bl hb1; have k0 := A1.cell 0; have k4 := A1.cell 4; have hT1 := htU.bl hb1; have hB1 := b0.trans (hb1.mono b0.size); have hBN := hB1.mono hN; have k3 := A1.cell 3; have k5 := A1.cell 5; have k6 := A1.cell 6; have hrr0 := rb hrg0 hBN hg; have e0 := hrr0 0 _ rfl; have e1 := hrr0 1 _ rfl; have e2 := hrr0 2 _ rfl; have e3 := hrr0 3 _ rfl; have e4 := hrr0 4 _ rfl; simp only [Nat.zero_mul, Nat.one_mul, Nat.add_zero] at e0 e1 e2 e3 e4)))
    have hwl : w.heap.size < w1.heap.size := A1.lt
    have hgl : g < w1.heap.size := block_lt_of_cell e0
    have hS0 : ∀ u, Below w1.heap.size w1 u → u.cell? ⟨w.heap.size, 3, none⟩ = some (.int .i64 tg) ∧ u.cell? ⟨w.heap.size, 4, none⟩ = some (.slice (some ⟨g, off, none⟩) 1 ca) ∧ u.cell? ⟨w.heap.size, 5, none⟩ = some (.slice sb nb cb) ∧ u.cell? ⟨w.heap.size, 6, none⟩ = some (.slice sc nc cc) ∧ u.cell? ⟨g, off, none⟩ = some (.int .u8 ek) ∧ u.cell? ⟨g, off + 1, none⟩ = some (.int .u64 en) ∧ u.cell? ⟨g, off + 2, none⟩ = some (.int .i64 ev) ∧ u.cell? ⟨g, off + 3, none⟩ = some (.int .u8 eo) ∧ u.cell? ⟨g, off + 4, none⟩ = some (.slice es em ec) := fun u hb => ⟨(hb.cell hwl).trans k3, (hb.cell hwl).trans k4, (hb.cell hwl).trans k5, (hb.cell hwl).trans k6, (hb.cell hgl).trans e0, (hb.cell hgl).trans e1, (hb.cell hgl).trans e2, (hb.cell hgl).trans e3, (hb.cell hgl).trans e4⟩
    have hD0 : Below w1.heap.size w1 w1.drew := (Below.refl _ _).drew
    have hBD0 := hBN.trans (hD0.mono (by have := hBN.size; omega))
    refine rgn (fun u => u.cell? ⟨w.heap.size, 3, none⟩ = some (.int .i64 tg) ∧ u.cell? ⟨w.heap.size, 4, none⟩ = some (.slice (some ⟨g, off, none⟩) 1 ca) ∧ u.cell? ⟨w.heap.size, 5, none⟩ = some (.slice sb nb cb) ∧ u.cell? ⟨w.heap.size, 6, none⟩ = some (.slice sc nc cc) ∧ u.cell? ⟨g, off, none⟩ = some (.int .u8 ek) ∧ u.cell? ⟨g, off + 1, none⟩ = some (.int .u64 en) ∧ u.cell? ⟨g, off + 2, none⟩ = some (.int .i64 ev) ∧ u.cell? ⟨g, off + 3, none⟩ = some (.int .u8 eo) ∧ u.cell? ⟨g, off + 4, none⟩ = some (.slice es em ec)) (hS0 _ hD0) (fun hSw => ?_)
    refine tq9 0 rfl ?_
    refine tq9 1 rfl ?_
    refine tq9 2 rfl ?_
    refine tq9 3 rfl ?_
    refine tq9 7 rfl ?_
    refine tq9 8 rfl ?_
    refine rd 4 rfl (fun K hK => ?_)
    go_simp
    refine (hxf _ (hBN.trans (hD0.mono (Nat.le_trans hN hB1.size))) (hT1.bl hD0)).mono ?_
    rintro e w2 ⟨rfl, hb2⟩
    have hW2 := hD0.trans (hb2.mono hD0.size)
    go_wp2_with fail
    refine hK.out _ _ (hS0 _ hW2) (fun hSv2 => ?_)
    clear hK K
    try simp only [Act.put, List.setIfInBounds_toArray, List.set_cons_zero, List.set_cons_succ]
    refine tq9 5 rfl ?_
    refine tq9 6 rfl ?_
    refine rd 9 rfl (fun K hK => ?_)
    go_simp
    refine (hbf _ (hBN.trans (hW2.mono (Nat.le_trans hN hB1.size))) (hT1.bl hW2)).mono ?_
    rintro e w3 ⟨rfl, hb3⟩
    have hW3 := hW2.trans (hb3.mono hW2.size)
    go_wp2_with fail
    refine hK.out _ _ (hS0 _ hW3) (fun hSv3 => ?_)
    clear hK K
    try simp only [Act.put, List.setIfInBounds_toArray, List.set_cons_zero, List.set_cons_succ]
    refine tq9 10 rfl ?_
    refine tq9 11 rfl ?_
    refine tq9 12 rfl ?_
    refine dn ?_
    go_wp2_with fail
    go_ret
    exact ⟨rfl, hB1.trans (hW3.mono hB1.size)⟩
set_option maxHeartbeats 4000000 in
theorem dst_3 {N d : Nat} {vs : Int} (w : World) (cs : List Value) (st : StT (d + 1)) (hN : N ≤ w.heap.size) (hT : Tb w) (hM : StM N w (d + 1) cs st) (hok : okS vs (d + 1) st) (hk : st.nd.k = 3) (hlen : (sT (d + 1) st).length ≤ 1000000000) (hE : DLx N vs d) :
    Calls Tryd.prog 33 #[.agg cs.toArray] w (TxP (sT (d + 1) st) w) := by
  obtain ⟨⟨ps, hm⟩, hsok, ha400, hA, hTh, hEl⟩ := hok
  obtain ⟨sa, na, ca, sb, nb, cb, sc, nc, cc, rfl, -, hSa, hSb, hSc⟩ := hM
  have hnl := hSa.len
  have hs : sT (d + 1) st = sTn (sT d) st.nd := rfl
  rw [hs] at hlen ⊢
  clear hs
  obtain ⟨⟨k, v, f, tg, a, th, el⟩, ht⟩ : ∃ q : StN (StT d), q = st.nd := ⟨_, rfl⟩
  rw [← ht] at hm hsok ha400 hA hTh hEl hSa hSb hSc hnl hlen hk ⊢
  clear ht
  have hk' : k = 3 := hk
  subst hk'
  clear hk
  have hv64 : I64 v := hsok.v
  have ht64 : I64 tg := hsok.t
  have hf64 : I64 f := hsok.f
  replace hnl : Hid (na = a.length) := hnl
  replace hA : ∀ q ∈ a, okT vs 8 q := hA
  replace hTh : ∀ q ∈ th, okS vs d q := hTh
  replace hEl : ∀ q ∈ el, okS vs d q := hEl
  replace hSa : RS N w 5 (ExM N w 8) sa na ca a := hSa
  replace hSb : RS N w 7 (StM N w d) sb nb cb th := hSb
  replace hSc : RS N w 7 (StM N w d) sc nc cc el := hSc
  have hal : a.length = 1 := by
    unfold mayS at hm
    simp at hm
    omega
  match a, hal, hnl, hA, hSa, hlen with
  | [x], hal, hnl, hA, hSa, hlen =>
    have hna : na = 1 := hnl.out
    subst hna
    have hres : sTn (sT d) (⟨3, v, f, tg, [x], th, el⟩ : StN (StT d)) = ln [[105, 102], xT 8 x] ++ sL d th ++ ln [[101, 108, 115, 101]] ++ sL d el ++ ln [[101, 110, 100]] := rfl
    rw [hres] at hlen ⊢
    clear hres hsok hm
    have b0 := ab w (.cells #[.int .u8 3, .int .i64 v, .int .i64 f, .int .i64 tg, .slice sa 1 ca, .slice sb nb cb, .slice sc nc cc] 66)
    have A := Arr.new w 66 #[.int .u8 3, .int .i64 v, .int .i64 f, .int .i64 tg, .slice sa 1 ca, .slice sb nb cb, .slice sc nc cc]
    have htU := hT.bl b0
    have hi1 := itoa_any v _ hv64 htU
    have hvl := itoa_len v hv64
    rw [← tx_size] at hvl
    have a0 := A.cell 0
    have a1 := A.cell 1
    have a4 := A.cell 4
    show Calls Tryd.prog 33 #[.agg #[.int .u8 3, .int .i64 v, .int .i64 f, .int .i64 tg, .slice sa 1 ca, .slice sb nb cb, .slice sc nc cc]] w _
    obtain ⟨g, off, rfl, hg, hR⟩ := hSa.at0 (by omega)
    obtain ⟨cs0, hrg0, hM0⟩ := hR 0 x rfl
    obtain ⟨ek, en, ev, eo, es, em, ec, rfl⟩ := hM0.cells
    have lX := xT_len vs 8 x (hA x (by simp))
    have hxf : ∀ u, Below N w u → Tb u → Calls Tryd.prog 46 #[.agg (exC ek en ev eo (.slice es em ec)).toArray] u (TxP (xT 8 x) u) := fun u hb hTu => dtx_any N vs 8 (by omega) u _ x (Nat.le_trans hN hb.size) hTu (ExM.below hb 8 _ x hM0) (hA x (by simp))
    rw [← tx_size] at lX
    have lB : (tx (sL d th)).size ≤ 1000000000 := by rw [tx_size]; simp only [List.length_append] at hlen; omega
    have hbf : ∀ u, Below N w u → Tb u → Calls Tryd.prog 23 #[.slice sb nb cb] u (TxP (sL d th) u) := fun u hb hTu => hE u (hSb.imp hb (StM.below hb d)) hTh (Nat.le_trans hN hb.size) hTu (by rw [← tx_size]; exact lB)
    have lC : (tx (sL d el)).size ≤ 1000000000 := by rw [tx_size]; simp only [List.length_append] at hlen; omega
    have hcf : ∀ u, Below N w u → Tb u → Calls Tryd.prog 23 #[.slice sc nc cc] u (TxP (sL d el) u) := fun u hb hTu => hE u (hSc.imp hb (StM.below hb d)) hEl (Nat.le_trans hN hb.size) hTu (by rw [← tx_size]; exact lC)
    have he : tx (ln [[105, 102], xT 8 x] ++ sL d th ++ ln [[101, 108, 115, 101]] ++ sL d el ++ ln [[101, 110, 100]]) = ⟨#[105, 102, 32]⟩ ++ tx (xT 8 x) ++ ⟨#[10]⟩ ++ tx (sL d th) ++ ⟨#[101, 108, 115, 101, 10]⟩ ++ tx (sL d el) ++ ⟨#[101, 110, 100, 10]⟩ := by
      have e : ln [[105, 102], xT 8 x] ++ sL d th ++ ln [[101, 108, 115, 101]] ++ sL d el ++ ln [[101, 110, 100]] = [105, 102, 32] ++ (xT 8 x) ++ [10] ++ (sL d th) ++ [101, 108, 115, 101, 10] ++ (sL d el) ++ [101, 110, 100, 10] := by simp [ln, Lib.join_cons, Lib.joinTail, vT, jr]
      rw [e]
      simp only [← tx_app]
      rfl
    unfold TxP at *
    rw [he]
    clear he
    generalize tx (Lib.itoa v) = sV at *
    generalize tx (xT 8 x) = sX at *
    generalize tx (sL d th) = sB at *
    generalize tx (sL d el) = sC at *
    have p1 : ¬ 9223372036854775807 < 1 + sV.size := by omega
    have p2 : ¬ 9223372036854775807 < 1 + sV.size + 3 := by omega
    have q1 : ¬ 9223372036854775807 < 3 + sX.size := by omega
    have q2 : ¬ 9223372036854775807 < 3 + sX.size + 1 := by omega
    have q3 : ¬ 9223372036854775807 < 3 + sX.size + 1 + sB.size := by omega
    have q4 : ¬ 9223372036854775807 < 3 + sX.size + 1 + sB.size + 5 := by omega
    have q5 : ¬ 9223372036854775807 < 3 + sX.size + 1 + sB.size + 5 + sC.size := by omega
    have q6 : ¬ 9223372036854775807 < 3 + sX.size + 1 + sB.size + 5 + sC.size + 4 := by omega
    have hrgs := hid (True.intro)
    clear hSa hSb hSc hA hTh hEl hnl hal ha400 hlen hvl hR hE
    unfold exC at *
    go_enter Tryd.func33, Tryd.ntmps33
    go_upto_region 8 with (first
      | (go_at_call 20; go_must (refine hi1.mono ?_; rintro e w1 ⟨rfl, hb1⟩; have A1 := A.bl hb1; have k0 := A1.cell 0; have k4 := A1.cell 4; have hT1 := htU.bl hb1; have hB1 := b0.trans (hb1.mono b0.size); have hBN := hB1.mono hN; have k3 := A1.cell 3; have k5 := A1.cell 5; have k6 := A1.cell 6; have hrr0 := rb hrg0 hBN hg; have e0 := hrr0 0 _ rfl; have e1 := hrr0 1 _ rfl; have e2 := hrr0 2 _ rfl; have e3 := hrr0 3 _ rfl; have e4 := hrr0 4 _ rfl; simp only [Nat.zero_mul, Nat.one_mul, Nat.add_zero] at e0 e1 e2 e3 e4)))
    have hwl : w.heap.size < w1.heap.size := A1.lt
    have hgl : g < w1.heap.size := block_lt_of_cell e0
    have hS0 : ∀ u, Below w1.heap.size w1 u → u.cell? ⟨w.heap.size, 3, none⟩ = some (.int .i64 tg) ∧ u.cell? ⟨w.heap.size, 4, none⟩ = some (.slice (some ⟨g, off, none⟩) 1 ca) ∧ u.cell? ⟨w.heap.size, 5, none⟩ = some (.slice sb nb cb) ∧ u.cell? ⟨w.heap.size, 6, none⟩ = some (.slice sc nc cc) ∧ u.cell? ⟨g, off, none⟩ = some (.int .u8 ek) ∧ u.cell? ⟨g, off + 1, none⟩ = some (.int .u64 en) ∧ u.cell? ⟨g, off + 2, none⟩ = some (.int .i64 ev) ∧ u.cell? ⟨g, off + 3, none⟩ = some (.int .u8 eo) ∧ u.cell? ⟨g, off + 4, none⟩ = some (.slice es em ec) := fun u hb => ⟨(hb.cell hwl).trans k3, (hb.cell hwl).trans k4, (hb.cell hwl).trans k5, (hb.cell hwl).trans k6, (hb.cell hgl).trans e0, (hb.cell hgl).trans e1, (hb.cell hgl).trans e2, (hb.cell hgl).trans e3, (hb.cell hgl).trans e4⟩
    have hD0 : Below w1.heap.size w1 w1.drew := (Below.refl _ _).drew
    have hBD0 := hBN.trans (hD0.mono (by have := hBN.size; omega))
    refine rgn (fun u => u.cell? ⟨w.heap.size, 3, none⟩ = some (.int .i64 tg) ∧ u.cell? ⟨w.heap.size, 4, none⟩ = some (.slice (some ⟨g, off, none⟩) 1 ca) ∧ u.cell? ⟨w.heap.size, 5, none⟩ = some (.slice sb nb cb) ∧ u.cell? ⟨w.heap.size, 6, none⟩ = some (.slice sc nc cc) ∧ u.cell? ⟨g, off, none⟩ = some (.int .u8 ek) ∧ u.cell? ⟨g, off + 1, none⟩ = some (.int .u64 en) ∧ u.cell? ⟨g, off + 2, none⟩ = some (.int .i64 ev) ∧ u.cell? ⟨g, off + 3, none⟩ = some (.int .u8 eo) ∧ u.cell? ⟨g, off + 4, none⟩ = some (.slice es em ec)) (hS0 _ hD0) (fun hSw => ?_)
    refine tq9 0 rfl ?_
    refine tq9 1 rfl ?_
    refine tq9 2 rfl ?_
    refine tq9 3 rfl ?_
    refine tq9 7 rfl ?_
    refine tq9 8 rfl ?_
    refine tq9 12 rfl ?_
    refine tq9 13 rfl ?_
    refine rd 4 rfl (fun K hK => ?_)
    go_simp
    refine (hxf _ (hBN.trans (hD0.mono (Nat.le_trans hN hB1.size))) (hT1.bl hD0)).mono ?_
    rintro e w2 ⟨rfl, hb2⟩
    have hW2 := hD0.trans (hb2.mono hD0.size)
    go_wp2_with fail
    refine hK.out _ _ (hS0 _ hW2) (fun hSv2 => ?_)
    clear hK K
    try simp only [Act.put, List.setIfInBounds_toArray, List.set_cons_zero, List.set_cons_succ]
    refine tq9 5 rfl ?_
    refine tq9 6 rfl ?_
    refine rd 9 rfl (fun K hK => ?_)
    go_simp
    refine (hbf _ (hBN.trans (hW2.mono (Nat.le_trans hN hB1.size))) (hT1.bl hW2)).mono ?_
    rintro e w3 ⟨rfl, hb3⟩
    have hW3 := hW2.trans (hb3.mono hW2.size)
    go_wp2_with fail
    refine hK.out _ _ (hS0 _ hW3) (fun hSv3 => ?_)
    clear hK K
    try simp only [Act.put, List.setIfInBounds_toArray, List.set_cons_zero, List.set_cons_succ]
    refine tq9 10 rfl ?_
    refine tq9 11 rfl ?_
    refine rd 14 rfl (fun K hK => ?_)
    go_simp
    refine (hcf _ (hBN.trans (hW3.mono (Nat.le_trans hN hB1.size))) (hT1.bl hW3)).mono ?_
    rintro e w4 ⟨rfl, hb4⟩
    have hW4 := hW3.trans (hb4.mono hW3.size)
    go_wp2_with fail
    refine hK.out _ _ (hS0 _ hW4) (fun hSv4 => ?_)
    clear hK K
    try simp only [Act.put, List.setIfInBounds_toArray, List.set_cons_zero, List.set_cons_succ]
    refine tq9 15 rfl ?_
    refine tq9 16 rfl ?_
    refine tq9 17 rfl ?_
    refine dn ?_
    go_wp2_with fail
    go_ret
    exact ⟨rfl, hB1.trans (hW4.mono hB1.size)⟩
end Go.Proofs.YtoopgppahfnncaaDoor
/- Layer ir: the document's text of a call. -/
namespace Go.Proofs.YtoopgppahfnncaaDoor
open Go.Shelf Go.RowKit Go.Sort
set_option maxRecDepth 100000
set_option linter.unusedVariables false
set_option linter.unusedSimpArgs false

set_option maxHeartbeats 2000000 in
theorem row3_any {N d : Nat} {vs : Int} {sp : Option Addr} {n cap : Nat} {l : List (ExT d)} (sep : List UInt8) (hd : d ≤ 8) (hsep : sep.length ≤ 3) (w : World) (hS : RS N w 5 (ExM N w d) sp n cap l) (hok : ∀ a ∈ l, okT vs d a) (hN : N ≤ w.heap.size) (hT : Tb w) :
    Calls Tryd.prog 47 #[.slice sp n cap, .string (tx sep)] w (TxP (jr (xT d) sep l 0 []) w) := by
  have hlen := hS.len
  have hsm := hS.small
  obtain ⟨r, hr⟩ : ∃ r, r = jr (xT d) sep l 0 [] := ⟨_, rfl⟩
  rw [← hr]
  replace hr := hid hr
  unfold TxP
  have hsz : (tx sep).size ≤ 3 := by rw [tx_size]; exact hsep
  obtain ⟨sB, hsB⟩ : ∃ sB, sB = tx sep := ⟨_, rfl⟩
  rw [← hsB] at hsz ⊢
  replace hsB := hid hsB
  have hK : 64 * 2 ^ d ≤ 16384 := by have : 2 ^ d ≤ 2 ^ 8 := Nat.pow_le_pow_right (by omega) hd; omega
  go_enter Tryd.func47, Tryd.ntmps47
  go_upto_region 3 with fail
  go_loopw [5, 6] (fun s i wr => ∃ (j : Nat) (c : List UInt8), s = .string (tx c) ∧ i = .int .i64 (j : Int) ∧ j ≤ n ∧ c.length ≤ 20000 * j ∧ Hid (r = jr (xT d) sep (l.drop j) j c) ∧ Below w.heap.size w wr)
    (fun _ i _ => n - (intOf i).toNat)
  case atStart => exact ⟨0, [], rfl, rfl, by omega, by simp, hid (by rw [List.drop_zero]; exact hr.out), Below.refl _ _⟩
  case round =>
    obtain ⟨j, c, rfl, rfl, hj, hc, hf, hb⟩ := hrel
    by_cases hlt : j < n
    · obtain ⟨t, ht⟩ : ∃ t, l[j]? = some t := ⟨l[j]'(by rw [← hlen.out]; exact hlt), List.getElem?_eq_getElem _⟩
      obtain ⟨g, off, rfl, hg, hR⟩ := hS.at0 (by omega)
      obtain ⟨cs, hrg, hM⟩ := hR j t ht
      have hrg2 := rb hrg hb (by omega)
      have hM2 := ExM.below (hb.mono hN) d cs t hM
      have hokt := hok t (List.mem_of_getElem? ht)
      have hle := xT_len vs d t hokt
      obtain ⟨ek, en, ev, eo, es, em, ec, rfl⟩ := hM.cells
      have c0 := hrg2 0 _ rfl
      have c1 := hrg2 1 _ rfl
      have c2 := hrg2 2 _ rfl
      have c3 := hrg2 3 _ rfl
      have c4 := hrg2 4 _ rfl
      simp only [Nat.add_zero] at c0
      have hlt' : (j : Int) < n := by omega
      have h0 : (0 : Int) ≤ j := by omega
      have hx := dtx_any N vs d (by omega) wr _ t (by have := hb.size; omega) (hT.bl hb) hM2 hokt
      have hfd := jr_drop (X := xT d) (sep := sep) ht c
      rw [← hf.out] at hfd
      have hw1 : IntKind.i64.wrap ((j : Int) + 1) = ((j + 1 : Nat) : Int) := by rw [IntKind.wrap_i64]; omega
      clear hS hR hrg hrg2 hM hM2 hok hlen ht hf hokt
      unfold TxP at hx
      have hcz : (tx c).size ≤ 20000 * j := by rw [tx_size]; exact hc
      have hxz : (tx (xT d t)).size ≤ 16384 := by rw [tx_size]; omega
      by_cases hj0 : j = 0
      · subst hj0
        simp only [Nat.zero_mul, Nat.add_zero] at c0 c1 c2 c3 c4
        rw [if_pos rfl] at hfd
        have hrn : Hid (r = jr (xT d) sep (l.drop (0 + 1)) (0 + 1) (c ++ xT d t)) := hid hfd
        have hap : tx (c ++ xT d t) = tx c ++ tx (xT d t) := (tx_app _ _).symm
        have hln : (c ++ xT d t).length ≤ 20000 * (0 + 1) := by rw [List.length_append]; omega
        clear hfd
        replace hap := hid hap
        generalize hA : tx (xT d t) = sA at *
        generalize hC : tx c = sC at *
        have q1 : ¬ 9223372036854775807 < sC.size + sA.size := by omega
        replace hA := hid hA
        replace hC := hid hC
        unfold exC at *
        go_wp2_with (go_at_call 46; go_must (refine hx.mono ?_; rintro e w1 ⟨rfl, hb1⟩))
        go_roundw
        case rel => exact ⟨0 + 1, c ++ xT d t, by rw [hap.out], by go_num, by omega, hln, hrn, hb.trans (hb1.mono hb.size)⟩
        case measure => simp [intOf]; omega
      · rw [if_neg hj0] at hfd
        have hj1 : (0 : Int) < j := by omega
        have hrn : Hid (r = jr (xT d) sep (l.drop (j + 1)) (j + 1) (c ++ sep ++ xT d t)) := hid hfd
        have hap : tx (c ++ sep ++ xT d t) = tx c ++ sB ++ tx (xT d t) := by rw [hsB.out, tx_app, tx_app]
        have hln : (c ++ sep ++ xT d t).length ≤ 20000 * (j + 1) := by rw [List.length_append, List.length_append]; omega
        clear hfd
        replace hap := hid hap
        generalize hA : tx (xT d t) = sA at *
        generalize hC : tx c = sC at *
        have q0 : ¬ 9223372036854775807 < sC.size + sB.size := by omega
        have q1 : ¬ 9223372036854775807 < sC.size + sB.size + sA.size := by omega
        replace hA := hid hA
        replace hC := hid hC
        unfold exC at *
        go_wp2_with (go_at_call 46; go_must (refine hx.mono ?_; rintro e w1 ⟨rfl, hb1⟩))
        go_roundw
        case rel => exact ⟨j + 1, c ++ sep ++ xT d t, by rw [hap.out], by go_num, by omega, hln, hrn, hb.trans (hb1.mono hb.size)⟩
        case measure => simp [intOf]; omega
    · obtain rfl : j = n := by omega
      have hrn : Hid (r = c) := hid (by rw [hf.out, hlen.out, List.drop_length]; rfl)
      clear hS hok hf hlen
      go_wp2_with fail
      go_ret
      rw [hrn.out]
      exact ⟨rfl, hb⟩

theorem jr_pos {α : Type} (X : α → List UInt8) (sep : List UInt8) : ∀ (r : List α) (j : Nat) (s : List UInt8), 0 < j → jr X sep r j s = s ++ (r.map fun y => sep ++ X y).flatten
  | [], _, s, _ => by simp [jr]
  | a :: r, j, s, h => by
    rw [jr, if_neg (by omega), jr_pos X sep r (j + 1) _ (by omega)]
    simp
theorem jr_len {α : Type} (X : α → List UInt8) (sep : List UInt8) (B : Nat) (hs : sep.length ≤ 3) : ∀ (r : List α), (∀ a ∈ r, (X a).length ≤ B) → ((r.map fun y => sep ++ X y).flatten).length ≤ r.length * (B + 3)
  | [], _ => by simp
  | a :: r, h => by
    have h1 := jr_len X sep B hs r (fun q hq => h q (List.mem_cons_of_mem _ hq))
    have h2 := h a (List.mem_cons_self ..)
    simp only [List.map_cons, List.flatten_cons, List.length_append, List.length_cons] at h1 ⊢
    rw [Nat.add_mul]
    omega
theorem cw_tail {α : Type} (X : α → List UInt8) : ∀ r : List α, (((r.map X).flatMap fun y => [[44], y]).map ([32] ++ ·)).flatten = (r.map fun y => [32, 44, 32] ++ X y).flatten
  | [] => rfl
  | a :: r => by
    have := cw_tail X r
    simp at this ⊢
    exact this
theorem cw_line {α : Type} (X : α → List UInt8) (v f : Int) (x : α) (r : List α) : ln (cWords v f ((x :: r).map X)) = [118] ++ Lib.itoa v ++ [32, 61, 32] ++ [102] ++ Lib.itoa f ++ [32, 40, 32] ++ (jr X [32, 44, 32] (x :: r) 0 [] ++ [32]) ++ [41, 10] := by
  have h := cw_tail X r
  rw [jr, if_pos rfl, jr_pos _ _ _ _ _ (by omega), ← h]
  simp [ln, cWords, cw, vT, Lib.join_cons, Lib.joinTail]
set_option maxHeartbeats 4000000 in
theorem dst_6 {N d : Nat} {vs : Int} (w : World) (cs : List Value) (st : StT (d + 1)) (hN : N ≤ w.heap.size) (hT : Tb w) (hM : StM N w (d + 1) cs st) (hok : okS vs (d + 1) st) (hk : st.nd.k = 6) (hlen : (sT (d + 1) st).length ≤ 1000000000) :
    Calls Tryd.prog 33 #[.agg cs.toArray] w (TxP (sT (d + 1) st) w) := by
  obtain ⟨⟨ps, hm⟩, hsok, ha400, hA, hTh, hEl⟩ := hok
  obtain ⟨sa, na, ca, sb, nb, cb, sc, nc, cc, rfl, -, hSa, hSb, hSc⟩ := hM
  have hnl := hSa.len
  have hs : sT (d + 1) st = sTn (sT d) st.nd := rfl
  rw [hs] at hlen ⊢
  clear hs
  obtain ⟨⟨k, v, f, tg, a, th, el⟩, ht⟩ : ∃ q : StN (StT d), q = st.nd := ⟨_, rfl⟩
  rw [← ht] at hm hsok ha400 hA hTh hEl hSa hSb hSc hnl hlen hk ⊢
  clear ht
  have hk' : k = 6 := hk
  subst hk'
  clear hk
  have hv64 : I64 v := hsok.v
  have hf64 : I64 f := hsok.f
  replace hnl : Hid (na = a.length) := hnl
  replace hA : ∀ q ∈ a, okT vs 8 q := hA
  replace ha400 : a.length ≤ 400 := ha400
  replace hSa : RS N w 5 (ExM N w 8) sa na ca a := hSa
  have hres : sTn (sT d) (⟨6, v, f, tg, a, th, el⟩ : StN (StT d)) = ln (cWords v f (a.map (xT 8))) := rfl
  rw [hres] at hlen ⊢
  clear hres hsok hm hSb hSc hTh hEl
  have b0 := ab w (.cells #[.int .u8 6, .int .i64 v, .int .i64 f, .int .i64 tg, .slice sa na ca, .slice sb nb cb, .slice sc nc cc] 66)
  have A := Arr.new w 66 #[.int .u8 6, .int .i64 v, .int .i64 f, .int .i64 tg, .slice sa na ca, .slice sb nb cb, .slice sc nc cc]
  have htU := hT.bl b0
  have hi1 := itoa_any v _ hv64 htU
  have hff : ∀ u, Tb u → Calls Tryd.prog 20 #[.int .i64 f] u (TxP (Lib.itoa f) u) := fun u hu => itoa_any f u hf64 hu
  have hvl := itoa_len v hv64
  have hfl := itoa_len f hf64
  rw [← tx_size] at hvl hfl
  have a0 := A.cell 0
  have a1 := A.cell 1
  have a4 := A.cell 4
  show Calls Tryd.prog 33 #[.agg #[.int .u8 6, .int .i64 v, .int .i64 f, .int .i64 tg, .slice sa na ca, .slice sb nb cb, .slice sc nc cc]] w _
  cases a with
  | nil =>
    have hna : na = 0 := hnl.out
    subst hna
    have he : tx (ln (cWords v f (([] : List (ExT 8)).map (xT 8)))) = ⟨#[118]⟩ ++ tx (Lib.itoa v) ++ ⟨#[32, 61, 32]⟩ ++ ⟨#[102]⟩ ++ tx (Lib.itoa f) ++ ⟨#[32, 40, 32]⟩ ++ ⟨#[41, 10]⟩ := by
      have e : ln (cWords v f (([] : List (ExT 8)).map (xT 8))) = [118] ++ Lib.itoa v ++ [32, 61, 32] ++ [102] ++ Lib.itoa f ++ [32, 40, 32] ++ [41, 10] := by simp [ln, cWords, cw, vT, Lib.join_cons, Lib.joinTail]
      rw [e]
      simp only [← tx_app]
      rfl
    unfold TxP at *
    rw [he]
    clear he
    generalize tx (Lib.itoa v) = sV at *
    generalize tx (Lib.itoa f) = sF at *
    have q1 : ¬ 9223372036854775807 < 1 + sV.size := by omega
    have q2 : ¬ 9223372036854775807 < 1 + sV.size + 3 := by omega
    have q3 : ¬ 9223372036854775807 < 1 + sV.size + 3 + 1 := by omega
    have q4 : ¬ 9223372036854775807 < 1 + sV.size + 3 + 1 + sF.size := by omega
    have q5 : ¬ 9223372036854775807 < 1 + sV.size + 3 + 1 + sF.size + 3 := by omega
    have q6 : ¬ 9223372036854775807 < 1 + sV.size + 3 + 1 + sF.size + 3 + 2 := by omega
    clear hSa hA hnl ha400 hlen hvl hfl
    go_enter Tryd.func33, Tryd.ntmps33
    go_wp2_with (first
      | (have hgd := hb1; clear hgd; go_at_call 20; go_must (refine (hff w1 hT1).mono ?_; rintro e w2 ⟨rfl, hb2⟩; have A2 := A1.bl hb2; have m4 := A2.cell 4))
      | (go_at_call 20; go_must (refine hi1.mono ?_; rintro e w1 ⟨rfl, hb1⟩; have A1 := A.bl hb1; have k0 := A1.cell 0; have k4 := A1.cell 4; have hT1 := htU.bl hb1; have hB1 := b0.trans (hb1.mono b0.size); have k2 := A1.cell 2)))
    go_ret
    exact ⟨rfl, hB1.trans (hb2.mono hB1.size)⟩
  | cons x r =>
    have hpos : 0 < na := by rw [hnl.out]; simp
    have hposi : (0 : Int) < na := by omega
    have lR : (tx (jr (xT 8) [32, 44, 32] (x :: r) 0 [])).size ≤ 10000000 := by
      rw [tx_size, jr, if_pos rfl, jr_pos _ _ _ _ _ (by omega), List.length_append]
      have h1 := jr_len (xT 8) [32, 44, 32] 16384 (by simp) r (fun q hq => by have := xT_len vs 8 q (hA q (List.mem_cons_of_mem _ hq)); omega)
      have h2 := xT_len vs 8 x (hA x (List.mem_cons_self ..))
      have h3 : r.length ≤ 400 := by simp only [List.length_cons] at ha400; omega
      have h4 : r.length * (16384 + 3) ≤ 400 * (16384 + 3) := Nat.mul_le_mul_right _ h3
      rw [List.nil_append]
      omega
    have hrf : ∀ u, Below N w u → Tb u → Calls Tryd.prog 47 #[.slice sa na ca, .string ⟨#[32, 44, 32]⟩] u (TxP (jr (xT 8) [32, 44, 32] (x :: r) 0 []) u) := fun u hb hTu => row3_any [32, 44, 32] (by omega) (by simp) u (hSa.imp hb (ExM.below hb 8)) hA (Nat.le_trans hN hb.size) hTu
    have he : tx (ln (cWords v f ((x :: r).map (xT 8)))) = ⟨#[118]⟩ ++ tx (Lib.itoa v) ++ ⟨#[32, 61, 32]⟩ ++ ⟨#[102]⟩ ++ tx (Lib.itoa f) ++ ⟨#[32, 40, 32]⟩ ++ (tx (jr (xT 8) [32, 44, 32] (x :: r) 0 []) ++ ⟨#[32]⟩) ++ ⟨#[41, 10]⟩ := by
      rw [cw_line]
      simp only [← tx_app]
      rfl
    unfold TxP at *
    rw [he]
    clear he
    generalize tx (Lib.itoa v) = sV at *
    generalize tx (Lib.itoa f) = sF at *
    generalize tx (jr (xT 8) [32, 44, 32] (x :: r) 0 []) = sR at *
    have q1 : ¬ 9223372036854775807 < 1 + sV.size := by omega
    have q2 : ¬ 9223372036854775807 < 1 + sV.size + 3 := by omega
    have q3 : ¬ 9223372036854775807 < 1 + sV.size + 3 + 1 := by omega
    have q4 : ¬ 9223372036854775807 < 1 + sV.size + 3 + 1 + sF.size := by omega
    have q5 : ¬ 9223372036854775807 < 1 + sV.size + 3 + 1 + sF.size + 3 := by omega
    have q7 : ¬ 9223372036854775807 < sR.size + 1 := by omega
    have q8 : ¬ 9223372036854775807 < 1 + sV.size + 3 + 1 + sF.size + 3 + (sR.size + 1) := by omega
    have q9 : ¬ 9223372036854775807 < 1 + sV.size + 3 + 1 + sF.size + 3 + (sR.size + 1) + 2 := by omega
    clear hSa hA hnl ha400 hlen hvl hfl lR hpos
    go_enter Tryd.func33, Tryd.ntmps33
    go_wp2_with (first
      | (have hgd := hb1; clear hgd; go_at_call 20; go_must (refine (hff w1 hT1).mono ?_; rintro e w2 ⟨rfl, hb2⟩; have A2 := A1.bl hb2; have m4 := A2.cell 4; have hB2 := hB1.trans (hb2.mono hB1.size); have hr := hrf w2 (hB2.mono hN) (hT1.bl hb2)))
      | (go_at_call 20; go_must (refine hi1.mono ?_; rintro e w1 ⟨rfl, hb1⟩; have A1 := A.bl hb1; have k0 := A1.cell 0; have k4 := A1.cell 4; have hT1 := htU.bl hb1; have hB1 := b0.trans (hb1.mono b0.size); have k2 := A1.cell 2))
      | (go_at_call 47; go_must (refine hr.mono ?_; rintro e w3 ⟨rfl, hb3⟩)))
    go_ret
    exact ⟨rfl, hB2.trans (hb3.mono hB2.size)⟩
end Go.Proofs.YtoopgppahfnncaaDoor
/- Layer ir: the document's text of statements. -/
namespace Go.Proofs.YtoopgppahfnncaaDoor
open Go.Shelf Go.RowKit Go.Sort
set_option maxRecDepth 100000
set_option linter.unusedVariables false
set_option linter.unusedSimpArgs false


def DSx (N : Nat) (vs : Int) (d : Nat) : Prop := ∀ (w : World) (cs : List Value) (st : StT d), N ≤ w.heap.size → Tb w → StM N w d cs st → okS vs d st → (sT d st).length ≤ 1000000000 → Calls Tryd.prog 33 #[.agg cs.toArray] w (TxP (sT d st) w)
set_option maxHeartbeats 2000000 in
theorem dsl_any {N d : Nat} {vs : Int} (hE : DSx N vs d) : DLx N vs d := by
  intro w sp n cap l hS hok hN hT hlen
  have hnl := hS.len
  have hsm := hS.small
  obtain ⟨r, hr⟩ : ∃ r, r = sL d l := ⟨_, rfl⟩
  rw [← hr] at hlen ⊢
  replace hr := hid hr
  unfold TxP
  go_enter Tryd.func23, Tryd.ntmps23
  go_upto_region 3 with fail
  go_loopw [3, 4] (fun s i wr => ∃ (j : Nat) (c : List UInt8), s = .string (tx c) ∧ i = .int .i64 (j : Int) ∧ j ≤ n ∧ Hid (r = c ++ sL d (l.drop j)) ∧ Below w.heap.size w wr)
    (fun _ i _ => n - (intOf i).toNat)
  case atStart => exact ⟨0, [], rfl, rfl, by omega, hid (by rw [List.drop_zero]; exact hr.out), Below.refl _ _⟩
  case round =>
    obtain ⟨j, c, rfl, rfl, hj, hf, hb⟩ := hrel
    by_cases hlt : j < n
    · obtain ⟨st, ht⟩ : ∃ st, l[j]? = some st := ⟨l[j]'(by rw [← hnl.out]; exact hlt), List.getElem?_eq_getElem _⟩
      obtain ⟨g, off, rfl, hg, hR⟩ := hS.at0 (by omega)
      obtain ⟨cs, hrg, hM⟩ := hR j st ht
      have hbN := hb.mono hN
      have hrg2 := rb hrg hbN hg
      have hM2 := StM.below hbN d cs st hM
      have hokt := hok st (List.mem_of_getElem? ht)
      obtain ⟨ek, ev, ef, et, ea, ean, eac, eb, ebn, ebc, ec, ecn, ecc, rfl⟩ := hM.cl
      have c0 := hrg2 0 _ rfl
      have c1 := hrg2 1 _ rfl
      have c2 := hrg2 2 _ rfl
      have c3 := hrg2 3 _ rfl
      have c4 := hrg2 4 _ rfl
      have c5 := hrg2 5 _ rfl
      have c6 := hrg2 6 _ rfl
      simp only [Nat.add_zero] at c0
      have hlt' : (j : Int) < n := by omega
      have h0 : (0 : Int) ≤ j := by omega
      have hfd := hf.out
      rw [sL_drop ht, ← List.append_assoc] at hfd
      have hln : c.length + (sT d st).length ≤ 1000000000 := by
        have := congrArg List.length hfd
        rw [List.length_append, List.length_append] at this
        omega
      have hx := hE wr _ st (Nat.le_trans hN hb.size) (hT.bl hb) hM2 hokt (by omega)
      have hw1 : IntKind.i64.wrap ((j : Int) + 1) = ((j + 1 : Nat) : Int) := by rw [IntKind.wrap_i64]; omega
      have hap : Hid (tx (c ++ sT d st) = tx c ++ tx (sT d st)) := hid (tx_app _ _).symm
      have q1 : ¬ 9223372036854775807 < (tx c).size + (tx (sT d st)).size := by rw [tx_size, tx_size]; omega
      replace hfd := hid hfd
      clear hS hR hrg hrg2 hM hM2 hok hnl ht hf hokt hE hln
      unfold TxP at hx
      generalize hA : tx (sT d st) = sA at *
      generalize hC : tx c = sC at *
      replace hA := hid hA
      replace hC := hid hC
      unfold stC at *
      go_wp2_with (go_at_call 33; go_must (refine hx.mono ?_; rintro e w1 ⟨rfl, hb1⟩))
      go_roundw
      case rel => exact ⟨j + 1, c ++ sT d st, by rw [hap.out], by go_num, by omega, hfd, hb.trans (hb1.mono hb.size)⟩
      case measure => simp [intOf]; omega
    · obtain rfl : j = n := by omega
      have hrn : r = c := by rw [hf.out, hnl.out, List.drop_length]; simp [sL]
      clear hS hok hf hnl hE
      subst hrn
      go_wp2_with fail
      go_ret
      exact ⟨rfl, hb⟩
theorem dsx_any (N : Nat) (vs : Int) : ∀ d : Nat, DSx N vs d
  | 0 => fun _ _ _ _ _ _ h => by cases h
  | d + 1 => fun w cs st hN hT hM hok hlen => by
    have hE := dsl_any (dsx_any N vs d)
    by_cases h1 : st.nd.k = 1
    · exact dst_1 w cs st hN hT hM hok h1 hlen
    by_cases h2 : st.nd.k = 2
    · exact dst_2 w cs st hN hT hM hok h2 hlen
    by_cases h3 : st.nd.k = 3
    · exact dst_3 w cs st hN hT hM hok h3 hlen hE
    by_cases h4 : st.nd.k = 4
    · exact dst_4 w cs st hN hT hM hok h4 hlen hE
    by_cases h5 : st.nd.k = 5
    · exact dst_5 w cs st hN hT hM hok h5 hlen
    by_cases h6 : st.nd.k = 6
    · exact dst_6 w cs st hN hT hM hok h6 hlen
    by_cases h7 : st.nd.k = 7
    · exact dst_7 w cs st hN hT hM hok h7 hlen
    by_cases h8 : st.nd.k = 8
    · exact dst_8 w cs st hN hT hM hok h8 hlen
    by_cases h9 : st.nd.k = 9
    · exact dst_9 w cs st hN hT hM hok h9 hlen
    · obtain ⟨⟨ps, hm⟩, -⟩ := hok
      unfold mayS at hm
      simp [h1, h2, h3, h4, h5, h6, h7, h8, h9] at hm
end Go.Proofs.YtoopgppahfnncaaDoor
