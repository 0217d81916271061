/- Pd, Pe, Pf. -/
import Derived.Test.YtoopgppahfnncaaDoorX05
import Derived.Test.YtoopgppahfnncaaDoorX04
/- Layer ir: the words of a call. -/
namespace Go.Proofs.YtoopgppahfnncaaDoor
open Go.Shelf Go.RowKit Go.Sort
set_option maxRecDepth 100000
set_option linter.unusedVariables false
set_option linter.unusedSimpArgs false


/-- What is left of a call's words. -/
def cr (l : List (List UInt8)) (j : Nat) : List (List UInt8) := if j = 0 then cw l else (l.drop j).flatMap fun y => [[44], y]
theorem cr_next {l : List (List UInt8)} {j : Nat} {x : List UInt8} (h : l[j]? = some x) : cr l j = (if j = 0 then [x] else [[44], x]) ++ cr l (j + 1) := by
  obtain ⟨hj, rfl⟩ := List.getElem?_eq_some_iff.1 h
  unfold cr
  rw [if_neg (by omega : ¬ j + 1 = 0)]
  by_cases h0 : j = 0
  · subst h0
    rw [if_pos rfl, if_pos rfl]
    cases l with
    | nil => simp at hj
    | cons a r => simp [cw]
  · rw [if_neg h0, if_neg h0, List.drop_eq_getElem_cons hj, List.flatMap_cons]
theorem cr_end (l : List (List UInt8)) : cr l l.length = [] := by
  unfold cr
  split
  · next h => rw [List.length_eq_zero_iff.1 h]; rfl
  · rw [List.drop_length]; rfl
theorem own_lit (w : World) (C : Array Value) (n : Nat) (hn : C.size = n) (hm : n ≤ 1000000) (base : Nat) (hb : base ≤ w.heap.size) : (w.alloc (.cells C 9)).ownsRow base 9 1 (.slice (some ⟨w.heap.size, 0, none⟩) n n) n C.toList :=
  ⟨by simp [hn], .inr ⟨w.heap.size, n, C, rfl, hb, heap_alloc_new w _, Nat.le_refl _, by unfold maxLen; omega, by omega, by rw [Nat.mul_one, List.take_of_length_le]; simp [hn]⟩⟩
set_option maxHeartbeats 4000000 in
theorem words_any {k v f tg : Int} {sa sb sc asp : Option Addr} {na ca nb cb nc cc n ac : Nat} {l : List (List UInt8)} (w : World) (hv : I64 v) (hf : I64 f) (hT : Tb w) (hn : n = l.length) (h1000 : n ≤ 1000) (hsz : ∀ y ∈ l, y.length ≤ 1000000) (hargs : ∀ j y, l[j]? = some y → ∃ G, asp = some ⟨G, 0, none⟩ ∧ G < w.heap.size ∧ w.cell? ⟨G, j, none⟩ = some (.string (tx y))) :
    Calls Tryd.prog 45 #[.agg #[.int .u8 k, .int .i64 v, .int .i64 f, .int .i64 tg, .slice sa na ca, .slice sb nb cb, .slice sc nc cc], .slice asp n ac] w fun e w' => (∃ v' m, e = .returned v' ∧ m = (cWords v f l).length ∧ w'.ownsRow w.heap.size 9 1 v' m (sx (cWords v f l))) ∧ Below w.heap.size w w' := by
  have b0 := ab w (.cells #[.int .u8 k, .int .i64 v, .int .i64 f, .int .i64 tg, .slice sa na ca, .slice sb nb cb, .slice sc nc cc] 66)
  have A := Arr.new w 66 #[.int .u8 k, .int .i64 v, .int .i64 f, .int .i64 tg, .slice sa na ca, .slice sb nb cb, .slice sc nc cc]
  have hTU := hT.bl b0
  have a1 := A.cell 1
  have a2 := A.cell 2
  replace hn := hid hn
  generalize hU : w.alloc (.cells #[.int .u8 k, .int .i64 v, .int .i64 f, .int .i64 tg, .slice sa na ca, .slice sb nb cb, .slice sc nc cc] 66) = U at *
  have hwl : w.heap.size < U.heap.size := A.lt
  obtain ⟨W, hW⟩ : ∃ W, W = cWords v f l := ⟨_, rfl⟩
  rw [← hW]
  have hW0 : Hid (W = ([vT v, [61], 102 :: Lib.itoa f, [40]] ++ cr l 0) ++ [[41]]) := hid hW
  clear hW
  have hv1 : ∀ u, Below U.heap.size U u → Calls Tryd.prog 44 #[.int .i64 v] u (TxP (vT v) u) := fun u h => varText_any v u hv (hTU.bl h)
  have hi1 := fun u (h : Below U.heap.size U u) => itoa_any f u hf (hTU.bl h)
  have hil := itoa_len f hf
  have hap : tx (102 :: Lib.itoa f) = ⟨#[102]⟩ ++ tx (Lib.itoa f) := (tx_app [102] _).symm
  have hs1 : ¬ 9223372036854775807 < 1 + (tx (Lib.itoa f)).size := by rw [tx_size]; omega
  have hapL : sx [vT v, [61], 102 :: Lib.itoa f, [40]] = [.string (tx (vT v)), .string ⟨#[61]⟩, .string (⟨#[102]⟩ ++ tx (Lib.itoa f)), .string ⟨#[40]⟩] := by rw [← hap]; rfl
  unfold TxP at hv1 hi1
  clear hv hf hil hap
  generalize tx (Lib.itoa f) = sF at *
  replace hapL := hid hapL
  subst hU
  go_enter Tryd.func45, Tryd.ntmps45
  go_upto_region 1 with fail
  generalize hU : w.alloc (.cells #[.int .u8 k, .int .i64 v, .int .i64 f, .int .i64 tg, .slice sa na ca, .slice sb nb cb, .slice sc nc cc] 66) = U at *
  have hS0 : ∀ u, Below U.heap.size U u → u.cell? ⟨w.heap.size, 1, none⟩ = some (.int .i64 v) ∧ u.cell? ⟨w.heap.size, 2, none⟩ = some (.int .i64 f) := fun u hb => ⟨(hb.cell hwl).trans a1, (hb.cell hwl).trans a2⟩
  have hD0 : Below U.heap.size U U.drew := (Below.refl _ _).drew
  refine rgn (fun u => u.cell? ⟨w.heap.size, 1, none⟩ = some (.int .i64 v) ∧ u.cell? ⟨w.heap.size, 2, none⟩ = some (.int .i64 f)) (hS0 _ hD0) (fun hSw => ?_)
  refine tk2 0 rfl ?_
  refine tk2 1 rfl ?_
  refine tk2 3 rfl ?_
  refine tk2 4 rfl ?_
  refine rd 2 rfl (fun K hK => ?_)
  go_simp
  refine (hv1 _ hD0).mono ?_
  rintro e w2 ⟨rfl, hb2⟩
  have hB2 := hD0.trans (hb2.mono hD0.size)
  go_wp2_with fail
  refine hK.out _ _ (hS0 _ hB2) (fun hSv => ?_)
  clear hK K
  try simp only [Act.put, List.setIfInBounds_toArray, List.set_cons_zero, List.set_cons_succ]
  refine rd 5 rfl (fun K hK => ?_)
  go_simp
  refine (hi1 _ hB2).mono ?_
  rintro e w3 ⟨rfl, hb3⟩
  have hB3 := hB2.trans (hb3.mono hB2.size)
  go_wp2_with fail
  refine hK.out _ _ (hS0 _ hB3) (fun hSu => ?_)
  clear hK K
  try simp only [Act.put, List.setIfInBounds_toArray, List.set_cons_zero, List.set_cons_succ]
  refine tk2 6 rfl ?_
  refine rd 7 rfl (fun K hK => ?_)
  go_simp
  go_wp2_with fail
  have hB4 := hB3.alloc hB3.size (.cells #[.string (tx (vT v)), .string ⟨#[61]⟩, .string (⟨#[102]⟩ ++ sF), .string ⟨#[40]⟩] 9)
  refine hK.out _ _ (hS0 _ hB4) (fun hSt => ?_)
  clear hK K
  try simp only [Act.put, List.setIfInBounds_toArray, List.set_cons_zero, List.set_cons_succ]
  refine tk2 8 rfl ?_
  refine dn ?_
  have ho0 := own_lit w3 #[.string (tx (vT v)), .string ⟨#[61]⟩, .string (⟨#[102]⟩ ++ sF), .string ⟨#[40]⟩] 4 rfl (by omega) w.heap.size (by have := hB3.size; omega)
  have hbW := b0.trans (hB4.mono b0.size)
  generalize hV : w3.alloc (.cells #[.string (tx (vT v)), .string ⟨#[61]⟩, .string (⟨#[102]⟩ ++ sF), .string ⟨#[40]⟩] 9) = V at *
  have ho1 : V.ownsRow w.heap.size 9 1 (.slice (some ⟨w3.heap.size, 0, none⟩) 4 4) 4 (sx [vT v, [61], 102 :: Lib.itoa f, [40]]) := by rw [hapL.out]; exact ho0
  generalize w3.heap.size = g0 at *
  clear hS0 hSw hSv hSu hSt hD0 hv1 hi1 hB2 hB3 hB4 hb2 hb3 ho0 hV hTU
  go_upto_region 3 with fail
  go_loopw [5, 18] (fun a i wr => ∃ (j : Nat) (c : List (List UInt8)), i = .int .i64 (j : Int) ∧ j ≤ n ∧ c.length ≤ 4 + 2 * j ∧ Hid (W = (c ++ cr l j) ++ [[41]]) ∧ wr.ownsRow w.heap.size 9 1 a c.length (sx c) ∧ Below w.heap.size w wr)
    (fun _ i _ => n - (intOf i).toNat)
  case atStart => exact ⟨0, [vT v, [61], 102 :: Lib.itoa f, [40]], rfl, by omega, by simp, hW0, ho1, hbW⟩
  case round =>
    obtain ⟨j, c, rfl, hj, hc, hf, ho, hb⟩ := hrel
    obtain ⟨xsp, xcp, rfl⟩ := own_slc ho
    by_cases hlt : j < n
    · obtain ⟨y, hy⟩ : ∃ y, l[j]? = some y := ⟨l[j]'(by rw [← hn.out]; exact hlt), List.getElem?_eq_getElem _⟩
      obtain ⟨G, rfl, hG, hcl⟩ := hargs j y hy
      have g0' : wr.cell? ⟨G, j, none⟩ = some (.string (tx y)) := (hb.cell hG).trans hcl
      have hlt' : (j : Int) < n := by omega
      have h0 : (0 : Int) ≤ j := by omega
      have hw1 : IntKind.i64.wrap ((j : Int) + 1) = ((j + 1 : Nat) : Int) := by rw [IntKind.wrap_i64]; omega
      have hfn := hf.out
      rw [cr_next hy, ← List.append_assoc] at hfn
      have hbs := hb.size
      by_cases hj0 : j = 0
      · subst hj0
        rw [if_pos rfl] at hfn
        replace hfn := hid hfn
        have hsx : Hid (sx (c ++ [y]) = sx c ++ [.string (tx y)]) := hid (by simp [sx])
        have hcl1 : (c ++ [y]).length = c.length + 1 := by simp
        have hcl1' := hid hcl1
        clear hf hargs hn hcl1 hsz
        go_wp2_with (first
          | (refine wp_ap9 (by rfl) (.tmp 28) (.tmp 30) (by rfl) w.heap.size c.length _ (sx c) (.string (tx y)) (by rfl) (ho.alloc _) rfl _ _ (by rfl) 9 (Arr.new wr 9 _) (by omega) (by have := (ab wr (.cells #[.string (tx y)] 9)).size; omega) ?_; intro sp1 cp1 w2 ho2 hg2))
        go_roundw
        case rel => exact ⟨0 + 1, c ++ [y], by go_num, by omega, by rw [hcl1'.out]; omega, hfn, by rw [hsx.out, hcl1'.out]; exact ho2, bl_grown (hb.alloc hbs _) (by have := (ab wr (.cells #[.string (tx y)] 9)).size; omega) hg2 (fun k hk => (own_in ho k hk).1)⟩
        case measure => simp [intOf]; omega
      · rw [if_neg hj0] at hfn
        have hj1 : (0 : Int) < j := by omega
        replace hfn := hid hfn
        have hsx : Hid (sx (c ++ [[44], y]) = (sx c ++ [.string ⟨#[44]⟩]) ++ [.string (tx y)]) := hid (by simp [sx, tx])
        have hcl1 : Hid ((c ++ [[44], y]).length = c.length + 1 + 1) := hid (by simp)
        clear hf hargs hn hsz
        go_wp2_with (first
          | (refine wp_ap9 (by rfl) (.tmp 25) (.tmp 26) (by rfl) w.heap.size c.length _ (sx c) (.string ⟨#[44]⟩) (by rfl) (ho.alloc _) rfl _ _ (by rfl) 9 (Arr.new wr 9 _) (by omega) (by have := (ab wr (.cells #[.string ⟨#[44]⟩] 9)).size; omega) ?_; intro sp1 cp1 w2 ho2 hg2; have hbd := bl_grown (hb.alloc hbs (.cells #[.string ⟨#[44]⟩] 9)) (by have := (ab wr (.cells #[.string ⟨#[44]⟩] 9)).size; omega) hg2 (fun k hk => (own_in ho k hk).1); have hbs2 := hbd.size; have g1' : w2.cell? ⟨G, j, none⟩ = some (.string (tx y)) := (hbd.cell hG).trans hcl)
          | (refine wp_ap9 (by rfl) (.tmp 28) (.tmp 30) (by rfl) w.heap.size (c.length + 1) _ (sx c ++ [.string ⟨#[44]⟩]) (.string (tx y)) (by rfl) (ho2.alloc _) rfl _ _ (by rfl) 9 (Arr.new w2 9 _) (by omega) (by have := (ab w2 (.cells #[.string (tx y)] 9)).size; omega) ?_; intro sp3 cp3 w4 ho4 hg4))
        go_roundw
        case rel => exact ⟨j + 1, c ++ [[44], y], by go_num, by omega, by rw [hcl1.out]; omega, hfn, by rw [hsx.out, hcl1.out]; exact ho4, bl_grown (hbd.alloc hbs2 _) (by have := (ab w2 (.cells #[.string (tx y)] 9)).size; omega) hg4 (fun k hk => (own_in ho2 k hk).1)⟩
        case measure => simp [intOf]; omega
    · obtain rfl : j = n := by omega
      have hWc : Hid (W = c ++ [[41]]) := hid (by rw [hf.out, hn.out, cr_end, List.append_nil])
      have hsx : Hid (sx (c ++ [[41]]) = sx c ++ [.string ⟨#[41]⟩]) := hid (by simp [sx, tx])
      have hcl1 : Hid ((c ++ [[41]]).length = c.length + 1) := hid (by simp)
      have hbs := hb.size
      clear hf hargs hn hsz
      go_wp2_with (first
        | (refine wp_ap9 (by rfl) (.tmp 33) (.tmp 34) (by rfl) w.heap.size c.length _ (sx c) (.string ⟨#[41]⟩) (by rfl) (ho.alloc _) rfl _ _ (by rfl) 9 (Arr.new wr 9 _) (by omega) (by have := (ab wr (.cells #[.string ⟨#[41]⟩] 9)).size; omega) ?_; intro sp1 cp1 w2 ho2 hg2))
      go_ret
      exact ⟨⟨_, _, rfl, rfl, by rw [hWc.out, hsx.out, hcl1.out]; exact ho2⟩, bl_grown (hb.alloc hbs _) (by have := (ab wr (.cells #[.string ⟨#[41]⟩] 9)).size; omega) hg2 (fun k hk => (own_in ho k hk).1)⟩
end Go.Proofs.YtoopgppahfnncaaDoor
/- Layer ir: a call is put. -/
namespace Go.Proofs.YtoopgppahfnncaaDoor
open Go.Shelf Go.RowKit Go.Sort
set_option maxRecDepth 100000
set_option linter.unusedVariables false
set_option linter.unusedSimpArgs false

theorem row_at {w : World} {base n cp : Nat} {sp : Option Addr} {l : List (List UInt8)} (h : w.ownsRow base 9 1 (.slice sp n cp) n (sx l)) (j : Nat) (y : List UInt8) (hy : l[j]? = some y) : ∃ G, sp = some ⟨G, 0, none⟩ ∧ G < w.heap.size ∧ w.cell? ⟨G, j, none⟩ = some (.string (tx y)) := by
  have hl : (sx l).length = n := by have := h.1; omega
  have hj := (List.getElem?_eq_some_iff.1 hy).1
  rw [sx_len] at hl
  obtain ⟨g, cap, cur, he, h1, h2, h3, h4⟩ := own_row h (by omega)
  cases he
  exact ⟨g, rfl, h3.lt, h4 j _ (by rw [sx, List.getElem?_map, hy]; rfl)⟩
set_option maxHeartbeats 4000000 in
theorem put_6 {N b d : Nat} {vs : Int} (w : World) (cs : List Value) (st : StT (d + 1)) (t : List UInt8) (hB : BX N b t w) (hN : N ≤ w.heap.size) (hT : TN N w) (hM : StM N w (d + 1) cs st) (hok : okS vs (d + 1) st) (hk : st.nd.k = 6) (hlen : t.length + (sT (d + 1) st).length ≤ 1000000000) :
    Calls Tryd.prog 32 #[.agg cs.toArray, .func (Fn.func 16) #[] #[.pointer (some ⟨b, 0, none⟩)]] w (PuP N b (t ++ sT (d + 1) st) w) := by
  obtain ⟨⟨ps, hm⟩, hsok, ha1000, hA, hTh, hEl⟩ := hok
  obtain ⟨sa, na, ca, sb, nb, cb, sc, nc, cc, rfl, -, hSa, hSb, hSc⟩ := hM
  have hnl := hSa.len
  have hs : sT (d + 1) st = sTn (sT d) st.nd := rfl
  rw [hs] at hlen ⊢
  clear hs
  obtain ⟨⟨k, v, f, tg, a, th, el⟩, ht⟩ : ∃ q : StN (StT d), q = st.nd := ⟨_, rfl⟩
  rw [← ht] at hm hsok ha1000 hA hTh hEl hSa hSb hSc hnl hlen hk ⊢
  clear ht
  have hk' : k = 6 := hk
  subst hk'
  clear hk
  have hv64 : I64 v := hsok.v
  have ht64 : I64 tg := hsok.t
  have hf64 : I64 f := hsok.f
  replace hnl : Hid (na = a.length) := hnl
  have ha400 : a.length ≤ 400 := ha1000
  replace ha1000 : a.length ≤ 1000 := by omega
  replace hA : ∀ q ∈ a, okT vs 8 q := hA
  replace hSa : RS N w 5 (ExM N w 8) sa na ca a := hSa
  have hres : sTn (sT d) (⟨6, v, f, tg, a, th, el⟩ : StN (StT d)) = ln (cWords v f (a.map (xT 8))) := rfl
  rw [hres] at hlen ⊢
  clear hres hsok hm
  have b0 := ab w (.cells #[.int .u8 6, .int .i64 v, .int .i64 f, .int .i64 tg, .slice sa na ca, .slice sb nb cb, .slice sc nc cc] 66)
  have A := Arr.new w 66 #[.int .u8 6, .int .i64 v, .int .i64 f, .int .i64 tg, .slice sa na ca, .slice sb nb cb, .slice sc nc cc]
  have hx43 := texts_any (etx_any N vs 8 (by omega)) (w.alloc (.cells #[.int .u8 6, .int .i64 v, .int .i64 f, .int .i64 tg, .slice sa na ca, .slice sb nb cb, .slice sc nc cc] 66)) (hSa.imp (b0.mono hN) (ExM.below (b0.mono hN) 8)) hA (by rw [hnl.out]; omega) (Nat.le_trans hN b0.size) (hT.tb.bl b0)
  have a0 := A.cell 0
  have a4 := A.cell 4
  have hwd := fun (asp : Option Addr) (ac : Nat) (u : World) (hTu : Tb u) hargs => words_any (k := 6) (tg := tg) (sa := sa) (sb := sb) (sc := sc) (asp := asp) (na := na) (ca := ca) (nb := nb) (cb := cb) (nc := nc) (cc := cc) (n := na) (ac := ac) (l := a.map (xT 8)) u hv64 hf64 hTu (by rw [List.length_map]; exact hnl.out) (by rw [hnl.out]; exact ha1000) (by
    intro y hy
    obtain ⟨q, hq, rfl⟩ := List.mem_map.1 hy
    have := xT_len vs 8 q (hA q hq)
    omega) hargs
  have hWl : (cWords v f (a.map (xT 8))).length ≤ 1000 ∨ True := .inr trivial
  have hcwl : ∀ l : List (List UInt8), (cw l).length ≤ 2 * l.length := fun l => by
    cases l with
    | nil => simp [cw]
    | cons x r =>
      simp only [cw, List.length_cons]
      have : ∀ r : List (List UInt8), (r.flatMap fun y => [[44], y]).length = 2 * r.length := fun r => by
        induction r with
        | nil => rfl
        | cons z r ih => simp only [List.flatMap_cons, List.length_append, List.length_cons, List.length_nil, ih]; omega
      rw [this]; omega
  have hW1 : (cWords v f (a.map (xT 8))).length ≤ 4 + 2 * a.length + 1 := by
    unfold cWords
    have := hcwl (a.map (xT 8))
    simp only [List.length_append, List.length_cons, List.length_nil, List.length_map] at this ⊢
    omega
  have hna := hnl.out
  have hW2 : Hid (a.length ≤ 64 → (cWords v f (a.map (xT 8))).length ≤ 1000) := hid (fun h => by omega)
  have hW3 : Hid ((cWords v f (a.map (xT 8))).length ≤ 1000) := hid (by have := ha400; omega)
  have hW4 : Hid (0 < (cWords v f (a.map (xT 8))).length) := hid (by unfold cWords; simp)
  generalize hV : cWords v f (a.map (xT 8)) = W at *
  generalize hL : a.map (xT 8) = al at *
  clear hSa hSb hSc hA hTh hEl hnl ha1000 ha400 hW1 hWl hcwl hna
  replace hV := hid hV
  replace hL := hid hL
  replace hlen := hid hlen
  show Calls Tryd.prog 32 #[.agg #[.int .u8 6, .int .i64 v, .int .i64 f, .int .i64 tg, .slice sa na ca, .slice sb nb cb, .slice sc nc cc], .func (Fn.func 16) #[] #[.pointer (some ⟨b, 0, none⟩)]] w _
  go_enter Tryd.func32, Tryd.ntmps32
  go_wp2_with (first
    | (go_at_call 43; go_must (refine hx43.mono ?_; rintro e w1 ⟨⟨pv, rfl, hown⟩, hb1⟩; obtain ⟨asp, ac, rfl⟩ := own_slc hown; have A1 := A.bl hb1; have k0 := A1.cell 0; have k1 := A1.cell 1; have k2 := A1.cell 2; have k3 := A1.cell 3; have k4 := A1.cell 4; have k5 := A1.cell 5; have k6 := A1.cell 6; have hB01 := b0.trans (hb1.mono b0.size); have hX1 := hB.keep hB01; have hN1 := Nat.le_trans hN hB01.size; have hT1 := hT.bl (hB01.mono hN); have hcall := hwd asp ac w1 hT1.tb (fun j y hy => (row_at hown j y hy))))
    | (go_at_call 45; go_must (refine hcall.mono ?_; rintro e w2 ⟨⟨v', m, rfl, hm, how⟩, hb2⟩; obtain ⟨G, cp, cur, rfl, hG1, hG2, hG3, hG4⟩ := own_row how (by rw [hm]; exact hW4.out); subst hm; have hX2 := hX1.keep hb2; have hN2 := Nat.le_trans hN1 hb2.size))
    | (go_at_call 16; go_must (refine (put16_any (o := 0) (ws := W) w2 hX2 hN2 (fun j s hs => by rw [Nat.zero_add]; exact hG4 j _ (by rw [sx, List.getElem?_map, hs]; rfl)) hG3.lt hG2 hW3.out hlen.out).mono ?_; rintro e w3 ⟨rfl, hX3, hK3⟩)))
  go_end0
  exact ⟨rfl, hX3, (BK.ob hN hB01).trans ((BK.ob hN1 hb2).trans hK3)⟩

theorem puS_any (N b : Nat) (vs : Int) : ∀ d : Nat, PuS N b vs d
  | 0 => fun _ _ _ _ _ _ _ _ h => by cases h
  | d + 1 => fun w cs st t hB hN hT hM hok hlen => by
    have hE := puS_any N b vs d
    by_cases h1 : st.nd.k = 1
    · exact put_1 w cs st t hB hN hT hM hok h1 hlen
    by_cases h2 : st.nd.k = 2
    · exact put_2 w cs st t hB hN hT hM hok h2 hlen
    by_cases h3 : st.nd.k = 3
    · exact put_3 w cs st t hB hN hT hM hok h3 hlen hE
    by_cases h4 : st.nd.k = 4
    · exact put_4 w cs st t hB hN hT hM hok h4 hlen hE
    by_cases h5 : st.nd.k = 5
    · exact put_5 w cs st t hB hN hT hM hok h5 hlen
    by_cases h6 : st.nd.k = 6
    · exact put_6 w cs st t hB hN hT hM hok h6 hlen
    by_cases h7 : st.nd.k = 7
    · exact put_7 w cs st t hB hN hT hM hok h7 hlen
    by_cases h8 : st.nd.k = 8
    · exact put_8 w cs st t hB hN hT hM hok h8 hlen
    by_cases h9 : st.nd.k = 9
    · exact put_9 w cs st t hB hN hT hM hok h9 hlen
    · obtain ⟨⟨ps, hm⟩, -⟩ := hok
      unfold mayS at hm
      simp [h1, h2, h3, h4, h5, h6, h7, h8, h9] at hm
end Go.Proofs.YtoopgppahfnncaaDoor
/- Layer ir: the document's text of a statement. -/
namespace Go.Proofs.YtoopgppahfnncaaDoor
open Go.Shelf Go.RowKit Go.Sort
set_option maxRecDepth 100000
set_option linter.unusedVariables false
set_option linter.unusedSimpArgs false

set_option maxHeartbeats 4000000 in
theorem dst_1 {N d : Nat} {vs : Int} (w : World) (cs : List Value) (st : StT (d + 1)) (hN : N ≤ w.heap.size) (hT : Tb w) (hM : StM N w (d + 1) cs st) (hok : okS vs (d + 1) st) (hk : st.nd.k = 1) (hlen : (sT (d + 1) st).length ≤ 1000000000) :
    Calls Tryd.prog 33 #[.agg cs.toArray] w (TxP (sT (d + 1) st) w) := by
  obtain ⟨⟨ps, hm⟩, hsok, ha400, hA, hTh, hEl⟩ := hok
  obtain ⟨sa, na, ca, sb, nb, cb, sc, nc, cc, rfl, -, hSa, hSb, hSc⟩ := hM
  have hnl := hSa.len
  have hs : sT (d + 1) st = sTn (sT d) st.nd := rfl
  rw [hs] at hlen ⊢
  clear hs
  obtain ⟨⟨k, v, f, tg, a, th, el⟩, ht⟩ : ∃ q : StN (StT d), q = st.nd := ⟨_, rfl⟩
  rw [← ht] at hm hsok ha400 hA hTh hEl hSa hSb hSc hnl hlen hk ⊢
  clear ht
  have hk' : k = 1 := hk
  subst hk'
  clear hk
  have hv64 : I64 v := hsok.v
  have ht64 : I64 tg := hsok.t
  have hf64 : I64 f := hsok.f
  replace hnl : Hid (na = a.length) := hnl
  replace hA : ∀ q ∈ a, okT vs 8 q := hA
  replace hTh : ∀ q ∈ th, okS vs d q := hTh
  replace hEl : ∀ q ∈ el, okS vs d q := hEl
  replace hSa : RS N w 5 (ExM N w 8) sa na ca a := hSa
  replace hSb : RS N w 7 (StM N w d) sb nb cb th := hSb
  replace hSc : RS N w 7 (StM N w d) sc nc cc el := hSc
  have hal : a.length = 1 := by
    unfold mayS at hm
    simp at hm
    omega
  match a, hal, hnl, hA, hSa, hlen with
  | [x], hal, hnl, hA, hSa, hlen =>
    have hna : na = 1 := hnl.out
    subst hna
    have hres : sTn (sT d) (⟨1, v, f, tg, [x], th, el⟩ : StN (StT d)) = ln [vT v, [61], xT 8 x] := rfl
    rw [hres] at hlen ⊢
    clear hres hsok hm
    have b0 := ab w (.cells #[.int .u8 1, .int .i64 v, .int .i64 f, .int .i64 tg, .slice sa 1 ca, .slice sb nb cb, .slice sc nc cc] 66)
    have A := Arr.new w 66 #[.int .u8 1, .int .i64 v, .int .i64 f, .int .i64 tg, .slice sa 1 ca, .slice sb nb cb, .slice sc nc cc]
    have htU := hT.bl b0
    have hi1 := itoa_any v _ hv64 htU
    have hvl := itoa_len v hv64
    rw [← tx_size] at hvl
    have a0 := A.cell 0
    have a1 := A.cell 1
    have a4 := A.cell 4
    show Calls Tryd.prog 33 #[.agg #[.int .u8 1, .int .i64 v, .int .i64 f, .int .i64 tg, .slice sa 1 ca, .slice sb nb cb, .slice sc nc cc]] w _
    obtain ⟨g, off, rfl, hg, hR⟩ := hSa.at0 (by omega)
    obtain ⟨cs1, hrg, hM1⟩ := hR 0 x rfl
    obtain ⟨ek, en, ev, eo, es, em, ec, rfl⟩ := hM1.cells
    have lX := xT_len vs 8 x (hA x (by simp))
    have hxf : ∀ u, Below N w u → Tb u → Calls Tryd.prog 46 #[.agg (exC ek en ev eo (.slice es em ec)).toArray] u (TxP (xT 8 x) u) := fun u hb hTu => dtx_any N vs 8 (by omega) u _ x (Nat.le_trans hN hb.size) hTu (ExM.below hb 8 _ x hM1) (hA x (by simp))
    rw [← tx_size] at lX
    have he : tx (ln [vT v, [61], xT 8 x]) = ⟨#[118]⟩ ++ tx (Lib.itoa v) ++ ⟨#[32, 61, 32]⟩ ++ tx (xT 8 x) ++ ⟨#[10]⟩ := by
      have e : ln [vT v, [61], xT 8 x] = [118] ++ (Lib.itoa v) ++ [32, 61, 32] ++ (xT 8 x) ++ [10] := by simp [ln, Lib.join_cons, Lib.joinTail, vT, jr]
      rw [e]
      simp only [← tx_app]
      rfl
    unfold TxP at *
    rw [he]
    clear he
    generalize tx (Lib.itoa v) = sV at *
    generalize tx (xT 8 x) = sX at *
    have p1 : ¬ 9223372036854775807 < 1 + sV.size := by omega
    have p2 : ¬ 9223372036854775807 < 1 + sV.size + 3 := by omega
    have q1 : ¬ 9223372036854775807 < 1 + sV.size := by omega
    have q2 : ¬ 9223372036854775807 < 1 + sV.size + 3 := by omega
    have q3 : ¬ 9223372036854775807 < 1 + sV.size + 3 + sX.size := by omega
    have q4 : ¬ 9223372036854775807 < 1 + sV.size + 3 + sX.size + 1 := by omega
    clear hSa hSb hSc hA hTh hEl hnl hal ha400 hlen hvl lX hR hM1
    have U0 := A.lt
    unfold exC at *
    go_enter Tryd.func33, Tryd.ntmps33
    go_wp2_with (first
      | (go_at_call 20; go_must (refine hi1.mono ?_; rintro e w1 ⟨rfl, hb1⟩; have A1 := A.bl hb1; have k0 := A1.cell 0; have k4 := A1.cell 4; have hT1 := htU.bl hb1; have hB1 := b0.trans (hb1.mono b0.size); have hBN := hB1.mono hN; have hrg1 := rb hrg hBN hg; have c0 := hrg1 0 _ rfl; have c1 := hrg1 1 _ rfl; have c2 := hrg1 2 _ rfl; have c3 := hrg1 3 _ rfl; have c4 := hrg1 4 _ rfl; simp only [Nat.zero_mul, Nat.add_zero] at c0 c1 c2 c3 c4; have hx := hxf w1 hBN hT1))
      | (go_at_call 46; go_must (refine hx.mono ?_; rintro e w2 ⟨rfl, hb2⟩)))
    go_ret
    exact ⟨rfl, hB1.trans (hb2.mono hB1.size)⟩
set_option maxHeartbeats 4000000 in
theorem dst_5 {N d : Nat} {vs : Int} (w : World) (cs : List Value) (st : StT (d + 1)) (hN : N ≤ w.heap.size) (hT : Tb w) (hM : StM N w (d + 1) cs st) (hok : okS vs (d + 1) st) (hk : st.nd.k = 5) (hlen : (sT (d + 1) st).length ≤ 1000000000) :
    Calls Tryd.prog 33 #[.agg cs.toArray] w (TxP (sT (d + 1) st) w) := by
  obtain ⟨⟨ps, hm⟩, hsok, ha400, hA, hTh, hEl⟩ := hok
  obtain ⟨sa, na, ca, sb, nb, cb, sc, nc, cc, rfl, -, hSa, hSb, hSc⟩ := hM
  have hnl := hSa.len
  have hs : sT (d + 1) st = sTn (sT d) st.nd := rfl
  rw [hs] at hlen ⊢
  clear hs
  obtain ⟨⟨k, v, f, tg, a, th, el⟩, ht⟩ : ∃ q : StN (StT d), q = st.nd := ⟨_, rfl⟩
  rw [← ht] at hm hsok ha400 hA hTh hEl hSa hSb hSc hnl hlen hk ⊢
  clear ht
  have hk' : k = 5 := hk
  subst hk'
  clear hk
  have hv64 : I64 v := hsok.v
  have ht64 : I64 tg := hsok.t
  have hf64 : I64 f := hsok.f
  replace hnl : Hid (na = a.length) := hnl
  replace hA : ∀ q ∈ a, okT vs 8 q := hA
  replace hTh : ∀ q ∈ th, okS vs d q := hTh
  replace hEl : ∀ q ∈ el, okS vs d q := hEl
  replace hSa : RS N w 5 (ExM N w 8) sa na ca a := hSa
  replace hSb : RS N w 7 (StM N w d) sb nb cb th := hSb
  replace hSc : RS N w 7 (StM N w d) sc nc cc el := hSc
  have hal : a.length = 1 := by
    unfold mayS at hm
    simp at hm
    omega
  match a, hal, hnl, hA, hSa, hlen with
  | [x], hal, hnl, hA, hSa, hlen =>
    have hna : na = 1 := hnl.out
    subst hna
    have hres : sTn (sT d) (⟨5, v, f, tg, [x], th, el⟩ : StN (StT d)) = ln [[114, 101, 116, 117, 114, 110], xT 8 x] := rfl
    rw [hres] at hlen ⊢
    clear hres hsok hm
    have b0 := ab w (.cells #[.int .u8 5, .int .i64 v, .int .i64 f, .int .i64 tg, .slice sa 1 ca, .slice sb nb cb, .slice sc nc cc] 66)
    have A := Arr.new w 66 #[.int .u8 5, .int .i64 v, .int .i64 f, .int .i64 tg, .slice sa 1 ca, .slice sb nb cb, .slice sc nc cc]
    have htU := hT.bl b0
    have hi1 := itoa_any v _ hv64 htU
    have hvl := itoa_len v hv64
    rw [← tx_size] at hvl
    have a0 := A.cell 0
    have a1 := A.cell 1
    have a4 := A.cell 4
    show Calls Tryd.prog 33 #[.agg #[.int .u8 5, .int .i64 v, .int .i64 f, .int .i64 tg, .slice sa 1 ca, .slice sb nb cb, .slice sc nc cc]] w _
    obtain ⟨g, off, rfl, hg, hR⟩ := hSa.at0 (by omega)
    obtain ⟨cs1, hrg, hM1⟩ := hR 0 x rfl
    obtain ⟨ek, en, ev, eo, es, em, ec, rfl⟩ := hM1.cells
    have lX := xT_len vs 8 x (hA x (by simp))
    have hxf : ∀ u, Below N w u → Tb u → Calls Tryd.prog 46 #[.agg (exC ek en ev eo (.slice es em ec)).toArray] u (TxP (xT 8 x) u) := fun u hb hTu => dtx_any N vs 8 (by omega) u _ x (Nat.le_trans hN hb.size) hTu (ExM.below hb 8 _ x hM1) (hA x (by simp))
    rw [← tx_size] at lX
    have he : tx (ln [[114, 101, 116, 117, 114, 110], xT 8 x]) = ⟨#[114, 101, 116, 117, 114, 110, 32]⟩ ++ tx (xT 8 x) ++ ⟨#[10]⟩ := by
      have e : ln [[114, 101, 116, 117, 114, 110], xT 8 x] = [114, 101, 116, 117, 114, 110, 32] ++ (xT 8 x) ++ [10] := by simp [ln, Lib.join_cons, Lib.joinTail, vT, jr]
      rw [e]
      simp only [← tx_app]
      rfl
    unfold TxP at *
    rw [he]
    clear he
    generalize tx (Lib.itoa v) = sV at *
    generalize tx (xT 8 x) = sX at *
    have p1 : ¬ 9223372036854775807 < 1 + sV.size := by omega
    have p2 : ¬ 9223372036854775807 < 1 + sV.size + 3 := by omega
    have q1 : ¬ 9223372036854775807 < 7 + sX.size := by omega
    have q2 : ¬ 9223372036854775807 < 7 + sX.size + 1 := by omega
    clear hSa hSb hSc hA hTh hEl hnl hal ha400 hlen hvl lX hR hM1
    have U0 := A.lt
    unfold exC at *
    go_enter Tryd.func33, Tryd.ntmps33
    go_wp2_with (first
      | (go_at_call 20; go_must (refine hi1.mono ?_; rintro e w1 ⟨rfl, hb1⟩; have A1 := A.bl hb1; have k0 := A1.cell 0; have k4 := A1.cell 4; have hT1 := htU.bl hb1; have hB1 := b0.trans (hb1.mono b0.size); have hBN := hB1.mono hN; have hrg1 := rb hrg hBN hg; have c0 := hrg1 0 _ rfl; have c1 := hrg1 1 _ rfl; have c2 := hrg1 2 _ rfl; have c3 := hrg1 3 _ rfl; have c4 := hrg1 4 _ rfl; simp only [Nat.zero_mul, Nat.add_zero] at c0 c1 c2 c3 c4; have hx := hxf w1 hBN hT1))
      | (go_at_call 46; go_must (refine hx.mono ?_; rintro e w2 ⟨rfl, hb2⟩)))
    go_ret
    exact ⟨rfl, hB1.trans (hb2.mono hB1.size)⟩
set_option maxHeartbeats 4000000 in
theorem dst_9 {N d : Nat} {vs : Int} (w : World) (cs : List Value) (st : StT (d + 1)) (hN : N ≤ w.heap.size) (hT : Tb w) (hM : StM N w (d + 1) cs st) (hok : okS vs (d + 1) st) (hk : st.nd.k = 9) (hlen : (sT (d + 1) st).length ≤ 1000000000) :
    Calls Tryd.prog 33 #[.agg cs.toArray] w (TxP (sT (d + 1) st) w) := by
  obtain ⟨⟨ps, hm⟩, hsok, ha400, hA, hTh, hEl⟩ := hok
  obtain ⟨sa, na, ca, sb, nb, cb, sc, nc, cc, rfl, -, hSa, hSb, hSc⟩ := hM
  have hnl := hSa.len
  have hs : sT (d + 1) st = sTn (sT d) st.nd := rfl
  rw [hs] at hlen ⊢
  clear hs
  obtain ⟨⟨k, v, f, tg, a, th, el⟩, ht⟩ : ∃ q : StN (StT d), q = st.nd := ⟨_, rfl⟩
  rw [← ht] at hm hsok ha400 hA hTh hEl hSa hSb hSc hnl hlen hk ⊢
  clear ht
  have hk' : k = 9 := hk
  subst hk'
  clear hk
  have hv64 : I64 v := hsok.v
  have ht64 : I64 tg := hsok.t
  have hf64 : I64 f := hsok.f
  replace hnl : Hid (na = a.length) := hnl
  replace hA : ∀ q ∈ a, okT vs 8 q := hA
  replace hTh : ∀ q ∈ th, okS vs d q := hTh
  replace hEl : ∀ q ∈ el, okS vs d q := hEl
  replace hSa : RS N w 5 (ExM N w 8) sa na ca a := hSa
  replace hSb : RS N w 7 (StM N w d) sb nb cb th := hSb
  replace hSc : RS N w 7 (StM N w d) sc nc cc el := hSc
  have hal : a.length = 1 := by
    unfold mayS at hm
    simp at hm
    omega
  match a, hal, hnl, hA, hSa, hlen with
  | [x], hal, hnl, hA, hSa, hlen =>
    have hna : na = 1 := hnl.out
    subst hna
    have hres : sTn (sT d) (⟨9, v, f, tg, [x], th, el⟩ : StN (StT d)) = ln [vT v, [61], [112, 108, 101, 110], xT 8 x] := rfl
    rw [hres] at hlen ⊢
    clear hres hsok hm
    have b0 := ab w (.cells #[.int .u8 9, .int .i64 v, .int .i64 f, .int .i64 tg, .slice sa 1 ca, .slice sb nb cb, .slice sc nc cc] 66)
    have A := Arr.new w 66 #[.int .u8 9, .int .i64 v, .int .i64 f, .int .i64 tg, .slice sa 1 ca, .slice sb nb cb, .slice sc nc cc]
    have htU := hT.bl b0
    have hi1 := itoa_any v _ hv64 htU
    have hvl := itoa_len v hv64
    rw [← tx_size] at hvl
    have a0 := A.cell 0
    have a1 := A.cell 1
    have a4 := A.cell 4
    show Calls Tryd.prog 33 #[.agg #[.int .u8 9, .int .i64 v, .int .i64 f, .int .i64 tg, .slice sa 1 ca, .slice sb nb cb, .slice sc nc cc]] w _
    have lX : (tx (jr (xT 8) [32] [x] 0 [])).size ≤ 100000 := by
      rw [tx_size]
      have lx := xT_len vs 8 x (hA x (by simp))
      simp only [jr, List.length_append, List.length_cons, List.length_nil]
      simp
      omega
    have hrf : ∀ u, Below N w u → Tb u → Calls Tryd.prog 47 #[.slice sa 1 ca, .string ⟨#[32]⟩] u (TxP (jr (xT 8) [32] [x] 0 []) u) := fun u hb hTu => row_any [32] (by omega) (by simp) u (hSa.imp hb (ExM.below hb 8)) hA (Nat.le_trans hN hb.size) hTu
    have he : tx (ln [vT v, [61], [112, 108, 101, 110], xT 8 x]) = ⟨#[118]⟩ ++ tx (Lib.itoa v) ++ ⟨#[32, 61, 32]⟩ ++ ⟨#[112, 108, 101, 110, 32]⟩ ++ tx (jr (xT 8) [32] [x] 0 []) ++ ⟨#[10]⟩ := by
      have e : ln [vT v, [61], [112, 108, 101, 110], xT 8 x] = [118] ++ (Lib.itoa v) ++ [32, 61, 32] ++ [112, 108, 101, 110, 32] ++ (jr (xT 8) [32] [x] 0 []) ++ [10] := by simp [ln, Lib.join_cons, Lib.joinTail, vT, jr]
      rw [e]
      simp only [← tx_app]
      rfl
    unfold TxP at *
    rw [he]
    clear he
    generalize tx (Lib.itoa v) = sV at *
    generalize tx (jr (xT 8) [32] [x] 0 []) = sR at *
    have p1 : ¬ 9223372036854775807 < 1 + sV.size := by omega
    have p2 : ¬ 9223372036854775807 < 1 + sV.size + 3 := by omega
    have q1 : ¬ 9223372036854775807 < 1 + sV.size := by omega
    have q2 : ¬ 9223372036854775807 < 1 + sV.size + 3 := by omega
    have q3 : ¬ 9223372036854775807 < 1 + sV.size + 3 + 5 := by omega
    have q4 : ¬ 9223372036854775807 < 1 + sV.size + 3 + 5 + sR.size := by omega
    have q5 : ¬ 9223372036854775807 < 1 + sV.size + 3 + 5 + sR.size + 1 := by omega
    clear hSa hSb hSc hA hTh hEl hnl hal ha400 hlen hvl lX
    have U0 := A.lt
    go_enter Tryd.func33, Tryd.ntmps33
    go_wp2_with (first
      | (go_at_call 20; go_must (refine hi1.mono ?_; rintro e w1 ⟨rfl, hb1⟩; have A1 := A.bl hb1; have k0 := A1.cell 0; have k4 := A1.cell 4; have hT1 := htU.bl hb1; have hB1 := b0.trans (hb1.mono b0.size); have hBN := hB1.mono hN; have hr := hrf w1 hBN hT1))
      | (go_at_call 47; go_must (refine hr.mono ?_; rintro e w2 ⟨rfl, hb2⟩)))
    go_ret
    exact ⟨rfl, hB1.trans (hb2.mono hB1.size)⟩
set_option maxHeartbeats 4000000 in
theorem dst_8 {N d : Nat} {vs : Int} (w : World) (cs : List Value) (st : StT (d + 1)) (hN : N ≤ w.heap.size) (hT : Tb w) (hM : StM N w (d + 1) cs st) (hok : okS vs (d + 1) st) (hk : st.nd.k = 8) (hlen : (sT (d + 1) st).length ≤ 1000000000) :
    Calls Tryd.prog 33 #[.agg cs.toArray] w (TxP (sT (d + 1) st) w) := by
  obtain ⟨⟨ps, hm⟩, hsok, ha400, hA, hTh, hEl⟩ := hok
  obtain ⟨sa, na, ca, sb, nb, cb, sc, nc, cc, rfl, -, hSa, hSb, hSc⟩ := hM
  have hnl := hSa.len
  have hs : sT (d + 1) st = sTn (sT d) st.nd := rfl
  rw [hs] at hlen ⊢
  clear hs
  obtain ⟨⟨k, v, f, tg, a, th, el⟩, ht⟩ : ∃ q : StN (StT d), q = st.nd := ⟨_, rfl⟩
  rw [← ht] at hm hsok ha400 hA hTh hEl hSa hSb hSc hnl hlen hk ⊢
  clear ht
  have hk' : k = 8 := hk
  subst hk'
  clear hk
  have hv64 : I64 v := hsok.v
  have ht64 : I64 tg := hsok.t
  have hf64 : I64 f := hsok.f
  replace hnl : Hid (na = a.length) := hnl
  replace hA : ∀ q ∈ a, okT vs 8 q := hA
  replace hTh : ∀ q ∈ th, okS vs d q := hTh
  replace hEl : ∀ q ∈ el, okS vs d q := hEl
  replace hSa : RS N w 5 (ExM N w 8) sa na ca a := hSa
  replace hSb : RS N w 7 (StM N w d) sb nb cb th := hSb
  replace hSc : RS N w 7 (StM N w d) sc nc cc el := hSc
  have hal : a.length = 2 := by
    unfold mayS at hm
    simp at hm
    omega
  match a, hal, hnl, hA, hSa, hlen with
  | [x, y], hal, hnl, hA, hSa, hlen =>
    have hna : na = 2 := hnl.out
    subst hna
    have hres : sTn (sT d) (⟨8, v, f, tg, [x, y], th, el⟩ : StN (StT d)) = ln [vT v, [61], [112, 114, 101], xT 8 x, xT 8 y] := rfl
    rw [hres] at hlen ⊢
    clear hres hsok hm
    have b0 := ab w (.cells #[.int .u8 8, .int .i64 v, .int .i64 f, .int .i64 tg, .slice sa 2 ca, .slice sb nb cb, .slice sc nc cc] 66)
    have A := Arr.new w 66 #[.int .u8 8, .int .i64 v, .int .i64 f, .int .i64 tg, .slice sa 2 ca, .slice sb nb cb, .slice sc nc cc]
    have htU := hT.bl b0
    have hi1 := itoa_any v _ hv64 htU
    have hvl := itoa_len v hv64
    rw [← tx_size] at hvl
    have a0 := A.cell 0
    have a1 := A.cell 1
    have a4 := A.cell 4
    show Calls Tryd.prog 33 #[.agg #[.int .u8 8, .int .i64 v, .int .i64 f, .int .i64 tg, .slice sa 2 ca, .slice sb nb cb, .slice sc nc cc]] w _
    have lX : (tx (jr (xT 8) [32] [x, y] 0 [])).size ≤ 100000 := by
      rw [tx_size]
      have lx := xT_len vs 8 x (hA x (by simp))
      have ly := xT_len vs 8 y (hA y (by simp))
      simp only [jr, List.length_append, List.length_cons, List.length_nil]
      simp
      omega
    have hrf : ∀ u, Below N w u → Tb u → Calls Tryd.prog 47 #[.slice sa 2 ca, .string ⟨#[32]⟩] u (TxP (jr (xT 8) [32] [x, y] 0 []) u) := fun u hb hTu => row_any [32] (by omega) (by simp) u (hSa.imp hb (ExM.below hb 8)) hA (Nat.le_trans hN hb.size) hTu
    have he : tx (ln [vT v, [61], [112, 114, 101], xT 8 x, xT 8 y]) = ⟨#[118]⟩ ++ tx (Lib.itoa v) ++ ⟨#[32, 61, 32]⟩ ++ ⟨#[112, 114, 101, 32]⟩ ++ tx (jr (xT 8) [32] [x, y] 0 []) ++ ⟨#[10]⟩ := by
      have e : ln [vT v, [61], [112, 114, 101], xT 8 x, xT 8 y] = [118] ++ (Lib.itoa v) ++ [32, 61, 32] ++ [112, 114, 101, 32] ++ (jr (xT 8) [32] [x, y] 0 []) ++ [10] := by simp [ln, Lib.join_cons, Lib.joinTail, vT, jr]
      rw [e]
      simp only [← tx_app]
      rfl
    unfold TxP at *
    rw [he]
    clear he
    generalize tx (Lib.itoa v) = sV at *
    generalize tx (jr (xT 8) [32] [x, y] 0 []) = sR at *
    have p1 : ¬ 9223372036854775807 < 1 + sV.size := by omega
    have p2 : ¬ 9223372036854775807 < 1 + sV.size + 3 := by omega
    have q1 : ¬ 9223372036854775807 < 1 + sV.size := by omega
    have q2 : ¬ 9223372036854775807 < 1 + sV.size + 3 := by omega
    have q3 : ¬ 9223372036854775807 < 1 + sV.size + 3 + 4 := by omega
    have q4 : ¬ 9223372036854775807 < 1 + sV.size + 3 + 4 + sR.size := by omega
    have q5 : ¬ 9223372036854775807 < 1 + sV.size + 3 + 4 + sR.size + 1 := by omega
    clear hSa hSb hSc hA hTh hEl hnl hal ha400 hlen hvl lX
    have U0 := A.lt
    go_enter Tryd.func33, Tryd.ntmps33
    go_wp2_with (first
      | (go_at_call 20; go_must (refine hi1.mono ?_; rintro e w1 ⟨rfl, hb1⟩; have A1 := A.bl hb1; have k0 := A1.cell 0; have k4 := A1.cell 4; have hT1 := htU.bl hb1; have hB1 := b0.trans (hb1.mono b0.size); have hBN := hB1.mono hN; have hr := hrf w1 hBN hT1))
      | (go_at_call 47; go_must (refine hr.mono ?_; rintro e w2 ⟨rfl, hb2⟩)))
    go_ret
    exact ⟨rfl, hB1.trans (hb2.mono hB1.size)⟩
end Go.Proofs.YtoopgppahfnncaaDoor
