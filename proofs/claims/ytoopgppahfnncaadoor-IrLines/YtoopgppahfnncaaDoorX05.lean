/- Ta, Pa, Pb, Pc. -/
import Derived.Test.YtoopgppahfnncaaDoorX04
import Derived.LoopNIn
import Derived.LoopIn
import Derived.LoopTactic
/- Layer ir: the text of statements. -/
namespace Go.Proofs.YtoopgppahfnncaaDoor
open Go.Shelf Go.RowKit Go.Sort
set_option maxRecDepth 100000
set_option linter.unusedVariables false
set_option linter.unusedSimpArgs false


/-- A table of powers that lies under all that changes. -/
def TN (N : Nat) (w : World) : Prop := ∃ w0 : World, w0.heap.size = N ∧ Tb w0 ∧ Below N w0 w
theorem TN.tb {N : Nat} {w : World} (h : TN N w) : Tb w := by obtain ⟨w0, rfl, h1, h2⟩ := h; exact h1.bl h2
theorem TN.bl {N : Nat} {w w' : World} (h : TN N w) (hb : Below N w w') : TN N w' := by obtain ⟨w0, h0, h1, h2⟩ := h; exact ⟨w0, h0, h1, h2.trans hb⟩
def vT (v : Int) : List UInt8 := 118 :: Lib.itoa v
/-- The arguments of a call, as words. -/
def cw : List (List UInt8) → List (List UInt8)
  | [] => []
  | x :: r => x :: r.flatMap fun y => [[44], y]
def cWords (v f : Int) (l : List (List UInt8)) : List (List UInt8) := [vT v, [61], 102 :: Lib.itoa f, [40]] ++ cw l ++ [[41]]
/-- A statement's text. -/
def sTn {α : Type} (S : α → List UInt8) (t : StN α) : List UInt8 :=
  if t.k = 1 then (match t.a with | [x] => ln [vT t.v, [61], xT 8 x] | _ => [])
  else if t.k = 2 then (match t.a with | [x, y] => ln [[91], xT 8 x, [93], [61], xT 8 y] | _ => [])
  else if t.k = 3 then (match t.a with | [x] => ln [[105, 102], xT 8 x] ++ (t.th.map S).flatten ++ ln [[101, 108, 115, 101]] ++ (t.el.map S).flatten ++ ln [[101, 110, 100]] | _ => [])
  else if t.k = 4 then (match t.a with | [x] => ln [[119, 104, 105, 108, 101], xT 8 x] ++ (t.th.map S).flatten ++ ln [[101, 110, 100]] | _ => [])
  else if t.k = 5 then (match t.a with | [x] => ln [[114, 101, 116, 117, 114, 110], xT 8 x] | _ => [])
  else if t.k = 6 then ln (cWords t.v t.f (t.a.map (xT 8)))
  else if t.k = 7 then (match t.a with | [x, y, z] => ln [[104, 97, 115, 104], Lib.itoa t.t, xT 8 x, xT 8 y, xT 8 z] | _ => [])
  else if t.k = 8 then (match t.a with | [x, y] => ln [vT t.v, [61], [112, 114, 101], xT 8 x, xT 8 y] | _ => [])
  else (match t.a with | [x] => ln [vT t.v, [61], [112, 108, 101, 110], xT 8 x] | _ => [])
def sT : (d : Nat) → StT d → List UInt8
  | 0, _ => []
  | d + 1, t => sTn (sT d) t.nd
def sL (d : Nat) (l : List (StT d)) : List UInt8 := (l.map (sT d)).flatten
/-- A statement that may be, with all its parts. -/
def okS (vs : Int) : (d : Nat) → StT d → Prop
  | 0, _ => False
  | d + 1, t => (∃ ps, mayS ps vs t.nd = true) ∧ t.nd.ok ∧ t.nd.a.length ≤ 400 ∧ (∀ a ∈ t.nd.a, okT vs 8 a) ∧ (∀ a ∈ t.nd.th, okS vs d a) ∧ ∀ a ∈ t.nd.el, okS vs d a
/-- A line, laid and put. -/
theorem put_lit {N b n : Nat} {ws : List (List UInt8)} {t : List UInt8} (w : World) (hB : BX N b t w) (hN : N ≤ w.heap.size) (C : Array Value) (hC : C = (sx ws).toArray) (hn : n = ws.length) (hw : ws.length ≤ 1000) (hlen : t.length + (ln ws).length ≤ 1000000000) :
    Calls Tryd.prog 16 #[.slice (some ⟨w.heap.size, 0, none⟩) n n, .pointer (some ⟨b, 0, none⟩)] (w.alloc (.cells C 9)) fun e w' => e = .returned (.tuple #[]) ∧ BX N b (t ++ ln ws) w' ∧ BK N b w w' := by
  subst hn
  have b0 := ab w (.cells C 9)
  refine (put16_any (g := w.heap.size) (o := 0) (c := ws.length) (ws := ws) (w.alloc (.cells C 9)) (hB.keep b0) (Nat.le_trans hN b0.size) (fun j s hs => ?_) (Arr.new w 9 C).lt (Nat.le_refl _) hw hlen).mono ?_
  · rw [Nat.zero_add, (Arr.new w 9 C).cell j, hC]
    simp [sx, hs]
  · rintro e w' ⟨h1, h2, h3⟩
    exact ⟨h1, h2, (BK.ob hN b0).trans h3⟩
theorem BK.cell {N b g j ty : Nat} {C : Array Value} {v : Value} {w w' : World} (h : BK N b w w') (hA : Arr w g ty C) (hne : g ≠ b) (ht : ty ≠ 5) (hc : w.cell? ⟨g, j, none⟩ = some v) : w'.cell? ⟨g, j, none⟩ = some v :=
  (World.cell?_of_block (show w'.heap[g]? = w.heap[g]? from Eq.trans (h.arr hA hne ht) (Eq.symm hA))).trans hc
end Go.Proofs.YtoopgppahfnncaaDoor
/- Layer ir: a statement is put. -/
namespace Go.Proofs.YtoopgppahfnncaaDoor
open Go.Shelf Go.RowKit Go.Sort
set_option maxRecDepth 100000
set_option linter.unusedVariables false
set_option linter.unusedSimpArgs false

theorem tk5 {P : Program} {ops : Array Oper} {Q : Exit → Act → World → Prop} {md : Region.Mode} {S : World → Prop} (i : Nat) {dst : Option Tmp} {op : Op} {ty : TypeId} {pos : String} {af : Array Edge} {gd : Option (Nat × Bool)} {v : Value} {fuel : Nat} {listed : Array Bool} {a a' : Act} {w : World} (hi : ops[i]? = some ⟨dst, op, ty, pos, af, gd⟩)
    (h : wpAnyH P md ops Q S fuel (listed.setIfInBounds i true) a' w)
    (hs : Region.noSelect ops = true := by kernel_rfl) (hf : Region.free md ops listed i = true := by kernel_rfl) (hr : (Region.ready md ops listed).contains i = true := by kernel_rfl)
    (hw : Region.wanted ⟨dst, op, ty, pos, af, gd⟩ (yielded ops a.tmps) = true := by rfl)
    (hy : ∀ u, S u → (execOp a.eval ⟨dst, op, ty, pos, af, gd⟩).run P u = .ok (.value v) u := by (intro u hSw; obtain ⟨s0, s1, s2, s3, s4⟩ := hSw; go_simp; try (with_reducible rfl)))
    (hQ : ∀ c a w, Q (.panic c) (a.put dst v) w → Q (.panic c) a w := by exact fun _ _ _ h => h)
    (ha : a.put dst v = a' := by (conv => (lhs; try simp only [Act.put, List.setIfInBounds_toArray, List.set_cons_zero, List.set_cons_succ])); (try rfl)) (hS : S w := by assumption) : wpAnyH P md ops Q S (fuel + 1) listed a w :=
  wpAnyH_take hi hs hf hr hQ (Or.inl ⟨hw, hy⟩) hS (by rw [ha]; exact h)

def PuP (N b : Nat) (t : List UInt8) (w : World) (e : Ending) (w' : World) : Prop := e = .returned (.tuple #[]) ∧ BX N b t w' ∧ BK N b w w'
set_option maxHeartbeats 4000000 in
theorem put_1 {N b d : Nat} {vs : Int} (w : World) (cs : List Value) (st : StT (d + 1)) (t : List UInt8) (hB : BX N b t w) (hN : N ≤ w.heap.size) (hT : TN N w) (hM : StM N w (d + 1) cs st) (hok : okS vs (d + 1) st) (hk : st.nd.k = 1) (hlen : t.length + (sT (d + 1) st).length ≤ 1000000000) :
    Calls Tryd.prog 32 #[.agg cs.toArray, .func (Fn.func 16) #[] #[.pointer (some ⟨b, 0, none⟩)]] w (PuP N b (t ++ sT (d + 1) st) w) := by
  obtain ⟨⟨ps, hm⟩, hsok, ha1000, hA, hTh, hEl⟩ := hok
  obtain ⟨sa, na, ca, sb, nb, cb, sc, nc, cc, rfl, -, hSa, hSb, hSc⟩ := hM
  have hnl := hSa.len
  have hs : sT (d + 1) st = sTn (sT d) st.nd := rfl
  rw [hs] at hlen ⊢
  clear hs
  obtain ⟨⟨k, v, f, tg, a, th, el⟩, ht⟩ : ∃ q : StN (StT d), q = st.nd := ⟨_, rfl⟩
  rw [← ht] at hm hsok ha1000 hA hTh hEl hSa hSb hSc hnl hlen hk ⊢
  clear ht
  have hk' : k = 1 := hk
  subst hk'
  clear hk
  have hv64 : I64 v := hsok.v
  have ht64 : I64 tg := hsok.t
  have hf64 : I64 f := hsok.f
  replace hnl : Hid (na = a.length) := hnl
  have ha400 : a.length ≤ 400 := ha1000
  replace ha1000 : a.length ≤ 1000 := by omega
  replace hA : ∀ q ∈ a, okT vs 8 q := hA
  replace hSa : RS N w 5 (ExM N w 8) sa na ca a := hSa
  have hal : a.length = 1 := by
    unfold mayS at hm
    simp at hm
    omega
  match a, hal, hnl, ha1000, hA, hSa, hlen with
  | [x], hal, hnl, ha1000, hA, hSa, hlen =>
    have hna : na = 1 := hnl.out
    subst hna
    have hres : sTn (sT d) (⟨1, v, f, tg, [x], th, el⟩ : StN (StT d)) = ln [vT v, [61], xT 8 x] := rfl
    rw [hres] at hlen ⊢
    clear hres hsok hm
    have b0 := ab w (.cells #[.int .u8 1, .int .i64 v, .int .i64 f, .int .i64 tg, .slice sa 1 ca, .slice sb nb cb, .slice sc nc cc] 66)
    have A := Arr.new w 66 #[.int .u8 1, .int .i64 v, .int .i64 f, .int .i64 tg, .slice sa 1 ca, .slice sb nb cb, .slice sc nc cc]
    have hx43 := texts_any (etx_any N vs 8 (by omega)) (w.alloc (.cells #[.int .u8 1, .int .i64 v, .int .i64 f, .int .i64 tg, .slice sa 1 ca, .slice sb nb cb, .slice sc nc cc] 66)) (hSa.imp (b0.mono hN) (ExM.below (b0.mono hN) 8)) hA (by omega) (Nat.le_trans hN b0.size) (hT.tb.bl b0)
    have a0 := A.cell 0
    have a4 := A.cell 4
    clear hSa hSb hSc hA hTh hEl hnl hal ha1000
    simp only [sx, List.map_cons, List.map_nil] at hx43
    generalize hW : ln [vT v, [61], xT 8 x] = L at *
    replace hW := hid hW
    show Calls Tryd.prog 32 #[.agg #[.int .u8 1, .int .i64 v, .int .i64 f, .int .i64 tg, .slice sa 1 ca, .slice sb nb cb, .slice sc nc cc], .func (Fn.func 16) #[] #[.pointer (some ⟨b, 0, none⟩)]] w _
    go_enter Tryd.func32, Tryd.ntmps32
    go_upto_region 4 with (go_at_call 43; go_must (refine hx43.mono ?_; rintro e w1 ⟨⟨pv, rfl, hown⟩, hb1⟩; obtain ⟨G, cp, cur, rfl, hG1, hG2, hG3, hG4⟩ := own_row hown (by omega); have A1 := A.bl hb1; have k0 := A1.cell 0; have k1 := A1.cell 1; have k3 := A1.cell 3; have g0 := hG4 0 _ rfl; have hB01 := b0.trans (hb1.mono b0.size); have hX1 := hB.keep hB01; have hN1 := Nat.le_trans hN hB01.size; have hT1 := hT.bl (hB01.mono hN)))
    clear hx43 hown hG4
    have hbb := hB.bl
    have hwl : w.heap.size ≠ b := by omega
    have hGb : G ≠ b := by have := (ab w (.cells #[.int .u8 1, .int .i64 v, .int .i64 f, .int .i64 tg, .slice sa 1 ca, .slice sb nb cb, .slice sc nc cc] 66)).size; have := b0.size; omega
    have hS0 : ∀ u, BK N b w1 u → u.cell? ⟨w.heap.size, 1, none⟩ = some (.int .i64 v) ∧ u.cell? ⟨w.heap.size, 3, none⟩ = some (.int .i64 tg) ∧ u.cell? ⟨G, 0, none⟩ = some (.string (tx (xT 8 x))) ∧ u.cell? ⟨G, 0, none⟩ = some (.string (tx (xT 8 x))) ∧ u.cell? ⟨G, 0, none⟩ = some (.string (tx (xT 8 x))) := fun u hb => ⟨hb.cell A1 hwl (by decide) k1, hb.cell A1 hwl (by decide) k3, hb.cell hG3 hGb (by decide) g0, hb.cell hG3 hGb (by decide) g0, hb.cell hG3 hGb (by decide) g0⟩
    have hD0 : Below w1.heap.size w1 w1.drew := (Below.refl _ _).drew
    have hK0 := BK.ob hN1 hD0 (b := b)
    refine rgn (fun u => u.cell? ⟨w.heap.size, 1, none⟩ = some (.int .i64 v) ∧ u.cell? ⟨w.heap.size, 3, none⟩ = some (.int .i64 tg) ∧ u.cell? ⟨G, 0, none⟩ = some (.string (tx (xT 8 x))) ∧ u.cell? ⟨G, 0, none⟩ = some (.string (tx (xT 8 x))) ∧ u.cell? ⟨G, 0, none⟩ = some (.string (tx (xT 8 x)))) (hS0 _ hK0) (fun hSw => ?_)
    refine tk5 0 rfl ?_
    refine tk5 1 rfl ?_
    refine tk5 2 rfl ?_
    refine tk5 4 rfl ?_
    refine tk5 5 rfl ?_
    refine tk5 6 rfl ?_
    refine rd 3 rfl (fun K hK => ?_)
    go_simp
    refine (varText_any v _ hv64 (hT1.tb.bl hD0)).mono ?_
    rintro e w2 ⟨rfl, hb2⟩
    have hB2 := hD0.trans (hb2.mono hD0.size)
    have hK2 := BK.ob hN1 hB2 (b := b)
    have hX2 := hX1.keep hB2
    have hN2 := Nat.le_trans hN1 hB2.size
    go_wp2_with fail
    refine hK.out _ _ (hS0 _ hK2) (fun hSv => ?_)
    clear hK K
    try simp only [Act.put, List.setIfInBounds_toArray, List.set_cons_zero, List.set_cons_succ]
    refine rd 7 rfl (fun K hK => ?_)
    go_simp
    go_wp2_with fail
    refine hK.out _ _ (hS0 _ (hK2.trans (BK.ob hN2 (ab w2 _)))) (fun hSu => ?_)
    clear hK K
    try simp only [Act.put, List.setIfInBounds_toArray, List.set_cons_zero, List.set_cons_succ]
    refine rd 8 rfl (fun K hK => ?_)
    go_simp
    refine (put_lit (ws := [vT v, [61], xT 8 x]) w2 hX2 hN2 _ rfl rfl (by simp) (by rw [hW.out]; exact hlen)).mono ?_
    rintro e w3 ⟨rfl, hX3, hK3⟩
    rw [hW.out] at hX3
    go_wp2_with fail
    refine hK.out _ _ (hS0 _ (hK2.trans hK3)) (fun hSz => ?_)
    clear hK K
    try simp only [Act.put, List.setIfInBounds_toArray, List.set_cons_zero, List.set_cons_succ]
    refine dn ?_
    go_wp2_with fail
    go_end0
    exact ⟨rfl, hX3, (BK.ob hN hB01).trans (hK2.trans hK3)⟩
set_option maxHeartbeats 4000000 in
theorem put_2 {N b d : Nat} {vs : Int} (w : World) (cs : List Value) (st : StT (d + 1)) (t : List UInt8) (hB : BX N b t w) (hN : N ≤ w.heap.size) (hT : TN N w) (hM : StM N w (d + 1) cs st) (hok : okS vs (d + 1) st) (hk : st.nd.k = 2) (hlen : t.length + (sT (d + 1) st).length ≤ 1000000000) :
    Calls Tryd.prog 32 #[.agg cs.toArray, .func (Fn.func 16) #[] #[.pointer (some ⟨b, 0, none⟩)]] w (PuP N b (t ++ sT (d + 1) st) w) := by
  obtain ⟨⟨ps, hm⟩, hsok, ha1000, hA, hTh, hEl⟩ := hok
  obtain ⟨sa, na, ca, sb, nb, cb, sc, nc, cc, rfl, -, hSa, hSb, hSc⟩ := hM
  have hnl := hSa.len
  have hs : sT (d + 1) st = sTn (sT d) st.nd := rfl
  rw [hs] at hlen ⊢
  clear hs
  obtain ⟨⟨k, v, f, tg, a, th, el⟩, ht⟩ : ∃ q : StN (StT d), q = st.nd := ⟨_, rfl⟩
  rw [← ht] at hm hsok ha1000 hA hTh hEl hSa hSb hSc hnl hlen hk ⊢
  clear ht
  have hk' : k = 2 := hk
  subst hk'
  clear hk
  have hv64 : I64 v := hsok.v
  have ht64 : I64 tg := hsok.t
  have hf64 : I64 f := hsok.f
  replace hnl : Hid (na = a.length) := hnl
  have ha400 : a.length ≤ 400 := ha1000
  replace ha1000 : a.length ≤ 1000 := by omega
  replace hA : ∀ q ∈ a, okT vs 8 q := hA
  replace hSa : RS N w 5 (ExM N w 8) sa na ca a := hSa
  have hal : a.length = 2 := by
    unfold mayS at hm
    simp at hm
    omega
  match a, hal, hnl, ha1000, hA, hSa, hlen with
  | [x, y], hal, hnl, ha1000, hA, hSa, hlen =>
    have hna : na = 2 := hnl.out
    subst hna
    have hres : sTn (sT d) (⟨2, v, f, tg, [x, y], th, el⟩ : StN (StT d)) = ln [[91], xT 8 x, [93], [61], xT 8 y] := rfl
    rw [hres] at hlen ⊢
    clear hres hsok hm
    have b0 := ab w (.cells #[.int .u8 2, .int .i64 v, .int .i64 f, .int .i64 tg, .slice sa 2 ca, .slice sb nb cb, .slice sc nc cc] 66)
    have A := Arr.new w 66 #[.int .u8 2, .int .i64 v, .int .i64 f, .int .i64 tg, .slice sa 2 ca, .slice sb nb cb, .slice sc nc cc]
    have hx43 := texts_any (etx_any N vs 8 (by omega)) (w.alloc (.cells #[.int .u8 2, .int .i64 v, .int .i64 f, .int .i64 tg, .slice sa 2 ca, .slice sb nb cb, .slice sc nc cc] 66)) (hSa.imp (b0.mono hN) (ExM.below (b0.mono hN) 8)) hA (by omega) (Nat.le_trans hN b0.size) (hT.tb.bl b0)
    have a0 := A.cell 0
    have a4 := A.cell 4
    clear hSa hSb hSc hA hTh hEl hnl hal ha1000
    simp only [sx, List.map_cons, List.map_nil] at hx43
    generalize hW : ln [[91], xT 8 x, [93], [61], xT 8 y] = L at *
    replace hW := hid hW
    show Calls Tryd.prog 32 #[.agg #[.int .u8 2, .int .i64 v, .int .i64 f, .int .i64 tg, .slice sa 2 ca, .slice sb nb cb, .slice sc nc cc], .func (Fn.func 16) #[] #[.pointer (some ⟨b, 0, none⟩)]] w _
    go_enter Tryd.func32, Tryd.ntmps32
    go_upto_region 6 with (go_at_call 43; go_must (refine hx43.mono ?_; rintro e w1 ⟨⟨pv, rfl, hown⟩, hb1⟩; obtain ⟨G, cp, cur, rfl, hG1, hG2, hG3, hG4⟩ := own_row hown (by omega); have A1 := A.bl hb1; have k0 := A1.cell 0; have k1 := A1.cell 1; have k3 := A1.cell 3; have g0 := hG4 0 _ rfl; have g1 := hG4 1 _ rfl; have hB01 := b0.trans (hb1.mono b0.size); have hX1 := hB.keep hB01; have hN1 := Nat.le_trans hN hB01.size; have hT1 := hT.bl (hB01.mono hN)))
    clear hx43 hown hG4
    have hbb := hB.bl
    have hwl : w.heap.size ≠ b := by omega
    have hGb : G ≠ b := by have := (ab w (.cells #[.int .u8 2, .int .i64 v, .int .i64 f, .int .i64 tg, .slice sa 2 ca, .slice sb nb cb, .slice sc nc cc] 66)).size; have := b0.size; omega
    have hS0 : ∀ u, BK N b w1 u → u.cell? ⟨w.heap.size, 1, none⟩ = some (.int .i64 v) ∧ u.cell? ⟨w.heap.size, 3, none⟩ = some (.int .i64 tg) ∧ u.cell? ⟨G, 0, none⟩ = some (.string (tx (xT 8 x))) ∧ u.cell? ⟨G, 1, none⟩ = some (.string (tx (xT 8 y))) ∧ u.cell? ⟨G, 1, none⟩ = some (.string (tx (xT 8 y))) := fun u hb => ⟨hb.cell A1 hwl (by decide) k1, hb.cell A1 hwl (by decide) k3, hb.cell hG3 hGb (by decide) g0, hb.cell hG3 hGb (by decide) g1, hb.cell hG3 hGb (by decide) g1⟩
    have hD0 : Below w1.heap.size w1 w1.drew := (Below.refl _ _).drew
    have hK0 := BK.ob hN1 hD0 (b := b)
    refine rgn (fun u => u.cell? ⟨w.heap.size, 1, none⟩ = some (.int .i64 v) ∧ u.cell? ⟨w.heap.size, 3, none⟩ = some (.int .i64 tg) ∧ u.cell? ⟨G, 0, none⟩ = some (.string (tx (xT 8 x))) ∧ u.cell? ⟨G, 1, none⟩ = some (.string (tx (xT 8 y))) ∧ u.cell? ⟨G, 1, none⟩ = some (.string (tx (xT 8 y)))) (hS0 _ hK0) (fun hSw => ?_)
    refine tk5 0 rfl ?_
    refine tk5 1 rfl ?_
    refine tk5 2 rfl ?_
    refine tk5 3 rfl ?_
    refine tk5 4 rfl ?_
    refine tk5 5 rfl ?_
    refine tk5 6 rfl ?_
    have hK2 := hK0
    have hX2 := hX1.keep hD0
    have hN2 := Nat.le_trans hN1 hD0.size
    refine rd 7 rfl (fun K hK => ?_)
    go_simp
    go_wp2_with fail
    refine hK.out _ _ (hS0 _ (hK2.trans (BK.ob hN2 (ab w1.drew _)))) (fun hSu => ?_)
    clear hK K
    try simp only [Act.put, List.setIfInBounds_toArray, List.set_cons_zero, List.set_cons_succ]
    refine rd 8 rfl (fun K hK => ?_)
    go_simp
    refine (put_lit (ws := [[91], xT 8 x, [93], [61], xT 8 y]) w1.drew hX2 hN2 _ rfl rfl (by simp) (by rw [hW.out]; exact hlen)).mono ?_
    rintro e w3 ⟨rfl, hX3, hK3⟩
    rw [hW.out] at hX3
    go_wp2_with fail
    refine hK.out _ _ (hS0 _ (hK2.trans hK3)) (fun hSz => ?_)
    clear hK K
    try simp only [Act.put, List.setIfInBounds_toArray, List.set_cons_zero, List.set_cons_succ]
    refine dn ?_
    go_wp2_with fail
    go_end0
    exact ⟨rfl, hX3, (BK.ob hN hB01).trans (hK2.trans hK3)⟩
set_option maxHeartbeats 4000000 in
theorem put_7 {N b d : Nat} {vs : Int} (w : World) (cs : List Value) (st : StT (d + 1)) (t : List UInt8) (hB : BX N b t w) (hN : N ≤ w.heap.size) (hT : TN N w) (hM : StM N w (d + 1) cs st) (hok : okS vs (d + 1) st) (hk : st.nd.k = 7) (hlen : t.length + (sT (d + 1) st).length ≤ 1000000000) :
    Calls Tryd.prog 32 #[.agg cs.toArray, .func (Fn.func 16) #[] #[.pointer (some ⟨b, 0, none⟩)]] w (PuP N b (t ++ sT (d + 1) st) w) := by
  obtain ⟨⟨ps, hm⟩, hsok, ha1000, hA, hTh, hEl⟩ := hok
  obtain ⟨sa, na, ca, sb, nb, cb, sc, nc, cc, rfl, -, hSa, hSb, hSc⟩ := hM
  have hnl := hSa.len
  have hs : sT (d + 1) st = sTn (sT d) st.nd := rfl
  rw [hs] at hlen ⊢
  clear hs
  obtain ⟨⟨k, v, f, tg, a, th, el⟩, ht⟩ : ∃ q : StN (StT d), q = st.nd := ⟨_, rfl⟩
  rw [← ht] at hm hsok ha1000 hA hTh hEl hSa hSb hSc hnl hlen hk ⊢
  clear ht
  have hk' : k = 7 := hk
  subst hk'
  clear hk
  have hv64 : I64 v := hsok.v
  have ht64 : I64 tg := hsok.t
  have hf64 : I64 f := hsok.f
  replace hnl : Hid (na = a.length) := hnl
  have ha400 : a.length ≤ 400 := ha1000
  replace ha1000 : a.length ≤ 1000 := by omega
  replace hA : ∀ q ∈ a, okT vs 8 q := hA
  replace hSa : RS N w 5 (ExM N w 8) sa na ca a := hSa
  have hal : a.length = 3 := by
    unfold mayS at hm
    simp at hm
    omega
  match a, hal, hnl, ha1000, hA, hSa, hlen with
  | [x, y, z], hal, hnl, ha1000, hA, hSa, hlen =>
    have hna : na = 3 := hnl.out
    subst hna
    have hres : sTn (sT d) (⟨7, v, f, tg, [x, y, z], th, el⟩ : StN (StT d)) = ln [[104, 97, 115, 104], Lib.itoa tg, xT 8 x, xT 8 y, xT 8 z] := rfl
    rw [hres] at hlen ⊢
    clear hres hsok hm
    have b0 := ab w (.cells #[.int .u8 7, .int .i64 v, .int .i64 f, .int .i64 tg, .slice sa 3 ca, .slice sb nb cb, .slice sc nc cc] 66)
    have A := Arr.new w 66 #[.int .u8 7, .int .i64 v, .int .i64 f, .int .i64 tg, .slice sa 3 ca, .slice sb nb cb, .slice sc nc cc]
    have hx43 := texts_any (etx_any N vs 8 (by omega)) (w.alloc (.cells #[.int .u8 7, .int .i64 v, .int .i64 f, .int .i64 tg, .slice sa 3 ca, .slice sb nb cb, .slice sc nc cc] 66)) (hSa.imp (b0.mono hN) (ExM.below (b0.mono hN) 8)) hA (by omega) (Nat.le_trans hN b0.size) (hT.tb.bl b0)
    have a0 := A.cell 0
    have a4 := A.cell 4
    clear hSa hSb hSc hA hTh hEl hnl hal ha1000
    simp only [sx, List.map_cons, List.map_nil] at hx43
    generalize hW : ln [[104, 97, 115, 104], Lib.itoa tg, xT 8 x, xT 8 y, xT 8 z] = L at *
    replace hW := hid hW
    show Calls Tryd.prog 32 #[.agg #[.int .u8 7, .int .i64 v, .int .i64 f, .int .i64 tg, .slice sa 3 ca, .slice sb nb cb, .slice sc nc cc], .func (Fn.func 16) #[] #[.pointer (some ⟨b, 0, none⟩)]] w _
    go_enter Tryd.func32, Tryd.ntmps32
    go_upto_region 22 with (go_at_call 43; go_must (refine hx43.mono ?_; rintro e w1 ⟨⟨pv, rfl, hown⟩, hb1⟩; obtain ⟨G, cp, cur, rfl, hG1, hG2, hG3, hG4⟩ := own_row hown (by omega); have A1 := A.bl hb1; have k0 := A1.cell 0; have k1 := A1.cell 1; have k3 := A1.cell 3; have g0 := hG4 0 _ rfl; have g1 := hG4 1 _ rfl; have g2 := hG4 2 _ rfl; have hB01 := b0.trans (hb1.mono b0.size); have hX1 := hB.keep hB01; have hN1 := Nat.le_trans hN hB01.size; have hT1 := hT.bl (hB01.mono hN)))
    clear hx43 hown hG4
    have hbb := hB.bl
    have hwl : w.heap.size ≠ b := by omega
    have hGb : G ≠ b := by have := (ab w (.cells #[.int .u8 7, .int .i64 v, .int .i64 f, .int .i64 tg, .slice sa 3 ca, .slice sb nb cb, .slice sc nc cc] 66)).size; have := b0.size; omega
    have hS0 : ∀ u, BK N b w1 u → u.cell? ⟨w.heap.size, 1, none⟩ = some (.int .i64 v) ∧ u.cell? ⟨w.heap.size, 3, none⟩ = some (.int .i64 tg) ∧ u.cell? ⟨G, 0, none⟩ = some (.string (tx (xT 8 x))) ∧ u.cell? ⟨G, 1, none⟩ = some (.string (tx (xT 8 y))) ∧ u.cell? ⟨G, 2, none⟩ = some (.string (tx (xT 8 z))) := fun u hb => ⟨hb.cell A1 hwl (by decide) k1, hb.cell A1 hwl (by decide) k3, hb.cell hG3 hGb (by decide) g0, hb.cell hG3 hGb (by decide) g1, hb.cell hG3 hGb (by decide) g2⟩
    have hD0 : Below w1.heap.size w1 w1.drew := (Below.refl _ _).drew
    have hK0 := BK.ob hN1 hD0 (b := b)
    refine rgn (fun u => u.cell? ⟨w.heap.size, 1, none⟩ = some (.int .i64 v) ∧ u.cell? ⟨w.heap.size, 3, none⟩ = some (.int .i64 tg) ∧ u.cell? ⟨G, 0, none⟩ = some (.string (tx (xT 8 x))) ∧ u.cell? ⟨G, 1, none⟩ = some (.string (tx (xT 8 y))) ∧ u.cell? ⟨G, 2, none⟩ = some (.string (tx (xT 8 z)))) (hS0 _ hK0) (fun hSw => ?_)
    refine tk5 0 rfl ?_
    refine tk5 1 rfl ?_
    refine tk5 2 rfl ?_
    refine tk5 4 rfl ?_
    refine tk5 5 rfl ?_
    refine tk5 6 rfl ?_
    refine tk5 7 rfl ?_
    refine tk5 8 rfl ?_
    refine tk5 9 rfl ?_
    refine tk5 10 rfl ?_
    refine tk5 11 rfl ?_
    refine tk5 12 rfl ?_
    refine rd 3 rfl (fun K hK => ?_)
    go_simp
    refine (itoa_any tg _ ht64 (hT1.tb.bl hD0)).mono ?_
    rintro e w2 ⟨rfl, hb2⟩
    have hB2 := hD0.trans (hb2.mono hD0.size)
    have hK2 := BK.ob hN1 hB2 (b := b)
    have hX2 := hX1.keep hB2
    have hN2 := Nat.le_trans hN1 hB2.size
    go_wp2_with fail
    refine hK.out _ _ (hS0 _ hK2) (fun hSv => ?_)
    clear hK K
    try simp only [Act.put, List.setIfInBounds_toArray, List.set_cons_zero, List.set_cons_succ]
    refine rd 13 rfl (fun K hK => ?_)
    go_simp
    go_wp2_with fail
    refine hK.out _ _ (hS0 _ (hK2.trans (BK.ob hN2 (ab w2 _)))) (fun hSu => ?_)
    clear hK K
    try simp only [Act.put, List.setIfInBounds_toArray, List.set_cons_zero, List.set_cons_succ]
    refine rd 14 rfl (fun K hK => ?_)
    go_simp
    refine (put_lit (ws := [[104, 97, 115, 104], Lib.itoa tg, xT 8 x, xT 8 y, xT 8 z]) w2 hX2 hN2 _ rfl rfl (by simp) (by rw [hW.out]; exact hlen)).mono ?_
    rintro e w3 ⟨rfl, hX3, hK3⟩
    rw [hW.out] at hX3
    go_wp2_with fail
    refine hK.out _ _ (hS0 _ (hK2.trans hK3)) (fun hSz => ?_)
    clear hK K
    try simp only [Act.put, List.setIfInBounds_toArray, List.set_cons_zero, List.set_cons_succ]
    refine dn ?_
    go_wp2_with fail
    go_end0
    exact ⟨rfl, hX3, (BK.ob hN hB01).trans (hK2.trans hK3)⟩
set_option maxHeartbeats 4000000 in
theorem put_8 {N b d : Nat} {vs : Int} (w : World) (cs : List Value) (st : StT (d + 1)) (t : List UInt8) (hB : BX N b t w) (hN : N ≤ w.heap.size) (hT : TN N w) (hM : StM N w (d + 1) cs st) (hok : okS vs (d + 1) st) (hk : st.nd.k = 8) (hlen : t.length + (sT (d + 1) st).length ≤ 1000000000) :
    Calls Tryd.prog 32 #[.agg cs.toArray, .func (Fn.func 16) #[] #[.pointer (some ⟨b, 0, none⟩)]] w (PuP N b (t ++ sT (d + 1) st) w) := by
  obtain ⟨⟨ps, hm⟩, hsok, ha1000, hA, hTh, hEl⟩ := hok
  obtain ⟨sa, na, ca, sb, nb, cb, sc, nc, cc, rfl, -, hSa, hSb, hSc⟩ := hM
  have hnl := hSa.len
  have hs : sT (d + 1) st = sTn (sT d) st.nd := rfl
  rw [hs] at hlen ⊢
  clear hs
  obtain ⟨⟨k, v, f, tg, a, th, el⟩, ht⟩ : ∃ q : StN (StT d), q = st.nd := ⟨_, rfl⟩
  rw [← ht] at hm hsok ha1000 hA hTh hEl hSa hSb hSc hnl hlen hk ⊢
  clear ht
  have hk' : k = 8 := hk
  subst hk'
  clear hk
  have hv64 : I64 v := hsok.v
  have ht64 : I64 tg := hsok.t
  have hf64 : I64 f := hsok.f
  replace hnl : Hid (na = a.length) := hnl
  have ha400 : a.length ≤ 400 := ha1000
  replace ha1000 : a.length ≤ 1000 := by omega
  replace hA : ∀ q ∈ a, okT vs 8 q := hA
  replace hSa : RS N w 5 (ExM N w 8) sa na ca a := hSa
  have hal : a.length = 2 := by
    unfold mayS at hm
    simp at hm
    omega
  match a, hal, hnl, ha1000, hA, hSa, hlen with
  | [x, y], hal, hnl, ha1000, hA, hSa, hlen =>
    have hna : na = 2 := hnl.out
    subst hna
    have hres : sTn (sT d) (⟨8, v, f, tg, [x, y], th, el⟩ : StN (StT d)) = ln [vT v, [61], [112, 114, 101], xT 8 x, xT 8 y] := rfl
    rw [hres] at hlen ⊢
    clear hres hsok hm
    have b0 := ab w (.cells #[.int .u8 8, .int .i64 v, .int .i64 f, .int .i64 tg, .slice sa 2 ca, .slice sb nb cb, .slice sc nc cc] 66)
    have A := Arr.new w 66 #[.int .u8 8, .int .i64 v, .int .i64 f, .int .i64 tg, .slice sa 2 ca, .slice sb nb cb, .slice sc nc cc]
    have hx43 := texts_any (etx_any N vs 8 (by omega)) (w.alloc (.cells #[.int .u8 8, .int .i64 v, .int .i64 f, .int .i64 tg, .slice sa 2 ca, .slice sb nb cb, .slice sc nc cc] 66)) (hSa.imp (b0.mono hN) (ExM.below (b0.mono hN) 8)) hA (by omega) (Nat.le_trans hN b0.size) (hT.tb.bl b0)
    have a0 := A.cell 0
    have a4 := A.cell 4
    clear hSa hSb hSc hA hTh hEl hnl hal ha1000
    simp only [sx, List.map_cons, List.map_nil] at hx43
    generalize hW : ln [vT v, [61], [112, 114, 101], xT 8 x, xT 8 y] = L at *
    replace hW := hid hW
    show Calls Tryd.prog 32 #[.agg #[.int .u8 8, .int .i64 v, .int .i64 f, .int .i64 tg, .slice sa 2 ca, .slice sb nb cb, .slice sc nc cc], .func (Fn.func 16) #[] #[.pointer (some ⟨b, 0, none⟩)]] w _
    go_enter Tryd.func32, Tryd.ntmps32
    go_upto_region 24 with (go_at_call 43; go_must (refine hx43.mono ?_; rintro e w1 ⟨⟨pv, rfl, hown⟩, hb1⟩; obtain ⟨G, cp, cur, rfl, hG1, hG2, hG3, hG4⟩ := own_row hown (by omega); have A1 := A.bl hb1; have k0 := A1.cell 0; have k1 := A1.cell 1; have k3 := A1.cell 3; have g0 := hG4 0 _ rfl; have g1 := hG4 1 _ rfl; have hB01 := b0.trans (hb1.mono b0.size); have hX1 := hB.keep hB01; have hN1 := Nat.le_trans hN hB01.size; have hT1 := hT.bl (hB01.mono hN)))
    clear hx43 hown hG4
    have hbb := hB.bl
    have hwl : w.heap.size ≠ b := by omega
    have hGb : G ≠ b := by have := (ab w (.cells #[.int .u8 8, .int .i64 v, .int .i64 f, .int .i64 tg, .slice sa 2 ca, .slice sb nb cb, .slice sc nc cc] 66)).size; have := b0.size; omega
    have hS0 : ∀ u, BK N b w1 u → u.cell? ⟨w.heap.size, 1, none⟩ = some (.int .i64 v) ∧ u.cell? ⟨w.heap.size, 3, none⟩ = some (.int .i64 tg) ∧ u.cell? ⟨G, 0, none⟩ = some (.string (tx (xT 8 x))) ∧ u.cell? ⟨G, 1, none⟩ = some (.string (tx (xT 8 y))) ∧ u.cell? ⟨G, 1, none⟩ = some (.string (tx (xT 8 y))) := fun u hb => ⟨hb.cell A1 hwl (by decide) k1, hb.cell A1 hwl (by decide) k3, hb.cell hG3 hGb (by decide) g0, hb.cell hG3 hGb (by decide) g1, hb.cell hG3 hGb (by decide) g1⟩
    have hD0 : Below w1.heap.size w1 w1.drew := (Below.refl _ _).drew
    have hK0 := BK.ob hN1 hD0 (b := b)
    refine rgn (fun u => u.cell? ⟨w.heap.size, 1, none⟩ = some (.int .i64 v) ∧ u.cell? ⟨w.heap.size, 3, none⟩ = some (.int .i64 tg) ∧ u.cell? ⟨G, 0, none⟩ = some (.string (tx (xT 8 x))) ∧ u.cell? ⟨G, 1, none⟩ = some (.string (tx (xT 8 y))) ∧ u.cell? ⟨G, 1, none⟩ = some (.string (tx (xT 8 y)))) (hS0 _ hK0) (fun hSw => ?_)
    refine tk5 0 rfl ?_
    refine tk5 1 rfl ?_
    refine tk5 2 rfl ?_
    refine tk5 4 rfl ?_
    refine tk5 5 rfl ?_
    refine tk5 6 rfl ?_
    refine tk5 7 rfl ?_
    refine tk5 8 rfl ?_
    refine tk5 9 rfl ?_
    refine rd 3 rfl (fun K hK => ?_)
    go_simp
    refine (varText_any v _ hv64 (hT1.tb.bl hD0)).mono ?_
    rintro e w2 ⟨rfl, hb2⟩
    have hB2 := hD0.trans (hb2.mono hD0.size)
    have hK2 := BK.ob hN1 hB2 (b := b)
    have hX2 := hX1.keep hB2
    have hN2 := Nat.le_trans hN1 hB2.size
    go_wp2_with fail
    refine hK.out _ _ (hS0 _ hK2) (fun hSv => ?_)
    clear hK K
    try simp only [Act.put, List.setIfInBounds_toArray, List.set_cons_zero, List.set_cons_succ]
    refine rd 10 rfl (fun K hK => ?_)
    go_simp
    go_wp2_with fail
    refine hK.out _ _ (hS0 _ (hK2.trans (BK.ob hN2 (ab w2 _)))) (fun hSu => ?_)
    clear hK K
    try simp only [Act.put, List.setIfInBounds_toArray, List.set_cons_zero, List.set_cons_succ]
    refine rd 11 rfl (fun K hK => ?_)
    go_simp
    refine (put_lit (ws := [vT v, [61], [112, 114, 101], xT 8 x, xT 8 y]) w2 hX2 hN2 _ rfl rfl (by simp) (by rw [hW.out]; exact hlen)).mono ?_
    rintro e w3 ⟨rfl, hX3, hK3⟩
    rw [hW.out] at hX3
    go_wp2_with fail
    refine hK.out _ _ (hS0 _ (hK2.trans hK3)) (fun hSz => ?_)
    clear hK K
    try simp only [Act.put, List.setIfInBounds_toArray, List.set_cons_zero, List.set_cons_succ]
    refine dn ?_
    go_wp2_with fail
    go_end0
    exact ⟨rfl, hX3, (BK.ob hN hB01).trans (hK2.trans hK3)⟩
set_option maxHeartbeats 4000000 in
theorem put_9 {N b d : Nat} {vs : Int} (w : World) (cs : List Value) (st : StT (d + 1)) (t : List UInt8) (hB : BX N b t w) (hN : N ≤ w.heap.size) (hT : TN N w) (hM : StM N w (d + 1) cs st) (hok : okS vs (d + 1) st) (hk : st.nd.k = 9) (hlen : t.length + (sT (d + 1) st).length ≤ 1000000000) :
    Calls Tryd.prog 32 #[.agg cs.toArray, .func (Fn.func 16) #[] #[.pointer (some ⟨b, 0, none⟩)]] w (PuP N b (t ++ sT (d + 1) st) w) := by
  obtain ⟨⟨ps, hm⟩, hsok, ha1000, hA, hTh, hEl⟩ := hok
  obtain ⟨sa, na, ca, sb, nb, cb, sc, nc, cc, rfl, -, hSa, hSb, hSc⟩ := hM
  have hnl := hSa.len
  have hs : sT (d + 1) st = sTn (sT d) st.nd := rfl
  rw [hs] at hlen ⊢
  clear hs
  obtain ⟨⟨k, v, f, tg, a, th, el⟩, ht⟩ : ∃ q : StN (StT d), q = st.nd := ⟨_, rfl⟩
  rw [← ht] at hm hsok ha1000 hA hTh hEl hSa hSb hSc hnl hlen hk ⊢
  clear ht
  have hk' : k = 9 := hk
  subst hk'
  clear hk
  have hv64 : I64 v := hsok.v
  have ht64 : I64 tg := hsok.t
  have hf64 : I64 f := hsok.f
  replace hnl : Hid (na = a.length) := hnl
  have ha400 : a.length ≤ 400 := ha1000
  replace ha1000 : a.length ≤ 1000 := by omega
  replace hA : ∀ q ∈ a, okT vs 8 q := hA
  replace hSa : RS N w 5 (ExM N w 8) sa na ca a := hSa
  have hal : a.length = 1 := by
    unfold mayS at hm
    simp at hm
    omega
  match a, hal, hnl, ha1000, hA, hSa, hlen with
  | [x], hal, hnl, ha1000, hA, hSa, hlen =>
    have hna : na = 1 := hnl.out
    subst hna
    have hres : sTn (sT d) (⟨9, v, f, tg, [x], th, el⟩ : StN (StT d)) = ln [vT v, [61], [112, 108, 101, 110], xT 8 x] := rfl
    rw [hres] at hlen ⊢
    clear hres hsok hm
    have b0 := ab w (.cells #[.int .u8 9, .int .i64 v, .int .i64 f, .int .i64 tg, .slice sa 1 ca, .slice sb nb cb, .slice sc nc cc] 66)
    have A := Arr.new w 66 #[.int .u8 9, .int .i64 v, .int .i64 f, .int .i64 tg, .slice sa 1 ca, .slice sb nb cb, .slice sc nc cc]
    have hx43 := texts_any (etx_any N vs 8 (by omega)) (w.alloc (.cells #[.int .u8 9, .int .i64 v, .int .i64 f, .int .i64 tg, .slice sa 1 ca, .slice sb nb cb, .slice sc nc cc] 66)) (hSa.imp (b0.mono hN) (ExM.below (b0.mono hN) 8)) hA (by omega) (Nat.le_trans hN b0.size) (hT.tb.bl b0)
    have a0 := A.cell 0
    have a4 := A.cell 4
    clear hSa hSb hSc hA hTh hEl hnl hal ha1000
    simp only [sx, List.map_cons, List.map_nil] at hx43
    generalize hW : ln [vT v, [61], [112, 108, 101, 110], xT 8 x] = L at *
    replace hW := hid hW
    show Calls Tryd.prog 32 #[.agg #[.int .u8 9, .int .i64 v, .int .i64 f, .int .i64 tg, .slice sa 1 ca, .slice sb nb cb, .slice sc nc cc], .func (Fn.func 16) #[] #[.pointer (some ⟨b, 0, none⟩)]] w _
    go_enter Tryd.func32, Tryd.ntmps32
    go_upto_region 26 with (go_at_call 43; go_must (refine hx43.mono ?_; rintro e w1 ⟨⟨pv, rfl, hown⟩, hb1⟩; obtain ⟨G, cp, cur, rfl, hG1, hG2, hG3, hG4⟩ := own_row hown (by omega); have A1 := A.bl hb1; have k0 := A1.cell 0; have k1 := A1.cell 1; have k3 := A1.cell 3; have g0 := hG4 0 _ rfl; have hB01 := b0.trans (hb1.mono b0.size); have hX1 := hB.keep hB01; have hN1 := Nat.le_trans hN hB01.size; have hT1 := hT.bl (hB01.mono hN)))
    clear hx43 hown hG4
    have hbb := hB.bl
    have hwl : w.heap.size ≠ b := by omega
    have hGb : G ≠ b := by have := (ab w (.cells #[.int .u8 9, .int .i64 v, .int .i64 f, .int .i64 tg, .slice sa 1 ca, .slice sb nb cb, .slice sc nc cc] 66)).size; have := b0.size; omega
    have hS0 : ∀ u, BK N b w1 u → u.cell? ⟨w.heap.size, 1, none⟩ = some (.int .i64 v) ∧ u.cell? ⟨w.heap.size, 3, none⟩ = some (.int .i64 tg) ∧ u.cell? ⟨G, 0, none⟩ = some (.string (tx (xT 8 x))) ∧ u.cell? ⟨G, 0, none⟩ = some (.string (tx (xT 8 x))) ∧ u.cell? ⟨G, 0, none⟩ = some (.string (tx (xT 8 x))) := fun u hb => ⟨hb.cell A1 hwl (by decide) k1, hb.cell A1 hwl (by decide) k3, hb.cell hG3 hGb (by decide) g0, hb.cell hG3 hGb (by decide) g0, hb.cell hG3 hGb (by decide) g0⟩
    have hD0 : Below w1.heap.size w1 w1.drew := (Below.refl _ _).drew
    have hK0 := BK.ob hN1 hD0 (b := b)
    refine rgn (fun u => u.cell? ⟨w.heap.size, 1, none⟩ = some (.int .i64 v) ∧ u.cell? ⟨w.heap.size, 3, none⟩ = some (.int .i64 tg) ∧ u.cell? ⟨G, 0, none⟩ = some (.string (tx (xT 8 x))) ∧ u.cell? ⟨G, 0, none⟩ = some (.string (tx (xT 8 x))) ∧ u.cell? ⟨G, 0, none⟩ = some (.string (tx (xT 8 x)))) (hS0 _ hK0) (fun hSw => ?_)
    refine tk5 0 rfl ?_
    refine tk5 1 rfl ?_
    refine tk5 2 rfl ?_
    refine tk5 4 rfl ?_
    refine tk5 5 rfl ?_
    refine tk5 6 rfl ?_
    refine rd 3 rfl (fun K hK => ?_)
    go_simp
    refine (varText_any v _ hv64 (hT1.tb.bl hD0)).mono ?_
    rintro e w2 ⟨rfl, hb2⟩
    have hB2 := hD0.trans (hb2.mono hD0.size)
    have hK2 := BK.ob hN1 hB2 (b := b)
    have hX2 := hX1.keep hB2
    have hN2 := Nat.le_trans hN1 hB2.size
    go_wp2_with fail
    refine hK.out _ _ (hS0 _ hK2) (fun hSv => ?_)
    clear hK K
    try simp only [Act.put, List.setIfInBounds_toArray, List.set_cons_zero, List.set_cons_succ]
    refine rd 7 rfl (fun K hK => ?_)
    go_simp
    go_wp2_with fail
    refine hK.out _ _ (hS0 _ (hK2.trans (BK.ob hN2 (ab w2 _)))) (fun hSu => ?_)
    clear hK K
    try simp only [Act.put, List.setIfInBounds_toArray, List.set_cons_zero, List.set_cons_succ]
    refine rd 8 rfl (fun K hK => ?_)
    go_simp
    refine (put_lit (ws := [vT v, [61], [112, 108, 101, 110], xT 8 x]) w2 hX2 hN2 _ rfl rfl (by simp) (by rw [hW.out]; exact hlen)).mono ?_
    rintro e w3 ⟨rfl, hX3, hK3⟩
    rw [hW.out] at hX3
    go_wp2_with fail
    refine hK.out _ _ (hS0 _ (hK2.trans hK3)) (fun hSz => ?_)
    clear hK K
    try simp only [Act.put, List.setIfInBounds_toArray, List.set_cons_zero, List.set_cons_succ]
    refine dn ?_
    go_wp2_with fail
    go_end0
    exact ⟨rfl, hX3, (BK.ob hN hB01).trans (hK2.trans hK3)⟩
end Go.Proofs.YtoopgppahfnncaaDoor
/- Layer ir: statements are put. -/
namespace Go.Proofs.YtoopgppahfnncaaDoor
open Go.Shelf Go.RowKit Go.Sort
set_option maxRecDepth 100000
set_option linter.unusedVariables false
set_option linter.unusedSimpArgs false


theorem StM.cl {N : Nat} {w : World} : ∀ {d : Nat} {cs : List Value} {t : StT d}, StM N w d cs t → ∃ k v f t sa na ca sb nb cb sc nc cc, cs = stC k v f t (.slice sa na ca) (.slice sb nb cb) (.slice sc nc cc)
  | 0, _, _, h => h
  | _ + 1, _, _, ⟨sa, na, ca, sb, nb, cb, sc, nc, cc, h, _⟩ => ⟨_, _, _, _, sa, na, ca, sb, nb, cb, sc, nc, cc, h⟩
theorem sL_drop {d : Nat} {l : List (StT d)} {j : Nat} {a : StT d} (h : l[j]? = some a) : sL d (l.drop j) = sT d a ++ sL d (l.drop (j + 1)) := by
  obtain ⟨hj, rfl⟩ := List.getElem?_eq_some_iff.1 h
  rw [List.drop_eq_getElem_cons hj]
  rfl
def PuS (N b : Nat) (vs : Int) (d : Nat) : Prop := ∀ (w : World) (cs : List Value) (st : StT d) (t : List UInt8), BX N b t w → N ≤ w.heap.size → TN N w → StM N w d cs st → okS vs d st → t.length + (sT d st).length ≤ 1000000000 →
  Calls Tryd.prog 32 #[.agg cs.toArray, .func (Fn.func 16) #[] #[.pointer (some ⟨b, 0, none⟩)]] w (PuP N b (t ++ sT d st) w)
theorem PuP.of {N b : Nat} {t t' : List UInt8} {w : World} {e : Ending} {w' : World} (h : PuP N b t w e w') (ht : t = t') : PuP N b t' w e w' := ht ▸ h
set_option maxHeartbeats 2000000 in
theorem putAll_any {N b d : Nat} {vs : Int} (hE : PuS N b vs d) (w : World) {sp : Option Addr} {n cap : Nat} {l : List (StT d)} (t : List UInt8) (hB : BX N b t w) (hN : N ≤ w.heap.size) (hT : TN N w) (hS : RS N w 7 (StM N w d) sp n cap l) (hok : ∀ a ∈ l, okS vs d a) (hlen : t.length + (sL d l).length ≤ 1000000000) :
    Calls Tryd.prog 21 #[.slice sp n cap, .func (Fn.func 16) #[] #[.pointer (some ⟨b, 0, none⟩)]] w (PuP N b (t ++ sL d l) w) := by
  have hnl := hS.len
  have hsm := hS.small
  obtain ⟨r, hr⟩ : ∃ r, r = t ++ sL d l := ⟨_, rfl⟩
  rw [← hr]
  have hrl : r.length ≤ 1000000000 := by rw [hr, List.length_append]; exact hlen
  replace hr := hid hr
  clear hlen
  go_enter Tryd.func21, Tryd.ntmps21
  go_upto_region 1 with fail
  go_loopw [8] (fun i wr => ∃ (j : Nat) (c : List UInt8), i = .int .i64 (j : Int) ∧ j ≤ n ∧ Hid (r = c ++ sL d (l.drop j)) ∧ BX N b c wr ∧ BK N b w wr)
    (fun i _ => n - (intOf i).toNat)
  case atStart => exact ⟨0, t, rfl, by omega, hid (by rw [List.drop_zero]; exact hr.out), hB, BK.ob hN (Below.refl _ _)⟩
  case round =>
    obtain ⟨j, c, rfl, hj, hf, hX, hb⟩ := hrel
    by_cases hlt : j < n
    · obtain ⟨st, ht⟩ : ∃ st, l[j]? = some st := ⟨l[j]'(by rw [← hnl.out]; exact hlt), List.getElem?_eq_getElem _⟩
      obtain ⟨g, off, rfl, hg, hR⟩ := hS.at0 (by omega)
      obtain ⟨cs, hrg, hM⟩ := hR j st ht
      have hbN := hb.bl
      have hrg2 := rb hrg hbN hg
      have hM2 := StM.below hbN d cs st hM
      have hokt := hok st (List.mem_of_getElem? ht)
      obtain ⟨ek, ev, ef, et, ea, ean, eac, eb, ebn, ebc, ec, ecn, ecc, rfl⟩ := hM.cl
      have c0 := hrg2 0 _ rfl
      have c1 := hrg2 1 _ rfl
      have c2 := hrg2 2 _ rfl
      have c3 := hrg2 3 _ rfl
      have c4 := hrg2 4 _ rfl
      have c5 := hrg2 5 _ rfl
      have c6 := hrg2 6 _ rfl
      simp only [Nat.add_zero] at c0
      have hlt' : (j : Int) < n := by omega
      have h0 : (0 : Int) ≤ j := by omega
      have hNr : N ≤ wr.heap.size := Nat.le_trans hN hbN.size
      have hfd := hf.out
      rw [sL_drop ht] at hfd
      have hln : c.length + (sT d st).length ≤ 1000000000 := by
        have := congrArg List.length hfd
        rw [List.length_append, List.length_append] at this
        omega
      have hB1 := ab wr (.cells (stC ek ev ef et (.slice ea ean eac) (.slice eb ebn ebc) (.slice ec ecn ecc)).toArray 66)
      have hx := hE (wr.alloc (.cells (stC ek ev ef et (.slice ea ean eac) (.slice eb ebn ebc) (.slice ec ecn ecc)).toArray 66)) _ st c (hX.keep hB1) (Nat.le_trans hNr hB1.size) ((hT.bl hbN).bl (hB1.mono hNr)) (StM.below (hB1.mono hNr) d _ st hM2) hokt hln
      have hw1 : IntKind.i64.wrap ((j : Int) + 1) = ((j + 1 : Nat) : Int) := by rw [IntKind.wrap_i64]; omega
      have hrn : Hid (r = (c ++ sT d st) ++ sL d (l.drop (j + 1))) := hid (by rw [hfd, List.append_assoc])
      have hK1 := BK.ob hNr hB1 (b := b)
      clear hS hR hrg hrg2 hM hM2 hok hnl ht hf hokt hE hfd hln
      unfold PuP at hx
      generalize c ++ sT d st = c' at *
      unfold stC at *
      go_wp2_with (go_at_call 32; go_must (refine hx.mono ?_; rintro e w1 ⟨rfl, hX1, hK⟩))
      go_roundw
      case rel => exact ⟨j + 1, c', by go_num, by omega, hrn, hX1, hb.trans (hK1.trans hK)⟩
      case measure => simp [intOf]; omega
    · obtain rfl : j = n := by omega
      have hrn : r = c := by rw [hf.out, hnl.out, List.drop_length]; simp [sL]
      clear hS hok hf hnl hE
      subst hrn
      go_wp2_with fail
      go_end0
      exact ⟨rfl, hX, hb⟩
end Go.Proofs.YtoopgppahfnncaaDoor
/- Layer ir: a statement is put, which may hold others. -/
namespace Go.Proofs.YtoopgppahfnncaaDoor
open Go.Shelf Go.RowKit Go.Sort
set_option maxRecDepth 100000
set_option linter.unusedVariables false
set_option linter.unusedSimpArgs false

set_option maxHeartbeats 4000000 in
theorem put_5 {N b d : Nat} {vs : Int} (w : World) (cs : List Value) (st : StT (d + 1)) (t : List UInt8) (hB : BX N b t w) (hN : N ≤ w.heap.size) (hT : TN N w) (hM : StM N w (d + 1) cs st) (hok : okS vs (d + 1) st) (hk : st.nd.k = 5) (hlen : t.length + (sT (d + 1) st).length ≤ 1000000000) :
    Calls Tryd.prog 32 #[.agg cs.toArray, .func (Fn.func 16) #[] #[.pointer (some ⟨b, 0, none⟩)]] w (PuP N b (t ++ sT (d + 1) st) w) := by
  obtain ⟨⟨ps, hm⟩, hsok, ha1000, hA, hTh, hEl⟩ := hok
  obtain ⟨sa, na, ca, sb, nb, cb, sc, nc, cc, rfl, -, hSa, hSb, hSc⟩ := hM
  have hnl := hSa.len
  have hs : sT (d + 1) st = sTn (sT d) st.nd := rfl
  rw [hs] at hlen ⊢
  clear hs
  obtain ⟨⟨k, v, f, tg, a, th, el⟩, ht⟩ : ∃ q : StN (StT d), q = st.nd := ⟨_, rfl⟩
  rw [← ht] at hm hsok ha1000 hA hTh hEl hSa hSb hSc hnl hlen hk ⊢
  clear ht
  have hk' : k = 5 := hk
  subst hk'
  clear hk
  have hv64 : I64 v := hsok.v
  have ht64 : I64 tg := hsok.t
  have hf64 : I64 f := hsok.f
  replace hnl : Hid (na = a.length) := hnl
  have ha400 : a.length ≤ 400 := ha1000
  replace ha1000 : a.length ≤ 1000 := by omega
  replace hA : ∀ q ∈ a, okT vs 8 q := hA
  replace hSa : RS N w 5 (ExM N w 8) sa na ca a := hSa
  have hal : a.length = 1 := by
    unfold mayS at hm
    simp at hm
    omega
  match a, hal, hnl, ha1000, hA, hSa, hlen with
  | [x], hal, hnl, ha1000, hA, hSa, hlen =>
    have hna : na = 1 := hnl.out
    subst hna
    have hres : sTn (sT d) (⟨5, v, f, tg, [x], th, el⟩ : StN (StT d)) = ln [[114, 101, 116, 117, 114, 110], xT 8 x] := rfl
    rw [hres] at hlen ⊢
    clear hres hsok hm
    have b0 := ab w (.cells #[.int .u8 5, .int .i64 v, .int .i64 f, .int .i64 tg, .slice sa 1 ca, .slice sb nb cb, .slice sc nc cc] 66)
    have A := Arr.new w 66 #[.int .u8 5, .int .i64 v, .int .i64 f, .int .i64 tg, .slice sa 1 ca, .slice sb nb cb, .slice sc nc cc]
    have hx43 := texts_any (etx_any N vs 8 (by omega)) (w.alloc (.cells #[.int .u8 5, .int .i64 v, .int .i64 f, .int .i64 tg, .slice sa 1 ca, .slice sb nb cb, .slice sc nc cc] 66)) (hSa.imp (b0.mono hN) (ExM.below (b0.mono hN) 8)) hA (by omega) (Nat.le_trans hN b0.size) (hT.tb.bl b0)
    have a0 := A.cell 0
    have a4 := A.cell 4
    replace hTh : ∀ q ∈ th, okS vs d q := hTh
    replace hEl : ∀ q ∈ el, okS vs d q := hEl
    replace hSb : RS N w 7 (StM N w d) sb nb cb th := hSb
    replace hSc : RS N w 7 (StM N w d) sc nc cc el := hSc
    clear hSa hA hnl hal ha1000
    simp only [sx, List.map_cons, List.map_nil] at hx43
    generalize hW0 : ln [[114, 101, 116, 117, 114, 110], xT 8 x] = L0 at *
    replace hW0 := hid hW0
    show Calls Tryd.prog 32 #[.agg #[.int .u8 5, .int .i64 v, .int .i64 f, .int .i64 tg, .slice sa 1 ca, .slice sb nb cb, .slice sc nc cc], .func (Fn.func 16) #[] #[.pointer (some ⟨b, 0, none⟩)]] w _
    have hlen2 : t.length + ((L0).length) ≤ 1000000000 := by simpa only [List.length_append, Nat.add_assoc] using hlen
    clear hlen
    clear hSb hSc hTh hEl
    have hq0 : Hid ((t).length + (L0).length ≤ 1000000000) := hid (by (try simp only [List.length_append]); omega)
    go_enter Tryd.func32, Tryd.ntmps32
    go_wp2_with (first
      | (go_at_call 43; go_must (refine hx43.mono ?_; rintro e w1 ⟨⟨pv, rfl, hown⟩, hb1⟩; obtain ⟨G, cp, cur, rfl, hG1, hG2, hG3, hG4⟩ := own_row hown (by omega); have A1 := A.bl hb1; have k0 := A1.cell 0; have k1 := A1.cell 1; have k3 := A1.cell 3; have g0 := hG4 0 _ rfl; have hB01 := b0.trans (hb1.mono b0.size); have hX1 := hB.keep hB01; have hN1 := Nat.le_trans hN hB01.size; have hT1 := hT.bl (hB01.mono hN); have hKa1 := BK.ob hN hB01 (b := b); have hNw1 := hN1; have hBww1 := hKa1.bl))
      | (have hgd := hX1; clear hgd; go_at_call 16; go_must (refine (put_lit (ws := [[114, 101, 116, 117, 114, 110], xT 8 x]) w1 hX1 hNw1 _ rfl rfl (by simp) (by rw [hW0.out]; exact hq0.out)).mono ?_; rintro e w2 ⟨rfl, hX2, hK2⟩; rw [hW0.out] at hX2; have hKa2 := hKa1.trans hK2; have hNw2 := Nat.le_trans hN hKa2.bl.size; have hBww2 := hKa2.bl)))
    go_end0
    exact ⟨rfl, by simpa only [List.append_assoc] using hX2, hKa2⟩
set_option maxHeartbeats 4000000 in
theorem put_4 {N b d : Nat} {vs : Int} (w : World) (cs : List Value) (st : StT (d + 1)) (t : List UInt8) (hB : BX N b t w) (hN : N ≤ w.heap.size) (hT : TN N w) (hM : StM N w (d + 1) cs st) (hok : okS vs (d + 1) st) (hk : st.nd.k = 4) (hlen : t.length + (sT (d + 1) st).length ≤ 1000000000) (hE : PuS N b vs d) :
    Calls Tryd.prog 32 #[.agg cs.toArray, .func (Fn.func 16) #[] #[.pointer (some ⟨b, 0, none⟩)]] w (PuP N b (t ++ sT (d + 1) st) w) := by
  obtain ⟨⟨ps, hm⟩, hsok, ha1000, hA, hTh, hEl⟩ := hok
  obtain ⟨sa, na, ca, sb, nb, cb, sc, nc, cc, rfl, -, hSa, hSb, hSc⟩ := hM
  have hnl := hSa.len
  have hs : sT (d + 1) st = sTn (sT d) st.nd := rfl
  rw [hs] at hlen ⊢
  clear hs
  obtain ⟨⟨k, v, f, tg, a, th, el⟩, ht⟩ : ∃ q : StN (StT d), q = st.nd := ⟨_, rfl⟩
  rw [← ht] at hm hsok ha1000 hA hTh hEl hSa hSb hSc hnl hlen hk ⊢
  clear ht
  have hk' : k = 4 := hk
  subst hk'
  clear hk
  have hv64 : I64 v := hsok.v
  have ht64 : I64 tg := hsok.t
  have hf64 : I64 f := hsok.f
  replace hnl : Hid (na = a.length) := hnl
  have ha400 : a.length ≤ 400 := ha1000
  replace ha1000 : a.length ≤ 1000 := by omega
  replace hA : ∀ q ∈ a, okT vs 8 q := hA
  replace hSa : RS N w 5 (ExM N w 8) sa na ca a := hSa
  have hal : a.length = 1 := by
    unfold mayS at hm
    simp at hm
    omega
  match a, hal, hnl, ha1000, hA, hSa, hlen with
  | [x], hal, hnl, ha1000, hA, hSa, hlen =>
    have hna : na = 1 := hnl.out
    subst hna
    have hres : sTn (sT d) (⟨4, v, f, tg, [x], th, el⟩ : StN (StT d)) = ln [[119, 104, 105, 108, 101], xT 8 x] ++ sL d th ++ ln [[101, 110, 100]] := rfl
    rw [hres] at hlen ⊢
    clear hres hsok hm
    have b0 := ab w (.cells #[.int .u8 4, .int .i64 v, .int .i64 f, .int .i64 tg, .slice sa 1 ca, .slice sb nb cb, .slice sc nc cc] 66)
    have A := Arr.new w 66 #[.int .u8 4, .int .i64 v, .int .i64 f, .int .i64 tg, .slice sa 1 ca, .slice sb nb cb, .slice sc nc cc]
    have hx43 := texts_any (etx_any N vs 8 (by omega)) (w.alloc (.cells #[.int .u8 4, .int .i64 v, .int .i64 f, .int .i64 tg, .slice sa 1 ca, .slice sb nb cb, .slice sc nc cc] 66)) (hSa.imp (b0.mono hN) (ExM.below (b0.mono hN) 8)) hA (by omega) (Nat.le_trans hN b0.size) (hT.tb.bl b0)
    have a0 := A.cell 0
    have a4 := A.cell 4
    replace hTh : ∀ q ∈ th, okS vs d q := hTh
    replace hEl : ∀ q ∈ el, okS vs d q := hEl
    replace hSb : RS N w 7 (StM N w d) sb nb cb th := hSb
    replace hSc : RS N w 7 (StM N w d) sc nc cc el := hSc
    clear hSa hA hnl hal ha1000
    simp only [sx, List.map_cons, List.map_nil] at hx43
    generalize hW0 : ln [[119, 104, 105, 108, 101], xT 8 x] = L0 at *
    replace hW0 := hid hW0
    generalize hW1 : ln [[101, 110, 100]] = L1 at *
    replace hW1 := hid hW1
    show Calls Tryd.prog 32 #[.agg #[.int .u8 4, .int .i64 v, .int .i64 f, .int .i64 tg, .slice sa 1 ca, .slice sb nb cb, .slice sc nc cc], .func (Fn.func 16) #[] #[.pointer (some ⟨b, 0, none⟩)]] w _
    have hlen2 : t.length + ((L0).length + (sL d th).length + (L1).length) ≤ 1000000000 := by simpa only [List.length_append, Nat.add_assoc] using hlen
    clear hlen
    have hHb := hid hSb
    have hHc := hid hSc
    have hQb := hid hTh
    have hQc := hid hEl
    have hEE := hid hE
    clear hSb hSc hTh hEl hE
    have hq0 : Hid ((t).length + (L0).length ≤ 1000000000) := hid (by (try simp only [List.length_append]); omega)
    have hq1 : Hid ((t ++ L0).length + (sL d th).length ≤ 1000000000) := hid (by (try simp only [List.length_append]); omega)
    have hq2 : Hid ((t ++ L0 ++ sL d th).length + (L1).length ≤ 1000000000) := hid (by (try simp only [List.length_append]); omega)
    go_enter Tryd.func32, Tryd.ntmps32
    go_wp2_with (first
      | (go_at_call 43; go_must (refine hx43.mono ?_; rintro e w1 ⟨⟨pv, rfl, hown⟩, hb1⟩; obtain ⟨G, cp, cur, rfl, hG1, hG2, hG3, hG4⟩ := own_row hown (by omega); have A1 := A.bl hb1; have k0 := A1.cell 0; have k1 := A1.cell 1; have k3 := A1.cell 3; have g0 := hG4 0 _ rfl; have hB01 := b0.trans (hb1.mono b0.size); have hX1 := hB.keep hB01; have hN1 := Nat.le_trans hN hB01.size; have hT1 := hT.bl (hB01.mono hN); have hKa1 := BK.ob hN hB01 (b := b); have hNw1 := hN1; have hBww1 := hKa1.bl; have hbb := hB.bl; have hwl : w.heap.size ≠ b := (by omega); have k5' := A1.cell 5; have k6' := A1.cell 6; have hC : ∀ (u : World), BK N b w1 u → u.cell? ⟨w.heap.size, 5, none⟩ = some (.slice sb nb cb) ∧ u.cell? ⟨w.heap.size, 6, none⟩ = some (.slice sc nc cc) := fun u hb => ⟨hb.cell A1 hwl (by decide) k5', hb.cell A1 hwl (by decide) k6'⟩))
      | (have hgd := hX3; clear hgd; go_at_call 16; go_must (refine (put_lit (ws := [[101, 110, 100]]) w3 hX3 hNw3 _ rfl rfl (by simp) (by rw [hW1.out]; exact hq2.out)).mono ?_; rintro e w4 ⟨rfl, hX4, hK4⟩; rw [hW1.out] at hX4; have hKa4 := hKa3.trans hK4; have hKb4 := hKb3.trans hK4; obtain ⟨k5, k6⟩ := hC w4 hKb4; have hNw4 := Nat.le_trans hN hKa4.bl.size; have hBww4 := hKa4.bl))
      | (have hgd := hX2; clear hgd; go_at_call 21; go_must (refine (putAll_any hEE.out w2 (t ++ L0) hX2 hNw2 (hT.bl hBww2) (hHb.out.imp hBww2 (StM.below hBww2 d)) hQb.out hq1.out).mono ?_; rintro e w3 ⟨rfl, hX3, hK3⟩; have hKa3 := hKa2.trans hK3; have hKb3 := hKb2.trans hK3; obtain ⟨k5, k6⟩ := hC w3 hKb3; have hNw3 := Nat.le_trans hN hKa3.bl.size; have hBww3 := hKa3.bl))
      | (have hgd := hX1; clear hgd; go_at_call 16; go_must (refine (put_lit (ws := [[119, 104, 105, 108, 101], xT 8 x]) w1 hX1 hNw1 _ rfl rfl (by simp) (by rw [hW0.out]; exact hq0.out)).mono ?_; rintro e w2 ⟨rfl, hX2, hK2⟩; rw [hW0.out] at hX2; have hKa2 := hKa1.trans hK2; have hKb2 := hK2; obtain ⟨k5, k6⟩ := hC w2 hKb2; have hNw2 := Nat.le_trans hN hKa2.bl.size; have hBww2 := hKa2.bl)))
    go_end0
    exact ⟨rfl, by simpa only [List.append_assoc] using hX4, hKa4⟩
set_option maxHeartbeats 4000000 in
theorem put_3 {N b d : Nat} {vs : Int} (w : World) (cs : List Value) (st : StT (d + 1)) (t : List UInt8) (hB : BX N b t w) (hN : N ≤ w.heap.size) (hT : TN N w) (hM : StM N w (d + 1) cs st) (hok : okS vs (d + 1) st) (hk : st.nd.k = 3) (hlen : t.length + (sT (d + 1) st).length ≤ 1000000000) (hE : PuS N b vs d) :
    Calls Tryd.prog 32 #[.agg cs.toArray, .func (Fn.func 16) #[] #[.pointer (some ⟨b, 0, none⟩)]] w (PuP N b (t ++ sT (d + 1) st) w) := by
  obtain ⟨⟨ps, hm⟩, hsok, ha1000, hA, hTh, hEl⟩ := hok
  obtain ⟨sa, na, ca, sb, nb, cb, sc, nc, cc, rfl, -, hSa, hSb, hSc⟩ := hM
  have hnl := hSa.len
  have hs : sT (d + 1) st = sTn (sT d) st.nd := rfl
  rw [hs] at hlen ⊢
  clear hs
  obtain ⟨⟨k, v, f, tg, a, th, el⟩, ht⟩ : ∃ q : StN (StT d), q = st.nd := ⟨_, rfl⟩
  rw [← ht] at hm hsok ha1000 hA hTh hEl hSa hSb hSc hnl hlen hk ⊢
  clear ht
  have hk' : k = 3 := hk
  subst hk'
  clear hk
  have hv64 : I64 v := hsok.v
  have ht64 : I64 tg := hsok.t
  have hf64 : I64 f := hsok.f
  replace hnl : Hid (na = a.length) := hnl
  have ha400 : a.length ≤ 400 := ha1000
  replace ha1000 : a.length ≤ 1000 := by omega
  replace hA : ∀ q ∈ a, okT vs 8 q := hA
  replace hSa : RS N w 5 (ExM N w 8) sa na ca a := hSa
  have hal : a.length = 1 := by
    unfold mayS at hm
    simp at hm
    omega
  match a, hal, hnl, ha1000, hA, hSa, hlen with
  | [x], hal, hnl, ha1000, hA, hSa, hlen =>
    have hna : na = 1 := hnl.out
    subst hna
    have hres : sTn (sT d) (⟨3, v, f, tg, [x], th, el⟩ : StN (StT d)) = ln [[105, 102], xT 8 x] ++ sL d th ++ ln [[101, 108, 115, 101]] ++ sL d el ++ ln [[101, 110, 100]] := rfl
    rw [hres] at hlen ⊢
    clear hres hsok hm
    have b0 := ab w (.cells #[.int .u8 3, .int .i64 v, .int .i64 f, .int .i64 tg, .slice sa 1 ca, .slice sb nb cb, .slice sc nc cc] 66)
    have A := Arr.new w 66 #[.int .u8 3, .int .i64 v, .int .i64 f, .int .i64 tg, .slice sa 1 ca, .slice sb nb cb, .slice sc nc cc]
    have hx43 := texts_any (etx_any N vs 8 (by omega)) (w.alloc (.cells #[.int .u8 3, .int .i64 v, .int .i64 f, .int .i64 tg, .slice sa 1 ca, .slice sb nb cb, .slice sc nc cc] 66)) (hSa.imp (b0.mono hN) (ExM.below (b0.mono hN) 8)) hA (by omega) (Nat.le_trans hN b0.size) (hT.tb.bl b0)
    have a0 := A.cell 0
    have a4 := A.cell 4
    replace hTh : ∀ q ∈ th, okS vs d q := hTh
    replace hEl : ∀ q ∈ el, okS vs d q := hEl
    replace hSb : RS N w 7 (StM N w d) sb nb cb th := hSb
    replace hSc : RS N w 7 (StM N w d) sc nc cc el := hSc
    clear hSa hA hnl hal ha1000
    simp only [sx, List.map_cons, List.map_nil] at hx43
    generalize hW0 : ln [[105, 102], xT 8 x] = L0 at *
    replace hW0 := hid hW0
    generalize hW1 : ln [[101, 108, 115, 101]] = L1 at *
    replace hW1 := hid hW1
    generalize hW2 : ln [[101, 110, 100]] = L2 at *
    replace hW2 := hid hW2
    show Calls Tryd.prog 32 #[.agg #[.int .u8 3, .int .i64 v, .int .i64 f, .int .i64 tg, .slice sa 1 ca, .slice sb nb cb, .slice sc nc cc], .func (Fn.func 16) #[] #[.pointer (some ⟨b, 0, none⟩)]] w _
    have hlen2 : t.length + ((L0).length + (sL d th).length + (L1).length + (sL d el).length + (L2).length) ≤ 1000000000 := by simpa only [List.length_append, Nat.add_assoc] using hlen
    clear hlen
    have hHb := hid hSb
    have hHc := hid hSc
    have hQb := hid hTh
    have hQc := hid hEl
    have hEE := hid hE
    clear hSb hSc hTh hEl hE
    have hq0 : Hid ((t).length + (L0).length ≤ 1000000000) := hid (by (try simp only [List.length_append]); omega)
    have hq1 : Hid ((t ++ L0).length + (sL d th).length ≤ 1000000000) := hid (by (try simp only [List.length_append]); omega)
    have hq2 : Hid ((t ++ L0 ++ sL d th).length + (L1).length ≤ 1000000000) := hid (by (try simp only [List.length_append]); omega)
    have hq3 : Hid ((t ++ L0 ++ sL d th ++ L1).length + (sL d el).length ≤ 1000000000) := hid (by (try simp only [List.length_append]); omega)
    have hq4 : Hid ((t ++ L0 ++ sL d th ++ L1 ++ sL d el).length + (L2).length ≤ 1000000000) := hid (by (try simp only [List.length_append]); omega)
    go_enter Tryd.func32, Tryd.ntmps32
    go_wp2_with (first
      | (go_at_call 43; go_must (refine hx43.mono ?_; rintro e w1 ⟨⟨pv, rfl, hown⟩, hb1⟩; obtain ⟨G, cp, cur, rfl, hG1, hG2, hG3, hG4⟩ := own_row hown (by omega); have A1 := A.bl hb1; have k0 := A1.cell 0; have k1 := A1.cell 1; have k3 := A1.cell 3; have g0 := hG4 0 _ rfl; have hB01 := b0.trans (hb1.mono b0.size); have hX1 := hB.keep hB01; have hN1 := Nat.le_trans hN hB01.size; have hT1 := hT.bl (hB01.mono hN); have hKa1 := BK.ob hN hB01 (b := b); have hNw1 := hN1; have hBww1 := hKa1.bl; have hbb := hB.bl; have hwl : w.heap.size ≠ b := (by omega); have k5' := A1.cell 5; have k6' := A1.cell 6; have hC : ∀ (u : World), BK N b w1 u → u.cell? ⟨w.heap.size, 5, none⟩ = some (.slice sb nb cb) ∧ u.cell? ⟨w.heap.size, 6, none⟩ = some (.slice sc nc cc) := fun u hb => ⟨hb.cell A1 hwl (by decide) k5', hb.cell A1 hwl (by decide) k6'⟩))
      | (have hgd := hX5; clear hgd; go_at_call 16; go_must (refine (put_lit (ws := [[101, 110, 100]]) w5 hX5 hNw5 _ rfl rfl (by simp) (by rw [hW2.out]; exact hq4.out)).mono ?_; rintro e w6 ⟨rfl, hX6, hK6⟩; rw [hW2.out] at hX6; have hKa6 := hKa5.trans hK6; have hKb6 := hKb5.trans hK6; obtain ⟨k5, k6⟩ := hC w6 hKb6; have hNw6 := Nat.le_trans hN hKa6.bl.size; have hBww6 := hKa6.bl))
      | (have hgd := hX4; clear hgd; go_at_call 21; go_must (refine (putAll_any hEE.out w4 (t ++ L0 ++ sL d th ++ L1) hX4 hNw4 (hT.bl hBww4) (hHc.out.imp hBww4 (StM.below hBww4 d)) hQc.out hq3.out).mono ?_; rintro e w5 ⟨rfl, hX5, hK5⟩; have hKa5 := hKa4.trans hK5; have hKb5 := hKb4.trans hK5; obtain ⟨k5, k6⟩ := hC w5 hKb5; have hNw5 := Nat.le_trans hN hKa5.bl.size; have hBww5 := hKa5.bl))
      | (have hgd := hX3; clear hgd; go_at_call 16; go_must (refine (put_lit (ws := [[101, 108, 115, 101]]) w3 hX3 hNw3 _ rfl rfl (by simp) (by rw [hW1.out]; exact hq2.out)).mono ?_; rintro e w4 ⟨rfl, hX4, hK4⟩; rw [hW1.out] at hX4; have hKa4 := hKa3.trans hK4; have hKb4 := hKb3.trans hK4; obtain ⟨k5, k6⟩ := hC w4 hKb4; have hNw4 := Nat.le_trans hN hKa4.bl.size; have hBww4 := hKa4.bl))
      | (have hgd := hX2; clear hgd; go_at_call 21; go_must (refine (putAll_any hEE.out w2 (t ++ L0) hX2 hNw2 (hT.bl hBww2) (hHb.out.imp hBww2 (StM.below hBww2 d)) hQb.out hq1.out).mono ?_; rintro e w3 ⟨rfl, hX3, hK3⟩; have hKa3 := hKa2.trans hK3; have hKb3 := hKb2.trans hK3; obtain ⟨k5, k6⟩ := hC w3 hKb3; have hNw3 := Nat.le_trans hN hKa3.bl.size; have hBww3 := hKa3.bl))
      | (have hgd := hX1; clear hgd; go_at_call 16; go_must (refine (put_lit (ws := [[105, 102], xT 8 x]) w1 hX1 hNw1 _ rfl rfl (by simp) (by rw [hW0.out]; exact hq0.out)).mono ?_; rintro e w2 ⟨rfl, hX2, hK2⟩; rw [hW0.out] at hX2; have hKa2 := hKa1.trans hK2; have hKb2 := hK2; obtain ⟨k5, k6⟩ := hC w2 hKb2; have hNw2 := Nat.le_trans hN hKa2.bl.size; have hBww2 := hKa2.bl)))
    go_end0
    exact ⟨rfl, by simpa only [List.append_assoc] using hX6, hKa6⟩
end Go.Proofs.YtoopgppahfnncaaDoor
