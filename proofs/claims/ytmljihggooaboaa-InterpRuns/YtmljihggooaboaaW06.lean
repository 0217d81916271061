/- Ii, Ij, Ik0. -/
import Derived.Test.YtmljihggooaboaaW05
import Derived.Handy
import Derived.BigQuiet
import Derived.BigRegion
import Derived.Laws.MakeOwn
import Derived.Laws.AppendOwn
import Derived.OwnWalk
/- Layer interp: what an expression comes to. -/
namespace Go.Proofs.Ytmljihggooaboaa
open Go.RowKit
set_option maxRecDepth 100000
set_option linter.unusedVariables false
set_option linter.unusedSimpArgs false

/-- n variables. -/
structure VarI (gv nv : Nat) (V : List Int) (w : World) : Prop where
  av : Arr w gv 30 (uA V)
  len : Hid (V.length = nv)
  n64 : nv ≤ 64
  vU : ∀ x ∈ V, U64 x
theorem VarI.bl {gv nv : Nat} {V : List Int} {w w' : World} (h : VarI gv nv V w) (hb : Below w.heap.size w w') : VarI gv nv V w' := ⟨h.av.bl hb, h.len, h.n64, h.vU⟩
def VlP (r : Option Int) (w : World) (e : Ending) (w' : World) : Prop := (∀ z, r = some z → e = .returned (.int .u64 z)) ∧ (r = none → e = .panicked trI) ∧ Below w.heap.size w w'
theorem VlP.ok {z : Int} {w : World} {e : Ending} {w' : World} (h : e = .returned (.int .u64 z)) (hb : Below w.heap.size w w') : VlP (some z) w e w' := ⟨fun z' hz => (by cases hz; exact h), fun h => (by cases h), hb⟩
theorem VlP.no {w : World} {e : Ending} {w' : World} (h : e = .panicked trI) (hb : Below w.heap.size w w') : VlP none w e w' := ⟨fun z' hz => (by cases hz), fun _ => h, hb⟩
theorem getU {L : List Int} (h : ∀ x ∈ L, U64 x) (k : Nat) : U64 (L.getD k 0) := by
  rw [List.getD_eq_getElem?_getD]
  by_cases hk : k < L.length
  · rw [List.getElem?_eq_getElem hk]; exact h _ (List.getElem_mem hk)
  · rw [List.getElem?_eq_none (by omega)]; simp [U64]
variable {gr gw n : Nat} {p0 p1 kv mv : Value} {W : List Int} {lf : Int} {gv nv : Nat} {V : List Int} {N : Nat}
def VlAt (N gr gw n : Nat) (p0 p1 kv mv : Value) (W : List Int) (lf : Int) (gv nv : Nat) (V : List Int) (d : Nat) : Prop :=
  ∀ (w : World) (cs : List Value) (t : ExT d), N ≤ w.heap.size → RunI gr gw n p0 p1 kv mv W lf w → VarI gv nv V w → ExM N w d cs t → okX nv d t →
    Calls Try.prog 59 #[.pointer (some ⟨gr, 0, none⟩), .agg cs.toArray, .slice (some ⟨gv, 0, none⟩) nv nv] w (VlP (evX W V d t) w) ∧ ∀ z, evX W V d t = some z → U64 z
set_option maxHeartbeats 2000000 in
theorem value_s {d : Nat} (hE : VlAt N gr gw n p0 p1 kv mv W lf gv nv V d) : VlAt N gr gw n p0 p1 kv mv W lf gv nv V (d + 1) := by
  intro w cs t hN hI hV hM hok
  obtain ⟨hmy, hkids⟩ := okX_s hok
  obtain ⟨sp, m, cap, rfl, hko, hS⟩ := hM
  have b0 := ab w (.cells (exC t.nd.k t.nd.n t.nd.v t.nd.o (.slice sp m cap)).toArray 76)
  have hl := hS.len.out
  obtain ⟨⟨k, nn, v, o, l⟩, ht⟩ : ∃ q : ExN (ExT d), q = t.nd := ⟨_, rfl⟩
  have he : evX W V (d + 1) t = if t.nd.k = 1 then some t.nd.n else if t.nd.k = 2 then some (V.getD t.nd.v.toNat 0) else if t.nd.k = 4 then (t.nd.l[0]?).bind fun a => (evX W V d a).bind fun x => if x < W.length then some (W.getD x.toNat 0) else none else (t.nd.l[0]?).bind fun a => (t.nd.l[1]?).bind fun b => (evX W V d a).bind fun x => (evX W V d b).bind fun y => rk t.nd.o x y := rfl
  rw [← ht] at he
  replace he : evX W V (d + 1) t = if k = 1 then some nn else if k = 2 then some (V.getD v.toNat 0) else if k = 4 then (l[0]?).bind fun a => (evX W V d a).bind fun x => if x < W.length then some (W.getD x.toNat 0) else none else (l[0]?).bind fun a => (l[1]?).bind fun b => (evX W V d a).bind fun x => (evX W V d b).bind fun y => rk o x y := he
  rw [← ht] at hmy hkids hko hS hl b0 ⊢
  replace hl : m = l.length := hl
  clear ht hok
  rw [he]
  clear he
  have hkn : U64 nn := hko.n
  by_cases h1 : k = 1
  · subst h1
    rw [if_pos rfl]
    refine ⟨?_, fun z hz => by cases hz; exact hkn⟩
    clear hE hS hI hV hkids hmy hko hl
    unfold exC at *
    go_enter Try.func59, Try.ntmps59
    go_wp2_with fail
    go_ret
    exact VlP.ok rfl b0
  rw [if_neg h1]
  by_cases h2 : k = 2
  · subst h2
    rw [if_pos rfl]
    have hm2 : 0 ≤ v ∧ v < nv := by simp [mayE] at hmy; omega
    obtain ⟨j, rfl⟩ : ∃ j : Nat, v = j := ⟨v.toNat, by omega⟩
    have hj : j < nv := by omega
    have cv := ((hV.av.alloc (.cells (exC 2 nn j o (.slice sp m cap)).toArray 76)).cell j).trans (uA_get (by rw [hV.len.out]; exact hj))
    have hU := getU hV.vU j
    rw [show (j : Int).toNat = j by omega]
    refine ⟨?_, fun z hz => by cases hz; exact hU⟩
    have hj2 : (j : Int) < nv := by omega
    clear hE hS hI hV hkids hmy hko hm2 hl
    generalize V.getD j 0 = z at *
    unfold exC at *
    go_enter Try.func59, Try.ntmps59
    go_wp2_with fail
    go_ret
    exact VlP.ok rfl b0
  rw [if_neg h2]
  have hm0 : 0 < m := by
    by_cases h3 : k = 3
    · subst h3; simp [mayE] at hmy; omega
    by_cases h4 : k = 4
    · subst h4; simp [mayE] at hmy; omega
    · simp [mayE, h1, h2, h3, h4] at hmy
  obtain ⟨g, off, rfl, hg, hR⟩ := hS.at0 hm0
  obtain ⟨ta, hta⟩ : ∃ a, l[0]? = some a := ⟨l[0]'(by omega), List.getElem?_eq_getElem _⟩
  obtain ⟨ca, hra, hMa⟩ := hR 0 ta hta
  have oka := hkids ta (List.mem_of_getElem? hta)
  have hN1 : N ≤ (w.alloc (.cells (exC k nn v o (.slice (some ⟨g, off, none⟩) m cap)).toArray 76)).heap.size := by simp; omega
  obtain ⟨hca, hUa⟩ := hE (w.alloc (.cells (exC k nn v o (.slice (some ⟨g, off, none⟩) m cap)).toArray 76)) ca ta hN1 (hI.bl b0) (hV.bl b0) (ExM.below (b0.mono hN) d ca ta hMa) oka
  have hra2 := rb hra (b0.mono hN) hg
  obtain ⟨ak, an, av, ao, asl, am, ac, rfl⟩ := hMa.cells
  have a0 := hra2 0 _ rfl
  have a1 := hra2 1 _ rfl
  have a2 := hra2 2 _ rfl
  have a3 := hra2 3 _ rfl
  have a4 := hra2 4 _ rfl
  simp only [Nat.add_zero, Nat.zero_mul] at a0 a1 a2 a3 a4
  have A := Arr.new w 76 (exC k nn v o (.slice (some ⟨g, off, none⟩) m cap)).toArray
  have hm0' : (0 : Int) < m := by omega
  by_cases h4 : k = 4
  · subst h4
    rw [if_pos rfl, hta]
    show Calls _ _ _ _ (VlP ((evX W V d ta).bind fun x => if x < W.length then some (W.getD x.toNat 0) else none) w) ∧ ∀ z, ((evX W V d ta).bind fun x => if x < W.length then some (W.getD x.toNat 0) else none) = some z → U64 z
    cases hx : evX W V d ta with
    | none =>
      rw [hx] at hca
      refine ⟨?_, fun z hz => by cases hz⟩
      show Calls _ _ _ _ (VlP none w)
      clear hE hS hI hV hkids hmy hko hR hra hra2 hMa oka hUa hta hl
      unfold exC at *
      go_enter Try.func59, Try.ntmps59
      go_wp2_with (go_at_call 59; go_must (refine hca.mono ?_; rintro e w1 ⟨-, hn, hb1⟩; have hn' := hn rfl; subst hn'))
      exact ⟨rfl, VlP.no rfl (b0.trans (hb1.mono b0.size))⟩
    | some x =>
      rw [hx] at hca
      have hxU := hUa x hx
      have hA2 := A
      show Calls _ _ _ _ (VlP (if x < W.length then some (W.getD x.toNat 0) else none) w) ∧ ∀ z, (if x < W.length then some (W.getD x.toNat 0) else none) = some z → U64 z
      rw [hI.len.out]
      by_cases hxl : x < n
      · rw [if_pos hxl]
        obtain ⟨q, rfl⟩ : ∃ q : Nat, x = q := ⟨x.toNat, by have := hxU.1; omega⟩
        have hq : q < n := by omega
        refine ⟨?_, fun z hz => by cases hz; exact getU hI.wU _⟩
        have hwd := fun (u : World) (hu : RunI gr gw n p0 p1 kv mv W lf u) => word_ok (x := (q : Int)) u hu rfl hq
        have hcell := fun (u : World) (hu : RunI gr gw n p0 p1 kv mv W lf u) => (hu.aw.cell q).trans (uA_get (by rw [hu.len.out]; exact hq))
        have hI1 := hI.bl b0
        rw [show (q : Int).toNat = q by omega]
        generalize W.getD q 0 = z at *
        clear hE hS hV hkids hmy hko hR hra hra2 hMa oka hUa hta hI hl
        unfold exC at *
        go_enter Try.func59, Try.ntmps59
        go_wp2_with (first
          | (go_at_call 59; go_must (refine hca.mono ?_; rintro e w1 ⟨hs, -, hb1⟩; have hs' := hs _ rfl; subst hs'; have hw2 := hwd w1 (hI1.bl hb1); have hc2 := hcell w1 (hI1.bl hb1)))
          | (go_at_call 44; go_must (refine hw2.mono ?_; rintro e w2 ⟨rfl, h⟩; replace h := h.symm; subst h)))
        go_ret
        exact VlP.ok rfl (b0.trans (hb1.mono b0.size))
      · rw [if_neg hxl]
        refine ⟨?_, fun z hz => by cases hz⟩
        have hwd := fun (u : World) (hu : RunI gr gw n p0 p1 kv mv W lf u) => word_no (x := x) u hu (by omega)
        have hI1 := hI.bl b0
        clear hE hS hV hkids hmy hko hR hra hra2 hMa oka hUa hta hI hl
        unfold exC at *
        go_enter Try.func59, Try.ntmps59
        go_wp2_with (first
          | (go_at_call 59; go_must (refine hca.mono ?_; rintro e w1 ⟨hs, -, hb1⟩; have hs' := hs _ rfl; subst hs'; have hw2 := hwd w1 (hI1.bl hb1)))
          | (go_at_call 44; go_must (refine hw2.mono ?_; rintro e w2 ⟨rfl, h⟩; replace h := h.symm; subst h)))
        exact ⟨rfl, VlP.no rfl (b0.trans (hb1.mono b0.size))⟩
  · rw [if_neg h4, hta]
    have h3 : k = 3 := by
      by_cases h3 : k = 3
      · exact h3
      · simp [mayE, h1, h2, h3, h4] at hmy
    subst h3
    obtain ⟨ho, hm2⟩ : (5 ≤ o ∧ o ≤ 16) ∧ m = 2 := by simp [mayE] at hmy; omega
    subst hm2
    obtain ⟨tb, htb⟩ : ∃ a, l[1]? = some a := ⟨l[1]'(by omega), List.getElem?_eq_getElem _⟩
    obtain ⟨cb, hrb, hMb⟩ := hR 1 tb htb
    have okb := hkids tb (List.mem_of_getElem? htb)
    rw [htb]
    show Calls _ _ _ _ (VlP ((evX W V d ta).bind fun x => (evX W V d tb).bind fun y => rk o x y) w) ∧ ∀ z, ((evX W V d ta).bind fun x => (evX W V d tb).bind fun y => rk o x y) = some z → U64 z
    cases hx : evX W V d ta with
    | none =>
      rw [hx] at hca
      refine ⟨?_, fun z hz => by cases hz⟩
      show Calls _ _ _ _ (VlP none w)
      clear hE hS hI hV hkids hmy hko hR hra hra2 hMa oka hUa hta hrb hMb okb htb hl
      unfold exC at *
      go_enter Try.func59, Try.ntmps59
      go_wp2_with (go_at_call 59; go_must (refine hca.mono ?_; rintro e w1 ⟨-, hn, hb1⟩; have hn' := hn rfl; subst hn'))
      exact ⟨rfl, VlP.no rfl (b0.trans (hb1.mono b0.size))⟩
    | some x =>
      rw [hx] at hca
      have hxU := hUa x hx
      obtain ⟨bk, bn, bv, bo, bsl, bm, bc, rfl⟩ := hMb.cells
      have hcb := fun (u : World) (hu : Below (w.alloc (.cells (exC 3 nn v o (.slice (some ⟨g, off, none⟩) 2 cap)).toArray 76)).heap.size (w.alloc (.cells (exC 3 nn v o (.slice (some ⟨g, off, none⟩) 2 cap)).toArray 76)) u) => hE u _ tb (by have := hu.size; omega) ((hI.bl b0).bl hu) ((hV.bl b0).bl hu) (ExM.below ((b0.trans (hu.mono b0.size)).mono hN) d _ tb hMb) okb
      have hcell := fun (u : World) (hu : Below (w.alloc (.cells (exC 3 nn v o (.slice (some ⟨g, off, none⟩) 2 cap)).toArray 76)).heap.size (w.alloc (.cells (exC 3 nn v o (.slice (some ⟨g, off, none⟩) 2 cap)).toArray 76)) u) => rb hrb ((b0.trans (hu.mono b0.size)).mono hN) hg
      show Calls _ _ _ _ (VlP ((evX W V d tb).bind fun y => rk o x y) w) ∧ ∀ z, ((evX W V d tb).bind fun y => rk o x y) = some z → U64 z
      clear hE hS hI hV hkids hmy hko hR hra hra2 hMa oka hUa hta hrb hMb okb htb hl
      cases hy : evX W V d tb with
      | none =>
        rw [hy] at hcb
        refine ⟨?_, fun z hz => by cases hz⟩
        show Calls _ _ _ _ (VlP none w)
        unfold exC at *
        go_enter Try.func59, Try.ntmps59
        go_upto_region 9 with (go_at_call 59; go_must (refine hca.mono ?_; rintro e w1 ⟨hs, -, hb1⟩; have hs' := hs _ rfl; subst hs'; have A1 := A.bl hb1; have e4 := A1.cell 4; have hr1 := hcell w1 hb1; have q0 := hr1 0 _ rfl; have q1 := hr1 1 _ rfl; have q2 := hr1 2 _ rfl; have q3 := hr1 3 _ rfl; have q4 := hr1 4 _ rfl; have hc2 := (hcb w1 hb1).1; clear hca))
        simp only [Nat.one_mul, Nat.add_zero] at q0 q1 q2 q3 q4
        go_wp2_with (go_at_call 59; go_must (refine hc2.mono ?_; rintro e w2 ⟨-, hn, hb2⟩; have hn' := hn rfl; subst hn'))
        have hB := b0.trans (hb1.mono b0.size)
        exact ⟨rfl, VlP.no rfl (hB.trans (hb2.mono hB.size))⟩
      | some y =>
        rw [hy] at hcb
        have hyU := (hcb _ (Below.refl _ _)).2 y rfl
        show Calls _ _ _ _ (VlP (rk o x y) w) ∧ ∀ z, rk o x y = some z → U64 z
        refine ⟨?_, fun z hz => rkU ho hxU hyU hz⟩
        have hev := fun (u : World) => eval_any (op := o) u hxU hyU
        unfold EvP at hev
        obtain ⟨e1, e2⟩ := ev_in (x := x) (y := y) ho
        rw [e1, e2] at hev
        clear e1 e2
        cases hz : rk o x y with
        | none =>
          rw [hz] at hev
          clear hz hxU hyU
          unfold exC at *
          go_enter Try.func59, Try.ntmps59
          go_upto_region 9 with (go_at_call 59; go_must (refine hca.mono ?_; rintro e w1 ⟨hs, -, hb1⟩; have hs' := hs _ rfl; subst hs'; have A1 := A.bl hb1; have e4 := A1.cell 4; have hr1 := hcell w1 hb1; have q0 := hr1 0 _ rfl; have q1 := hr1 1 _ rfl; have q2 := hr1 2 _ rfl; have q3 := hr1 3 _ rfl; have q4 := hr1 4 _ rfl; have hc2 := (hcb w1 hb1).1; clear hca))
          simp only [Nat.one_mul, Nat.add_zero] at q0 q1 q2 q3 q4
          go_upto_region 10 with (go_at_call 59; go_must (refine hc2.mono ?_; rintro e w2 ⟨hs, -, hb2⟩; have hs' := hs _ rfl; subst hs'; have e3 := (A1.bl hb2).cell 3))
          go_wp2_with (go_at_call 11; go_must (refine (hev w2).mono ?_; rintro e w3 ⟨rfl, h⟩; replace h := h.symm; subst h))
          have hB := b0.trans (hb1.mono b0.size)
          exact ⟨rfl, VlP.no rfl (hB.trans (hb2.mono hB.size))⟩
        | some z =>
          rw [hz] at hev
          clear hz hxU hyU
          unfold exC at *
          go_enter Try.func59, Try.ntmps59
          go_upto_region 9 with (go_at_call 59; go_must (refine hca.mono ?_; rintro e w1 ⟨hs, -, hb1⟩; have hs' := hs _ rfl; subst hs'; have A1 := A.bl hb1; have e4 := A1.cell 4; have hr1 := hcell w1 hb1; have q0 := hr1 0 _ rfl; have q1 := hr1 1 _ rfl; have q2 := hr1 2 _ rfl; have q3 := hr1 3 _ rfl; have q4 := hr1 4 _ rfl; have hc2 := (hcb w1 hb1).1; clear hca))
          simp only [Nat.one_mul, Nat.add_zero] at q0 q1 q2 q3 q4
          go_upto_region 10 with (go_at_call 59; go_must (refine hc2.mono ?_; rintro e w2 ⟨hs, -, hb2⟩; have hs' := hs _ rfl; subst hs'; have e3 := (A1.bl hb2).cell 3))
          go_wp2_with (go_at_call 11; go_must (refine (hev w2).mono ?_; rintro e w3 ⟨rfl, h⟩; replace h := h.symm; subst h))
          go_ret
          have hB := b0.trans (hb1.mono b0.size)
          exact VlP.ok rfl (hB.trans (hb2.mono hB.size))
theorem value_any : ∀ d : Nat, VlAt N gr gw n p0 p1 kv mv W lf gv nv V d
  | 0 => fun w cs t hN hI hV hM hok => by obtain ⟨a, b, h⟩ := hok; cases h
  | d + 1 => value_s (value_any d)
end Go.Proofs.Ytmljihggooaboaa
/- Layer interp: what expressions come to. -/
namespace Go.Proofs.Ytmljihggooaboaa
open Go.RowKit
set_option maxRecDepth 100000
set_option linter.unusedVariables false
set_option linter.unusedSimpArgs false

theorem info30 : (Try.prog.info? 30).map (fun i => (i.zero, i.size, i.bytes)) = some (some (.int .u64 0), 1, 8) := by kernel_rfl
theorem mk25 (l n : Nat) (u : World) (hl : l ≤ n) (hn : n ≤ 4096) : (Instr.makeSlice 25 (.int .i64 (l : Int)) (.int .i64 (n : Int))).run Try.prog u = .ok (.slice (some ⟨u.heap.size, 0, none⟩) l n) (u.alloc (.cells (madeCells #[.int .u64 0] n) 30)) := by
  obtain ⟨i0, hi, hz0, hz1, hz2⟩ := info_parts info30
  have h := run_make (P := Try.prog) (w := u) 25 30 i0 (.int .u64 0) Try.underlying25 hi hz0 .i64 .i64 (l : Int) (n : Int) (by omega) (by omega) (by rw [hz2]; omega) (by omega)
  simpa [hz1, Value.cells] using h
def uL (L : List Int) : List Value := L.map fun x => Value.int .u64 x
theorem uL_one (L : List Int) : ∀ u ∈ uL L, u.oneCell' = true := fun u hu => by
  obtain ⟨x, -, rfl⟩ := List.mem_map.1 hu
  rfl
theorem ownGe {w : World} {base e s n : Nat} {v : Value} {xs : List Value} (h : w.ownsRow base e s v n xs) : ∀ k, v.ownBlock = some k → base ≤ k := by
  intro k hk
  obtain ⟨-, h | ⟨g, cap, cur, rfl, hg, -⟩⟩ := h
  · obtain ⟨rfl, -⟩ := h; simp [Value.ownBlock] at hk
  · simp [Value.ownBlock] at hk; omega
theorem ownBl {w w' : World} {b e s n : Nat} {v : Value} {xs : List Value} (h : w.ownsRow b e s v n xs) (hb : Below w.heap.size w w') : w'.ownsRow b e s v n xs := by
  obtain ⟨hl, h' | ⟨g, cap, cur, e1, hg, hh, r⟩⟩ := h
  · exact ⟨hl, .inl h'⟩
  · exact ⟨hl, .inr ⟨g, cap, cur, e1, hg, (hb.block g (Array.getElem?_eq_some_iff.1 hh).1).trans hh, r⟩⟩
theorem ap64 {ops : Array Oper} {rest : List Oper} {o : Oper} {a : Act} {w : World} {Q : Exit → Act → World → Prop} (hgd : Region.wanted o (yielded ops a.tmps) = true) (s x : Operand)
    (ho : o.op = .call { callee := .builtin .append, args := #[s, x], argTypes := #[25, 25] })
    (base : Nat) (v : Value) (n : Nat) (L : List Int) (hs : a.eval s = v) (hown : w.ownsRow base 30 1 v n (uL L))
    (b : Nat) (y : Int) (hx : a.eval x = .slice (some ⟨b, 0, none⟩) 1 1) (hc : w.cell? ⟨b, 0, none⟩ = some (.int .u64 y)) (hn : n ≤ 4096) (hbase : base ≤ w.heap.size)
    (h : ∀ v' w', w'.ownsRow base 30 1 v' (n + 1) (uL (L ++ [y])) → w.grownBy w' v.ownBlock → wpList Try.prog ops Q rest (a.put o.dst v') w') : wpList Try.prog ops Q (o :: rest) a w := by
  obtain ⟨i0, hi, hz0, hz1, hz2⟩ := info_parts info30
  refine wW hgd fun K hK => ?_
  refine wp_append_own w s x 25 ho base 30 i0 (.int .u64 0) 1 8 Try.underlying25 hi hz0 hz1 hz2 rfl (by omega) v n _ hs hown ⟨b, 0, none⟩ 1 1 (uL [y]) hx (by simp [uL]) ?_ (uL_one [y]) (by unfold maxLen; omega) (by omega) hbase ?_
  · intro j u hj
    obtain rfl : j = 0 := by have := (List.getElem?_eq_some_iff.1 hj).1; simp [uL] at this; exact this
    rw [Addr.add_mid]
    exact hc.trans hj
  · intro v' w' h1 h2 _
    exact hK _ _ (h v' w' (by unfold uL at h1 ⊢; rw [List.map_append]; exact h1) h2)
def evs (W V : List Int) (d : Nat) : List (ExT d) → Option (List Int)
  | [] => some []
  | a :: r => (evX W V d a).bind fun x => (evs W V d r).map (x :: ·)
theorem evs_drop {W V : List Int} {d : Nat} {l : List (ExT d)} {j : Nat} {a : ExT d} (h : l[j]? = some a) : evs W V d (l.drop j) = (evX W V d a).bind fun x => (evs W V d (l.drop (j + 1))).map (x :: ·) := by
  obtain ⟨hj, rfl⟩ := List.getElem?_eq_some_iff.1 h
  rw [List.drop_eq_getElem_cons hj]
  rfl
theorem evs_len {W V : List Int} {d : Nat} : ∀ (l : List (ExT d)) (L : List Int), evs W V d l = some L → L.length = l.length
  | [], L, h => by cases h; rfl
  | a :: r, L, h => by
    unfold evs at h
    cases h1 : evX W V d a with
    | none => rw [h1] at h; cases h
    | some x =>
      rw [h1] at h
      cases h2 : evs W V d r with
      | none => rw [h2] at h; cases h
      | some R =>
        rw [h2] at h
        cases h
        simp [evs_len r R h2]
def VsP (r : Option (List Int)) (w : World) (e : Ending) (w' : World) : Prop :=
  (∀ L, r = some L → ∃ g c, e = .returned (.slice (some ⟨g, 0, none⟩) L.length c) ∧ w.heap.size ≤ g ∧ (∀ (i : Nat) (x : Int), L[i]? = some x → w'.cell? ⟨g, i, none⟩ = some (.int .u64 x)) ∧ L.length ≤ c ∧ g < w'.heap.size) ∧ (r = none → e = .panicked trI) ∧ Below w.heap.size w w'
theorem own_vs {w w' : World} {v : Value} {L : List Int} (ho : w'.ownsRow w.heap.size 30 1 v L.length (uL L)) (hv : v ≠ .slice none 0 0) : ∃ g c, v = .slice (some ⟨g, 0, none⟩) L.length c ∧ w.heap.size ≤ g ∧ (∀ (i : Nat) (x : Int), L[i]? = some x → w'.cell? ⟨g, i, none⟩ = some (.int .u64 x)) ∧ L.length ≤ c ∧ g < w'.heap.size := by
  rcases ho.2 with ⟨e, -⟩ | ⟨g, c, cur, e, hg, hh, hc, -, hs, ht⟩
  · exact absurd e hv
  · refine ⟨g, c, e, hg, fun i x hx => ?_, hc, (Array.getElem?_eq_some_iff.1 hh).1⟩
    rw [Arr.cell hh i]
    have hi : i < L.length := (List.getElem?_eq_some_iff.1 hx).1
    have h1 : (uL L)[i]? = some (.int .u64 x) := by simp [uL, hx]
    rw [← ht, List.getElem?_take_of_lt (by omega)] at h1
    simpa using h1
variable {gr gw n : Nat} {p0 p1 kv mv : Value} {W : List Int} {lf : Int} {gv nv : Nat} {V : List Int} {N : Nat}
set_option maxHeartbeats 2000000 in
theorem values_any {d : Nat} {sp : Option Addr} {m cap : Nat} {l : List (ExT d)} (w : World) (hN : N ≤ w.heap.size) (hI : RunI gr gw n p0 p1 kv mv W lf w) (hV : VarI gv nv V w) (hS : RS N w 5 (ExM N w d) sp m cap l) (hok : ∀ a ∈ l, okX nv d a) (hm : m ≤ 4096) :
    Calls Try.prog 43 #[.pointer (some ⟨gr, 0, none⟩), .slice sp m cap, .slice (some ⟨gv, 0, none⟩) nv nv] w (VsP (evs W V d l) w) := by
  have hlen := hS.len
  have hmk : ∀ u : World, (Instr.makeSlice 25 (.int .i64 0) (.int .i64 (m : Int))).run Try.prog u = .ok (.slice (some ⟨u.heap.size, 0, none⟩) 0 m) (u.alloc (.cells (madeCells #[.int .u64 0] m) 30)) := fun u => mk25 0 m u (by omega) (by omega)
  obtain ⟨r, hr⟩ : ∃ r, r = evs W V d l := ⟨_, rfl⟩
  rw [← hr]
  replace hr := hid hr
  have b0 := ab w (.cells (madeCells #[.int .u64 0] m) 30)
  have o0 : (w.alloc (.cells (madeCells #[.int .u64 0] m) 30)).ownsRow w.heap.size 30 1 (.slice (some ⟨w.heap.size, 0, none⟩) 0 m) 0 (uL []) := World.ownsRow_made w _ m (Nat.le_refl _) (by unfold maxLen; omega) (by rw [size_madeCells]; omega)
  go_enter Try.func43, Try.ntmps43
  go_upto_region 3 with fail
  go_loopw [7, 15] (fun v i wr => ∃ (j : Nat) (L : List Int), i = .int .i64 (j : Int) ∧ j ≤ m ∧ L.length = j ∧ v ≠ .slice none 0 0 ∧ Hid (r = (evs W V d (l.drop j)).map (L ++ ·)) ∧ wr.ownsRow w.heap.size 30 1 v j (uL L) ∧ Below w.heap.size w wr)
    (fun _ i _ => m - (intOf i).toNat)
  case atStart => exact ⟨0, [], rfl, by omega, rfl, (by intro h; cases h), hid (by rw [List.drop_zero, hr.out]; cases evs W V d l <;> rfl), o0, b0⟩
  case round =>
    obtain ⟨j, L, rfl, hj, hL, hv, hf, ho, hb⟩ := hrel
    by_cases hlt : j < m
    · obtain ⟨t, ht⟩ : ∃ t, l[j]? = some t := ⟨l[j]'(by rw [← hlen.out]; exact hlt), List.getElem?_eq_getElem _⟩
      have hokt := hok t (List.mem_of_getElem? ht)
      have hfd := evs_drop (W := W) (V := V) ht
      obtain ⟨g, off, rfl, hg, hR⟩ := hS.at0 (by omega)
      obtain ⟨cs, hrg, hM⟩ := hR j t ht
      have hrg2 := rb hrg hb (by omega)
      have hM2 := ExM.below (hb.mono hN) d cs t hM
      obtain ⟨ek, en, ev, eo, es, em, ec, rfl⟩ := hM.cells
      have c0 := hrg2 0 _ rfl
      have c1 := hrg2 1 _ rfl
      have c2 := hrg2 2 _ rfl
      have c3 := hrg2 3 _ rfl
      have c4 := hrg2 4 _ rfl
      simp only [Nat.add_zero] at c0
      have hlt' : (j : Int) < m := by omega
      have h0 : (0 : Int) ≤ j := by omega
      have hs := hb.size
      have hB1 := hb.alloc hs (.cells (exC ek en ev eo (.slice es em ec)).toArray 76)
      have hcc := (value_any d (wr.alloc (.cells (exC ek en ev eo (.slice es em ec)).toArray 76)) _ t (by simp; omega) (hI.bl hB1) (hV.bl hB1) (ExM.below ((ab wr _).mono (by omega)) d _ t hM2) hokt).1
      have ho1 := ownBl ho (ab wr (.cells (exC ek en ev eo (.slice es em ec)).toArray 76))
      clear hS hR hrg hrg2 hM hM2 hlen ht hI hV hok hokt hmk o0 b0 ho
      cases hx : evX W V d t with
      | none =>
        rw [hx] at hcc hfd
        have hrn : Hid (r = none) := hid (by rw [hf.out, hfd]; rfl)
        clear hx hfd hf
        unfold exC at *
        go_wp2_with (go_at_call 59; go_must (refine hcc.mono ?_; rintro e w1 ⟨-, hn, hb1⟩; have hn' := hn rfl; subst hn'))
        rw [hrn.out]
        exact ⟨rfl, fun L h => (by cases h), fun _ => rfl, hB1.trans (hb1.mono hB1.size)⟩
      | some x =>
        rw [hx] at hcc hfd
        have hrn : Hid (r = (evs W V d (l.drop (j + 1))).map ((L ++ [x]) ++ ·)) := hid (by rw [hf.out, hfd]; show Option.map _ (Option.map _ _) = _; cases evs W V d (l.drop (j + 1)) <;> simp)
        clear hx hfd hf
        unfold exC at *
        go_wp2_with (first
          | (go_at_call 59; go_must (refine hcc.mono ?_; rintro e w1 ⟨hsm, -, hb1⟩; have hs' := hsm _ rfl; subst hs'; have ho2 := ownBl ho1 hb1; have hsz1 := hb1.size; have cx := (Arr.new w1 30 #[.int .u64 x]).cell 0; have ho3 := ownBl ho2 (ab w1 (.cells #[.int .u64 x] 30))))
          | (at_builtin; go_must (refine ap64 (by rfl) (.tmp 19) (.tmp 24) (by rfl) w.heap.size _ j L (by rfl) ho3 w1.heap.size x (by rfl) cx (by omega) (by simp at hsz1 ⊢; omega) ?_; intro v1 w2 ho4 hg4)))
        go_roundw
        case rel =>
          have hv1 : v1 ≠ .slice none 0 0 := by
            rcases ho4.2 with ⟨-, e⟩ | ⟨g, c, cur, e, -⟩
            · omega
            · rw [e]; intro h; cases h
          have hB2 := (hB1.trans (hb1.mono hB1.size)).alloc (by simp at hsz1; omega) (.cells #[.int .u64 x] 30)
          exact ⟨j + 1, L ++ [x], by go_num, by omega, by simp [hL], hv1, hrn, ho4, hB2.grown hg4 (by simp at hsz1 ⊢; omega) (fun k e => ownGe ho1 k e)⟩
        case measure => simp [intOf]; omega
    · obtain rfl : j = m := by omega
      have hrn : Hid (r = some L) := hid (by rw [hf.out, hlen.out, List.drop_length]; show Option.map _ (some []) = _; simp)
      subst hL
      obtain ⟨g, c, rfl, h1, h2, h3, h4⟩ := own_vs ho hv
      clear hS hf hlen hmk hI hV hok o0 b0 hr
      go_wp2_with fail
      go_ret
      rw [hrn.out]
      exact ⟨fun L' h => (by cases h; exact ⟨g, c, rfl, h1, h2, h3, h4⟩), fun h => (by cases h), hb⟩
end Go.Proofs.Ytmljihggooaboaa
/- Layer interp: a function as it runs. -/
namespace Go.Proofs.Ytmljihggooaboaa
open Go.RowKit
set_option maxRecDepth 100000
set_option linter.unusedVariables false
set_option linter.unusedSimpArgs false

/-- A function as it runs. -/
structure StI (N gr gw n : Nat) (p0 p1 kv mv : Value) (gv nv : Nat) (W V : List Int) (lf : Int) (w : World) : Prop where
  run : RunI gr gw n p0 p1 kv mv W lf w
  var : VarI gv nv V w
  n1 : gr ≠ gv
  n2 : gw ≠ gv
  l1 : N ≤ gr
  l2 : N ≤ gw
  l3 : N ≤ gv
/-- Data, variables, and what is left. -/
structure SS where
  W : List Int
  V : List Int
  lf : Nat
/-- How it went: 0 on, 1 a value is returned, 2 a trap, 3 no fuel. -/
structure RR where
  k : Nat
  x : Int
  s : SS
def RR.end (r : RR) : Ending := if r.k = 0 then .returned (.tuple #[]) else if r.k = 1 then .panicked (reI r.x) else if r.k = 2 then .panicked trI else .panicked spI
def StP (N gr gw n : Nat) (p0 p1 kv mv : Value) (gv nv : Nat) (r : RR) (w : World) (e : Ending) (w' : World) : Prop :=
  e = r.end ∧ StI N gr gw n p0 p1 kv mv gv nv r.s.W r.s.V r.s.lf w' ∧ Ch (fun k => k = gr ∨ k = gw ∨ k = gv) w w'
variable {N gr gw n : Nat} {p0 p1 kv mv : Value} {gv nv : Nat} {W V : List Int} {lf : Int}
theorem StI.bl {w w' : World} (h : StI N gr gw n p0 p1 kv mv gv nv W V lf w) (hb : Below w.heap.size w w') : StI N gr gw n p0 p1 kv mv gv nv W V lf w' := ⟨h.run.bl hb, h.var.bl hb, h.n1, h.n2, h.l1, h.l2, h.l3⟩
theorem StI.dw {w : World} (h : StI N gr gw n p0 p1 kv mv gv nv W V lf w) : StI N gr gw n p0 p1 kv mv gv nv W V lf w.drew := ⟨⟨h.run.ar.drew, h.run.aw.drew, h.run.ne, h.run.len, h.run.n10, h.run.wU⟩, ⟨h.var.av.drew, h.var.len, h.var.n64, h.var.vU⟩, h.n1, h.n2, h.l1, h.l2, h.l3⟩
theorem StI.low {w w' : World} (h : StI N gr gw n p0 p1 kv mv gv nv W V lf w) (hN : N ≤ w.heap.size) (hc : Ch (fun k => k = gr ∨ k = gw ∨ k = gv) w w') : Below N w w' :=
  hc.bl fun i hi => ⟨by omega, by have := h.l1; have := h.l2; have := h.l3; rintro (e | e | e) <;> omega⟩
/-- May it be, but for what is left? -/
def okS (ps : List Int) (vs : Int) (d : Nat) (t : StT d) : Prop := ∃ n m, stN ps vs d t n = some m
theorem okS_s {ps : List Int} {vs : Int} {d : Nat} {t : StT (d + 1)} (h : okS ps vs (d + 1) t) : mayS ps vs t.nd = true ∧ (∀ a ∈ t.nd.a, okX vs 8 a) ∧ (∀ a ∈ t.nd.th, okS ps vs d a) ∧ (∀ a ∈ t.nd.el, okS ps vs d a) := by
  obtain ⟨n, m, h⟩ := h
  unfold stN at h
  split at h
  · cases h
  · next hh =>
    cases h1 : fld (exN vs 8) (StN.a (α := StT d) t) (n - 1) with
    | none => rw [h1] at h; cases h
    | some k1 =>
      rw [h1] at h
      replace h : (fld (stN ps vs d) (StN.th (α := StT d) t) k1).bind (fld (stN ps vs d) (StN.el (α := StT d) t)) = some m := h
      cases h2 : fld (stN ps vs d) (StN.th (α := StT d) t) k1 with
      | none => rw [h2] at h; cases h
      | some k2 =>
        rw [h2] at h
        refine ⟨?_, fun a ha => fld_all _ _ _ h1 a ha, fun a ha => fld_all _ _ _ h2 a ha, fun a ha => fld_all _ _ _ h a ha⟩
        cases h3 : mayS ps vs t.nd with
        | true => rfl
        | false => exact absurd (Or.inr h3) hh
theorem fewS {α : Type} {ps : List Int} {vs : Int} {s : StN α} (hp : ∀ p ∈ ps, p ≤ 64) (h : mayS ps vs s = true) : s.a.length ≤ 64 := by
  unfold mayS at h
  by_cases h6 : s.k = 6
  · rw [if_neg (by omega), if_neg (by omega), if_neg (by omega), if_neg (by omega), if_neg (by omega), if_pos h6] at h
    have h1 := (of_decide_eq_true h).2.1
    unfold tkB at h1
    have h2 := (of_decide_eq_true h1)
    have h3 : ps.getD s.f.toNat 0 ≤ 64 := by
      rw [List.getD_eq_getElem?_getD, List.getElem?_eq_getElem (by omega)]
      exact hp _ (List.getElem_mem _)
    omega
  · repeat (split at h; (have := of_decide_eq_true h; omega))
    first | cases h | (split at h; (have := of_decide_eq_true h; omega); cases h)
end Go.Proofs.Ytmljihggooaboaa
