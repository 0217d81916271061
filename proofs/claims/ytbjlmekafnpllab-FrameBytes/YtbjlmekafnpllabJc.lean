/- Layer frame: frameOf. -/
import Derived.Test.YtbjlmekafnpllabJb
namespace Go.Proofs.Ytbjlmekafnpllab
open Go.RowKit
set_option linter.unusedVariables false
set_option linter.unusedSimpArgs false

/-- An item's parts. -/
structure It where
  l : Bool
  sp : Option Addr
  n : Nat
  cap : Nat
  sq : Option Addr
  k : Nat
  cq : Nat
  bs : List Int
def It.val (x : It) : Value := .agg #[.bool x.l, .slice x.sp x.n x.cap, .slice x.sq x.k x.cq]
def It.r (x : It) : Int × Int := rnum x.l x.k x.bs

/-- Whether four items are a frame's, as far as frameOf looks. -/
def Good4 (its : List It) : Prop := ∃ x0 x1 x2 x3 m0 m1 m2, its = [x0, x1, x2, x3] ∧ x0.r = (m0, 0) ∧ x1.r = (m1, 0) ∧ x2.r = (m2, 0) ∧ m1 < 1024 ∧ m2 ≤ 1
/-- What frameOf answers. -/
def FoPost (its : List It) (w : World) (e : Ending) (w' : World) : Prop :=
  Below w.heap.size w w' ∧ ((¬ Good4 its ∧ e = .returned (.tuple #[.agg #[.int .u64 0, .int .i64 0, .bool false, .slice none 0 0], .bool false])) ∨
    ∃ x0 x1 x2 x3 m0 m1 m2, its = [x0, x1, x2, x3] ∧ x0.r = (m0, 0) ∧ x1.r = (m1, 0) ∧ x2.r = (m2, 0) ∧ m1 < 1024 ∧ m2 ≤ 1 ∧ e = .returned (.tuple #[.agg #[.int .u64 m0, .int .i64 m1, .bool (m2 == 1), .slice x3.sp x3.n x3.cap], .bool true]))
theorem resF {w : World} {tmps : Array Value} {g : Nat} {a b c d v : Value} (hp : tmps.getD 2 undef = .pointer (some ⟨g, 0, none⟩)) (he : tmps.getD 3 undef = v) (hA : Arr w g 25 #[a, b, c, d]) :
    (results Try.f29 tmps).run Try.prog w = .ok (.tuple #[.agg #[a, b, c, d], v]) w := by
  have c0 := hA.cell 0
  have c1 := hA.cell 1
  have c2 := hA.cell 2
  have c3 := hA.cell 3
  simp at c0 c1 c2 c3
  have hp' : tmps[2]?.getD undef = .pointer (some ⟨g, 0, none⟩) := by simpa using hp
  have he' : tmps[3]?.getD undef = v := by simpa using he
  simp [results, Try.results29, go_sem, hp', he', c0, c1, c2, c3]
theorem Arr.drop1 {w : World} {g ty : Nat} {C : Array Value} (h : Arr w g ty C) (o : Obj) : Arr (w.alloc o) g ty C := h.alloc o

set_option maxRecDepth 100000 in
set_option maxHeartbeats 1000000 in
theorem frameOf_four (N : Nat) (sp : Option Addr) (n cap : Nat) (g off cq : Nat) (x0 x1 x2 x3 : It) (w : World) (hI : IS N w (some ⟨g, off, none⟩) 4 cq ([x0, x1, x2, x3].map It.val)) (hN : N ≤ w.heap.size) (hB : ∀ x ∈ [x0, x1, x2, x3], BS N w x.sp x.n x.cap x.bs) (hl3 : x3.l = false) :
    Calls Try.prog 29 #[.agg #[.bool true, .slice sp n cap, .slice (some ⟨g, off, none⟩) 4 cq]] w (FoPost [x0, x1, x2, x3] w) := by
  obtain ⟨g', off', e0, hgN, hc⟩ := hI.at0 (by omega)
  cases e0
  have hcl : ∀ (j : Nat) (x : It) (u : World), [x0, x1, x2, x3][j]? = some x → Below w.heap.size w u → u.cell? ⟨g, off + j * 3, none⟩ = some (.bool x.l) ∧ u.cell? ⟨g, off + j * 3 + 1, none⟩ = some (.slice x.sp x.n x.cap) ∧ u.cell? ⟨g, off + j * 3 + 2, none⟩ = some (.slice x.sq x.k x.cq) := fun j x u hx hu => by
    obtain ⟨a, b, c, e3, q0, q1, q2⟩ := hc j x.val (by rw [List.getElem?_map, hx]; rfl)
    unfold It.val at e3
    cases e3
    rw [Nat.mul_comm] at q0 q1 q2
    refine ⟨?_, ?_, ?_⟩ <;> (rw [World.cell?_of_block (w := w) (hu.block g (by omega))]; assumption)
  have hbW : Below w.heap.size w ((w.alloc (.cells #[.bool true, .slice sp n cap, .slice (some ⟨g, off, none⟩) 4 cq] 59)).alloc (.cells #[.int .u64 0, .int .i64 0, .bool false, .slice none 0 0] 25)) := (alloc_bel' w _).alloc (by simp) _
  have hbW3 := hbW.alloc (by simp; omega) (.cells #[.int .u64 0, .int .u64 0, .int .u64 0] 69)
  obtain ⟨d0, d1, d2⟩ := hcl 3 x3 _ rfl hbW
  rw [hl3] at d0
  simp only [Nat.reduceMul] at d0 d1 d2
  replace hcl := Hid.mk' hcl
  replace hB := Hid.mk' hB
  clear hc hI
  have A0 := ((Arr.new w 59 #[.bool true, .slice sp n cap, .slice (some ⟨g, off, none⟩) 4 cq]).alloc (.cells #[.int .u64 0, .int .i64 0, .bool false, .slice none 0 0] 25)).alloc (.cells #[.int .u64 0, .int .u64 0, .int .u64 0] 69)
  have A1 := (Arr.new (w.alloc (.cells #[.bool true, .slice sp n cap, .slice (some ⟨g, off, none⟩) 4 cq] 59)) 25 #[.int .u64 0, .int .i64 0, .bool false, .slice none 0 0]).alloc (.cells #[.int .u64 0, .int .u64 0, .int .u64 0] 69)
  have A2 := Arr.new ((w.alloc (.cells #[.bool true, .slice sp n cap, .slice (some ⟨g, off, none⟩) 4 cq] 59)).alloc (.cells #[.int .u64 0, .int .i64 0, .bool false, .slice none 0 0] 25)) 69 #[.int .u64 0, .int .u64 0, .int .u64 0]
  have hz1 : (w.alloc (.cells #[.bool true, .slice sp n cap, .slice (some ⟨g, off, none⟩) 4 cq] 59)).heap.size = w.heap.size + 1 := by simp
  have hz2 : ((w.alloc (.cells #[.bool true, .slice sp n cap, .slice (some ⟨g, off, none⟩) 4 cq] 59)).alloc (.cells #[.int .u64 0, .int .i64 0, .bool false, .slice none 0 0] 25)).heap.size = w.heap.size + 1 + 1 := by simp
  rw [hz1] at A1
  rw [hz2] at A2
  clear hz1 hz2
  go_enter Try.func29, Try.ntmps29
  go_wp2
  go_loopw [28] (fun d wr => ∃ (i : Nat) (C : Array Value), d = .int .i64 (i : Int) ∧ i ≤ 3 ∧ Below w.heap.size w wr ∧ w.heap.size + 3 ≤ wr.heap.size ∧ Arr wr w.heap.size 59 #[.bool true, .slice sp n cap, .slice (some ⟨g, off, none⟩) 4 cq] ∧ Arr wr (w.heap.size + 1) 25 #[.int .u64 0, .int .i64 0, .bool false, .slice none 0 0] ∧ Arr wr (w.heap.size + 1 + 1) 69 C ∧ Hid (C.size = 3) ∧ Hid (∀ j x, j < i → [x0, x1, x2, x3][j]? = some x → ∃ m, x.r = (m, 0) ∧ C[j]? = some (.int .u64 m)))
    (fun d _ => 3 - (intOf d).toNat)
  case atStart => exact ⟨0, _, rfl, by omega, hbW3, by simp, A0, A1, A2, Hid.mk' rfl, Hid.mk' (fun j x hj => by omega)⟩
  case round =>
    obtain ⟨i, C, rfl, hi, hbl, hsz, R0, R1, R2, hC, hnum⟩ := hrel
    have z2 := R0.cell 2
    simp at z2
    by_cases hlt : i < 3
    · have hI : (i : Int) < 3 := by omega
      have hI4 : (i : Int) < 4 := by omega
      obtain ⟨x, hx⟩ : ∃ x, [x0, x1, x2, x3][i]? = some x := ⟨[x0, x1, x2, x3][i]'(by simp; omega), List.getElem?_eq_getElem _⟩
      obtain ⟨q0, q1, q2⟩ := hcl.out i x _ hx hbl
      have hBx := ((hB.out x (List.mem_of_getElem? hx)).mono hN).below hbl
      have hrd := readNum_any x.l x.sp x.n x.cap x.sq x.k x.cq x.bs _ wr hBx
      by_cases hr : x.r.2 = 0
      · obtain ⟨m, hm⟩ : ∃ m, x.r = (m, 0) := ⟨x.r.1, by rw [← hr]⟩
        have hrd : Calls Try.prog 50 #[.agg #[.bool x.l, .slice x.sp x.n x.cap, .slice x.sq x.k x.cq]] wr fun e w' => e = .returned (.tuple #[.int .u64 m, .int .i64 0]) ∧ Below wr.heap.size wr w' := by
          have h := hrd
          rw [show rnum x.l x.k x.bs = (m, 0) from hm] at h
          exact h
        clear hr
        replace hm := Hid.mk' hm
        obtain ⟨old, hold⟩ : ∃ u, wr.cell? ⟨w.heap.size + 1 + 1, i, none⟩ = some u := ⟨C[i]'(by rw [hC.out]; exact hlt), by rw [R2.cell, Array.getElem?_eq_getElem]⟩
        go_wp2_with (go_at_call 50; go_must (refine hrd.mono ?_; rintro e w2 ⟨rfl, hb2⟩; have hs2 := hb2.size; have S0 := R0.below hb2 (by omega); have S1 := R1.below hb2 (by omega); have S2 := R2.below hb2 (by omega); have hfz := S2.frozen i; have hcc : w2.cell? ⟨w.heap.size + 1 + 1, i, none⟩ = some old := (by rw [World.cell?_of_block (w := wr) (hb2.block (w.heap.size + 1 + 1) (by omega))]; exact hold)))
        go_roundw
        case rel =>
          refine ⟨i + 1, _, by go_num, by omega, (hbl.trans (hb2.mono (by omega))).setCell (p := ⟨w.heap.size + 1 + 1, i, none⟩) (by show w.heap.size ≤ w.heap.size + 1 + 1; omega) _, by simp [World.setCell]; omega, S0.setOther (a := ⟨w.heap.size + 1 + 1, i, none⟩) _ (by show w.heap.size ≠ w.heap.size + 1 + 1; omega), S1.setOther (a := ⟨w.heap.size + 1 + 1, i, none⟩) _ (by show w.heap.size + 1 ≠ w.heap.size + 1 + 1; omega), S2.set i _, Hid.mk' (by simpa using hC.out), Hid.mk' (fun j y hj hy => ?_)⟩
          by_cases hji : j = i
          · subst hji
            rw [hx] at hy; cases hy
            exact ⟨m, hm.out, by simp [hC.out, hlt]⟩
          · obtain ⟨m', h1, h2⟩ := hnum.out j y (by omega) hy
            exact ⟨m', h1, by rw [Array.getElem?_setIfInBounds_ne (by omega)]; exact h2⟩
        case measure => simp [intOf]; omega
      · have hrd : Calls Try.prog 50 #[.agg #[.bool x.l, .slice x.sp x.n x.cap, .slice x.sq x.k x.cq]] wr fun e w' => e = .returned (.tuple #[.int .u64 0, .int .i64 8]) ∧ Below wr.heap.size wr w' := by
          have h := hrd
          rw [rnum_bad (show ¬ (rnum x.l x.k x.bs).2 = 0 from hr)] at h
          exact h
        have hno : Hid (¬ Good4 [x0, x1, x2, x3]) := Hid.mk' (by
          rintro ⟨y0, y1, y2, y3, m0, m1, m2, e, r0, r1, r2, -⟩
          cases e
          apply hr
          match i, hlt, hx with
          | 0, _, hx => cases hx; rw [r0]
          | 1, _, hx => cases hx; rw [r1]
          | 2, _, hx => cases hx; rw [r2])
        clear hr
        go_wp2_with (first
          | (go_at_call 50; go_must (refine hrd.mono ?_; rintro e w2 ⟨rfl, hb2⟩; have hs2 := hb2.size; have S1 := R1.below hb2 (by omega)))
          | (refine wpList_store_arr (by rfl) 25 (.tmp 2) (.tmp 42) (by rfl) (w.heap.size + 1) #[.int .u64 0, .int .i64 0, .bool false, .slice none 0 0] (by rfl) (by rfl) 25 _ S1 size25F rfl (one4 _ _ _ _ _ _) ?_))
        exact bodyPost_ret (v := .tuple #[.agg #[.int .u64 0, .int .i64 0, .bool false, .slice none 0 0], .bool false]) (resF rfl rfl (S1.setRow _)) rfl ⟨below_row (hbl.trans (hb2.mono (by omega))) (by omega) _, .inl ⟨hno.out, rfl⟩⟩
    · obtain rfl : i = 3 := by omega
      obtain ⟨m0, r0, n0⟩ := hnum.out 0 x0 (by omega) rfl
      obtain ⟨m1, r1, n1⟩ := hnum.out 1 x1 (by omega) rfl
      obtain ⟨m2, r2, n2⟩ := hnum.out 2 x2 (by omega) rfl
      obtain ⟨q0, q1, q2⟩ := hcl.out 3 x3 _ rfl hbl
      simp only [Nat.reduceMul] at q0 q1 q2
      have b1 := (rnum_ok (hB.out x1 (by simp)).bts r1).2.2
      have b2 := (rnum_ok (hB.out x2 (by simp)).bts r2).2.2
      obtain ⟨k1, rfl, hk1, -⟩ := b1
      obtain ⟨k2, rfl, hk2, -⟩ := b2
      replace r0 := Hid.mk' r0
      replace r1 := Hid.mk' r1
      replace r2 := Hid.mk' r2
      have v0 := (R2.cell 0).trans n0
      have v1 := (R2.cell 1).trans n1
      have v2 := (R2.cell 2).trans n2
      by_cases g1 : (k1 : Int) < 1024
      · by_cases g2 : (k2 : Int) ≤ 1
        · have hwk : IntKind.i64.wrap (k1 : Int) = k1 := by rw [IntKind.wrap_i64]; omega
          have gn1 : ¬ (1024 : Int) ≤ k1 := by omega
          have gn2 : ¬ (1 : Int) < k2 := by omega
          go_wp2
          go_quiet (fail)
          have T0 : Arr (wr.drewN nq) w.heap.size 59 #[.bool true, .slice sp n cap, .slice (some ⟨g, off, none⟩) 4 cq] := R0
          have T1 : Arr (wr.drewN nq) (w.heap.size + 1) 25 #[.int .u64 0, .int .i64 0, .bool false, .slice none 0 0] := R1
          have p1 : (wr.drewN nq).cell? ⟨g, off + 9 + 1, none⟩ = some (.slice x3.sp x3.n x3.cap) := q1
          have hblq : Below w.heap.size w (wr.drewN nq) := ⟨hbl.os, hbl.tape, hbl.output, hbl.size, hbl.block⟩
          generalize wr.drewN nq = wa at *
          have t2 := T0.cell 2
          simp at t2
          go_wp2_with (refine wpList_store_arr (by rfl) 25 (.tmp 2) (.tmp 70) (by rfl) (w.heap.size + 1) #[.int .u64 m0, .int .i64 (k1 : Int), .bool ((k2 : Int) == 1), .slice x3.sp x3.n x3.cap] (by rfl) (by rfl) 25 _ T1 size25F rfl (one4 _ _ _ _ _ _) ?_)
          exact bodyPost_ret (v := .tuple #[.agg #[.int .u64 m0, .int .i64 (k1 : Int), .bool ((k2 : Int) == 1), .slice x3.sp x3.n x3.cap], .bool true]) (resF rfl rfl (T1.setRow _)) rfl ⟨below_row hblq (by omega) _, .inr ⟨x0, x1, x2, x3, m0, k1, k2, rfl, r0.out, r1.out, r2.out, g1, g2, rfl⟩⟩
        · have gn1 : ¬ (1024 : Int) ≤ k1 := by omega
          have gn2 : (1 : Int) < k2 := by omega
          go_wp2
          go_quiet (fail)
          have T1 : Arr (wr.drewN nq) (w.heap.size + 1) 25 #[.int .u64 0, .int .i64 0, .bool false, .slice none 0 0] := R1
          have hblq : Below w.heap.size w (wr.drewN nq) := ⟨hbl.os, hbl.tape, hbl.output, hbl.size, hbl.block⟩
          generalize wr.drewN nq = wa at *
          go_wp2_with (refine wpList_store_arr (by rfl) 25 (.tmp 2) (.tmp 59) (by rfl) (w.heap.size + 1) #[.int .u64 0, .int .i64 0, .bool false, .slice none 0 0] (by rfl) (by rfl) 25 _ T1 size25F rfl (one4 _ _ _ _ _ _) ?_)
          refine bodyPost_ret (v := .tuple #[.agg #[.int .u64 0, .int .i64 0, .bool false, .slice none 0 0], .bool false]) (resF rfl rfl (T1.setRow _)) rfl ⟨below_row hblq (by omega) _, .inl ⟨?_, rfl⟩⟩
          rintro ⟨y0, y1, y2, y3, n0, n1, n2, e, s0, s1, s2, t1, t2⟩
          cases e
          rw [r2.out] at s2
          cases s2
          omega
      · have gn1 : (1024 : Int) ≤ k1 := by omega
        go_wp2
        go_quiet (fail)
        have T1 : Arr (wr.drewN nq) (w.heap.size + 1) 25 #[.int .u64 0, .int .i64 0, .bool false, .slice none 0 0] := R1
        have hblq : Below w.heap.size w (wr.drewN nq) := ⟨hbl.os, hbl.tape, hbl.output, hbl.size, hbl.block⟩
        generalize wr.drewN nq = wa at *
        go_wp2_with (refine wpList_store_arr (by rfl) 25 (.tmp 2) (.tmp 59) (by rfl) (w.heap.size + 1) #[.int .u64 0, .int .i64 0, .bool false, .slice none 0 0] (by rfl) (by rfl) 25 _ T1 size25F rfl (one4 _ _ _ _ _ _) ?_)
        refine bodyPost_ret (v := .tuple #[.agg #[.int .u64 0, .int .i64 0, .bool false, .slice none 0 0], .bool false]) (resF rfl rfl (T1.setRow _)) rfl ⟨below_row hblq (by omega) _, .inl ⟨?_, rfl⟩⟩
        rintro ⟨y0, y1, y2, y3, n0, n1, n2, e, s0, s1, s2, t1, t2⟩
        cases e
        rw [r1.out] at s1
        cases s1
        omega

set_option maxRecDepth 100000 in
set_option maxHeartbeats 1000000 in
/-- No list of four, or a list at its end. -/
theorem frameOf_no (l : Bool) (sp : Option Addr) (n cap : Nat) (sq : Option Addr) (k cq : Nat) (w : World) (hk : k ≤ 140737488355328) (h : l = false ∨ ¬ k = 4 ∨ ∃ g off, sq = some ⟨g, off, none⟩ ∧ g < w.heap.size ∧ w.cell? ⟨g, off + 9, none⟩ = some (.bool true)) :
    Calls Try.prog 29 #[.agg #[.bool l, .slice sp n cap, .slice sq k cq]] w fun e w' => e = .returned (.tuple #[.agg #[.int .u64 0, .int .i64 0, .bool false, .slice none 0 0], .bool false]) ∧ Below w.heap.size w w' := by
  have hbW : Below w.heap.size w ((w.alloc (.cells #[.bool l, .slice sp n cap, .slice sq k cq] 59)).alloc (.cells #[.int .u64 0, .int .i64 0, .bool false, .slice none 0 0] 25)) := (alloc_bel' w _).alloc (by simp) _
  have A1 := Arr.new (w.alloc (.cells #[.bool l, .slice sp n cap, .slice sq k cq] 59)) 25 #[.int .u64 0, .int .i64 0, .bool false, .slice none 0 0]
  have hz1 : (w.alloc (.cells #[.bool l, .slice sp n cap, .slice sq k cq] 59)).heap.size = w.heap.size + 1 := by simp
  rw [hz1] at A1
  clear hz1
  cases l with
  | false =>
    clear h
    go_enter Try.func29, Try.ntmps29
    go_wp2_with (refine wpList_store_arr (by rfl) 25 (.tmp 2) (.tmp 27) (by rfl) (w.heap.size + 1) #[.int .u64 0, .int .i64 0, .bool false, .slice none 0 0] (by rfl) (by rfl) 25 _ A1 size25F rfl (one4 _ _ _ _ _ _) ?_)
    exact bodyPost_ret (v := .tuple #[.agg #[.int .u64 0, .int .i64 0, .bool false, .slice none 0 0], .bool false]) (resF rfl rfl (A1.setRow _)) rfl ⟨rfl, below_row hbW (by omega) _⟩
  | true =>
    by_cases hk4 : k = 4
    · obtain ⟨g, off, rfl, hg, hc⟩ : ∃ g off, sq = some ⟨g, off, none⟩ ∧ g < w.heap.size ∧ w.cell? ⟨g, off + 9, none⟩ = some (.bool true) := by
        rcases h with h | h | h
        · cases h
        · exact absurd hk4 h
        · exact h
      subst hk4
      have d0 := (World.cell?_of_block (w := w) (a := ⟨g, off + 9, none⟩) (hbW.block g hg)).trans hc
      go_enter Try.func29, Try.ntmps29
      go_wp2_with (refine wpList_store_arr (by rfl) 25 (.tmp 2) (.tmp 27) (by rfl) (w.heap.size + 1) #[.int .u64 0, .int .i64 0, .bool false, .slice none 0 0] (by rfl) (by rfl) 25 _ A1 size25F rfl (one4 _ _ _ _ _ _) ?_)
      exact bodyPost_ret (v := .tuple #[.agg #[.int .u64 0, .int .i64 0, .bool false, .slice none 0 0], .bool false]) (resF rfl rfl (A1.setRow _)) rfl ⟨rfl, below_row hbW (by omega) _⟩
    · clear h
      have hkI : ((k : Int) != 4) = true := by simp; omega
      go_enter Try.func29, Try.ntmps29
      go_wp2_with (refine wpList_store_arr (by rfl) 25 (.tmp 2) (.tmp 27) (by rfl) (w.heap.size + 1) #[.int .u64 0, .int .i64 0, .bool false, .slice none 0 0] (by rfl) (by rfl) 25 _ A1 size25F rfl (one4 _ _ _ _ _ _) ?_)
      exact bodyPost_ret (v := .tuple #[.agg #[.int .u64 0, .int .i64 0, .bool false, .slice none 0 0], .bool false]) (resF rfl rfl (A1.setRow _)) rfl ⟨rfl, below_row hbW (by omega) _⟩
end Go.Proofs.Ytbjlmekafnpllab
