/- Layer vm: the law VmCodes. -/
import Derived.Test.YtgdmgogjoabilaaX31
namespace Go.Proofs.Ytgdmgogjoabilaa
open Go.RowKit
set_option maxRecDepth 100000
set_option linter.unusedVariables false
set_option linter.unusedSimpArgs false


theorem ldA25g {ops : Array Oper} {rest : List Oper} {o : Oper} {a : Act} {w : World} {Q : Exit → Act → World → Prop} (hgd : Region.wanted o (yielded ops a.tmps) = true) (x : Operand) (ho : o.op = .load 25 x)
    (g : Nat) (hx : a.eval x = .pointer (some ⟨g, 0, none⟩)) (C : Array Value) (hC : C.size = 5) (hA : Arr w g 25 C)
    (h : wpList Try.prog ops Q rest (a.put o.dst (.agg C)) w) : wpList Try.prog ops Q (o :: rest) a w :=
  wpList_want hgd fun _ hK => wp_load_mid 25 x ho g 0 hx C.toList _ (fun j v hv => by rw [Nat.zero_add, hA.cell]; simpa using hv) Try.underlying25 rfl (by rw [Array.length_toList, hC]; exact size25) (hK _ _ (by simpa using h))
set_option maxHeartbeats 4000000 in
theorem codes_walk (c : Cd) (x : Int) (w : World) (hc : c.ok) (hx : U64 x) :
    Calls Try.prog 8 #[.agg c.arr, .int .u64 x] w fun e w' => e = .returned (.bool true) ∧ Below w.heap.size w w' := by
  have A0 := Arr.new w 25 c.arr
  have hb0 := alloc_bel' w (.cells c.arr 25)
  have hw := hc.wd
  have hco := hc.o
  have hca := hc.a
  have hcb := hc.b
  have hcc := hc.c
  have s1 : c.arr.size = 5 := rfl
  have s2 : (dCd c.wd).arr.size = 5 := rfl
  have s3 : (dCd x).arr.size = 5 := rfl
  have q1 := run_neq25 c
  have q2 : ∀ w, (binOp .eql 25 (.agg (Cd.arr ⟨0, 0, 0, 0, 0⟩)) (.agg #[.int .u8 0, .int .u8 0, .int .u8 0, .int .u8 0, .int .u32 0])).run Try.prog w = .ok (.bool true) w := run_eq25 ⟨0, 0, 0, 0, 0⟩
  have q3 : ∀ w, (binOp .eql 25 (.agg #[.int .u8 0, .int .u8 0, .int .u8 0, .int .u8 0, .int .u32 0]) (.agg #[.int .u8 0, .int .u8 0, .int .u8 0, .int .u8 0, .int .u32 0])).run Try.prog w = .ok (.bool true) w := run_eq25 ⟨0, 0, 0, 0, 0⟩
  have hz : dOk x = false → dCd x = ⟨0, 0, 0, 0, 0⟩ := fun h => by unfold dCd; rw [if_neg (by rw [h]; simp)]
  have hyes := dCd_yes hx
  have hk1 := dCd_ok hx
  have hback := dCd_back hc
  have k0 : c.arr[0]? = some (.int .u8 c.o) := rfl
  have k1 : c.arr[1]? = some (.int .u8 c.a) := rfl
  have k2 : c.arr[2]? = some (.int .u8 c.b) := rfl
  have k3 : c.arr[3]? = some (.int .u8 c.c) := rfl
  replace hz := Hid.mk' hz
  replace hyes := Hid.mk' hyes
  replace hback := Hid.mk' hback
  have hwd := fun W => wdc_any c hc W
  generalize hCA : c.arr = CA at *
  replace hCA := Hid.mk' hCA
  go_enter Try.func8, Try.ntmps8
  go_upto_region 2 with (first
    | (refine ldA25 (by rfl) (.tmp 2) (by rfl) w.heap.size (by rfl) CA s1 A0 ?_)
    | (go_at_call 13; go_must (refine (hwd _).mono ?_; rintro e w1 ⟨rfl, hb1⟩; have B1 := hb0.trans (hb1.mono (by simp)); have A1 := A0.below hb1 (by simp)))
    | (go_at_call 9; go_must (refine (dec_cd c.wd w1 hw).mono ?_; rintro e w2 ⟨rfl, hb2⟩; have B2 := B1.trans (hb2.mono B1.size); have A2 := A1.below hb2 A1.lt))
    | (refine st25n (by rfl) (.tmp 5) (.tmp 14) (by rfl) w2 w2.heap.size rfl (by rfl) (dCd c.wd) (by rfl) (by rfl) ?_))
  have A3 := A2.alloc (.cells (dCd c.wd).arr 25)
  have E3 := Arr.new w2 25 (dCd c.wd).arr
  have B3 := B2.alloc B2.size (.cells (dCd c.wd).arr 25)
  have d0 := (A3.cell 0).trans k0
  have d1 := (A3.cell 1).trans k1
  have d2 := (A3.cell 2).trans k2
  have d3 := (A3.cell 3).trans k3
  generalize w2.alloc (.cells (dCd c.wd).arr 25) = w3 at A3 E3 B3 d0 d1 d2 d3 ⊢
  generalize w2.heap.size = gE at E3 ⊢
  clear A2 A1 hb1 hb2 B1 B2
  by_cases hm : (1 ≤ c.o ∧ c.o ≤ 25) ∧ c.a < 16 ∧ c.b < 16 ∧ c.c < 16
  · obtain ⟨hd, hcd⟩ := hback.out hm
    rw [hd]
    rw [hcd] at E3 s2
    rw [hCA.out] at E3 s2
    obtain ⟨⟨m1, m2⟩, m3, m4, m5⟩ := hm
    replace hd := Hid.mk' hd
    replace hcd := Hid.mk' hcd
    cases hq : dOk x with
    | true =>
      have hxw := hyes.out hq
      replace hq := Hid.mk' hq
      replace hxw := Hid.mk' hxw
      go_wp2_with (first
        | (refine ldA25g (by rfl) (.tmp 5) (by rfl) gE (by rfl) CA s1 E3 ?_)
        | (refine ldA25g (by rfl) (.tmp 2) (by rfl) w.heap.size (by rfl) CA s1 A3 ?_)
        | (go_at_call 9; go_must (refine (dec_cd x _ hx).mono ?_; rintro e w4 ⟨rfl, hb4⟩; rw [hq.out]; have B4 := B3.trans (hb4.mono B3.size); have E4 := Arr.new w4 25 (dCd x).arr; have B5 := B4.alloc B4.size (.cells (dCd x).arr 25)))
        | (refine st25n (by rfl) (.tmp 8) (.tmp 52) (by rfl) w4 w4.heap.size rfl (by rfl) (dCd x) (by rfl) (by rfl) ?_)
        | (go_at_call 16; go_must (refine (anchored_any _).mono ?_; rintro e w5 ⟨rfl, hb5⟩; have E5 := E4.below hb5 E4.lt; have hb5' := B5.trans (hb5.mono B5.size)))
        | (refine ldA25g (by rfl) (.tmp 8) (by rfl) w4.heap.size (by rfl) (dCd x).arr s3 E5 ?_)
        | (go_at_call 13; go_must (refine (wdc_any (dCd x) hk1 _).mono ?_; rintro e w6 ⟨rfl, hb6⟩; rw [hxw.out]; have hb5' := hb5'.trans (hb6.mono hb5'.size))))
      go_ret
      exact ⟨by simp, hb5'⟩
    | false =>
      have hzz := hz.out hq
      replace hq := Hid.mk' hq
      replace hzz := Hid.mk' hzz
      go_wp2_with (first
        | (refine ldA25g (by rfl) (.tmp 5) (by rfl) gE (by rfl) CA s1 E3 ?_)
        | (refine ldA25g (by rfl) (.tmp 2) (by rfl) w.heap.size (by rfl) CA s1 A3 ?_)
        | (go_at_call 9; go_must (refine (dec_cd x _ hx).mono ?_; rintro e w4 ⟨rfl, hb4⟩; rw [hq.out]; have B4 := B3.trans (hb4.mono B3.size); have E4 := Arr.new w4 25 (dCd x).arr; have B5 := B4.alloc B4.size (.cells (dCd x).arr 25)))
        | (refine st25n (by rfl) (.tmp 8) (.tmp 52) (by rfl) w4 w4.heap.size rfl (by rfl) (dCd x) (by rfl) (by rfl) ?_)
        | (go_at_call 16; go_must (refine (anchored_any _).mono ?_; rintro e w5 ⟨rfl, hb5⟩; have E5 := E4.below hb5 E4.lt; have hb5' := B5.trans (hb5.mono B5.size)))
        | (refine ldA25g (by rfl) (.tmp 8) (by rfl) w4.heap.size (by rfl) (dCd x).arr s3 E5 ?_; rw [hzz.out]))
      go_ret
      exact ⟨by simp, hb5'⟩
  · clear hback
    generalize hdk : dOk c.wd = DK at *
    clear hdk
    by_cases m1 : 1 ≤ c.o
    rotate_left
    · clear hm
      cases hq : dOk x with
      | true =>
        have hxw := hyes.out hq
        replace hq := Hid.mk' hq
        replace hxw := Hid.mk' hxw
        go_wp2_with (first
        | (refine ldA25g (by rfl) (.tmp 5) (by rfl) gE (by rfl) CA s1 E3 ?_)
        | (refine ldA25g (by rfl) (.tmp 2) (by rfl) w.heap.size (by rfl) CA s1 A3 ?_)
        | (go_at_call 9; go_must (refine (dec_cd x _ hx).mono ?_; rintro e w4 ⟨rfl, hb4⟩; rw [hq.out]; have B4 := B3.trans (hb4.mono B3.size); have E4 := Arr.new w4 25 (dCd x).arr; have B5 := B4.alloc B4.size (.cells (dCd x).arr 25)))
        | (refine st25n (by rfl) (.tmp 8) (.tmp 52) (by rfl) w4 w4.heap.size rfl (by rfl) (dCd x) (by rfl) (by rfl) ?_)
        | (go_at_call 16; go_must (refine (anchored_any _).mono ?_; rintro e w5 ⟨rfl, hb5⟩; have E5 := E4.below hb5 E4.lt; have hb5' := B5.trans (hb5.mono B5.size)))
        | (refine ldA25g (by rfl) (.tmp 8) (by rfl) w4.heap.size (by rfl) (dCd x).arr s3 E5 ?_)
        | (go_at_call 13; go_must (refine (wdc_any (dCd x) hk1 _).mono ?_; rintro e w6 ⟨rfl, hb6⟩; rw [hxw.out]; have hb5' := hb5'.trans (hb6.mono hb5'.size))))
        go_ret
        exact ⟨by simp, hb5'⟩
      | false =>
        have hzz := hz.out hq
        replace hq := Hid.mk' hq
        replace hzz := Hid.mk' hzz
        go_wp2_with (first
        | (refine ldA25g (by rfl) (.tmp 5) (by rfl) gE (by rfl) CA s1 E3 ?_)
        | (refine ldA25g (by rfl) (.tmp 2) (by rfl) w.heap.size (by rfl) CA s1 A3 ?_)
        | (go_at_call 9; go_must (refine (dec_cd x _ hx).mono ?_; rintro e w4 ⟨rfl, hb4⟩; rw [hq.out]; have B4 := B3.trans (hb4.mono B3.size); have E4 := Arr.new w4 25 (dCd x).arr; have B5 := B4.alloc B4.size (.cells (dCd x).arr 25)))
        | (refine st25n (by rfl) (.tmp 8) (.tmp 52) (by rfl) w4 w4.heap.size rfl (by rfl) (dCd x) (by rfl) (by rfl) ?_)
        | (go_at_call 16; go_must (refine (anchored_any _).mono ?_; rintro e w5 ⟨rfl, hb5⟩; have E5 := E4.below hb5 E4.lt; have hb5' := B5.trans (hb5.mono B5.size)))
        | (refine ldA25g (by rfl) (.tmp 8) (by rfl) w4.heap.size (by rfl) (dCd x).arr s3 E5 ?_; rw [hzz.out]))
        go_ret
        exact ⟨by simp, hb5'⟩
    by_cases m2 : c.o ≤ 25
    rotate_left
    · clear hm
      cases hq : dOk x with
      | true =>
        have hxw := hyes.out hq
        replace hq := Hid.mk' hq
        replace hxw := Hid.mk' hxw
        go_wp2_with (first
        | (refine ldA25g (by rfl) (.tmp 5) (by rfl) gE (by rfl) CA s1 E3 ?_)
        | (refine ldA25g (by rfl) (.tmp 2) (by rfl) w.heap.size (by rfl) CA s1 A3 ?_)
        | (go_at_call 9; go_must (refine (dec_cd x _ hx).mono ?_; rintro e w4 ⟨rfl, hb4⟩; rw [hq.out]; have B4 := B3.trans (hb4.mono B3.size); have E4 := Arr.new w4 25 (dCd x).arr; have B5 := B4.alloc B4.size (.cells (dCd x).arr 25)))
        | (refine st25n (by rfl) (.tmp 8) (.tmp 52) (by rfl) w4 w4.heap.size rfl (by rfl) (dCd x) (by rfl) (by rfl) ?_)
        | (go_at_call 16; go_must (refine (anchored_any _).mono ?_; rintro e w5 ⟨rfl, hb5⟩; have E5 := E4.below hb5 E4.lt; have hb5' := B5.trans (hb5.mono B5.size)))
        | (refine ldA25g (by rfl) (.tmp 8) (by rfl) w4.heap.size (by rfl) (dCd x).arr s3 E5 ?_)
        | (go_at_call 13; go_must (refine (wdc_any (dCd x) hk1 _).mono ?_; rintro e w6 ⟨rfl, hb6⟩; rw [hxw.out]; have hb5' := hb5'.trans (hb6.mono hb5'.size))))
        go_ret
        exact ⟨by simp, hb5'⟩
      | false =>
        have hzz := hz.out hq
        replace hq := Hid.mk' hq
        replace hzz := Hid.mk' hzz
        go_wp2_with (first
        | (refine ldA25g (by rfl) (.tmp 5) (by rfl) gE (by rfl) CA s1 E3 ?_)
        | (refine ldA25g (by rfl) (.tmp 2) (by rfl) w.heap.size (by rfl) CA s1 A3 ?_)
        | (go_at_call 9; go_must (refine (dec_cd x _ hx).mono ?_; rintro e w4 ⟨rfl, hb4⟩; rw [hq.out]; have B4 := B3.trans (hb4.mono B3.size); have E4 := Arr.new w4 25 (dCd x).arr; have B5 := B4.alloc B4.size (.cells (dCd x).arr 25)))
        | (refine st25n (by rfl) (.tmp 8) (.tmp 52) (by rfl) w4 w4.heap.size rfl (by rfl) (dCd x) (by rfl) (by rfl) ?_)
        | (go_at_call 16; go_must (refine (anchored_any _).mono ?_; rintro e w5 ⟨rfl, hb5⟩; have E5 := E4.below hb5 E4.lt; have hb5' := B5.trans (hb5.mono B5.size)))
        | (refine ldA25g (by rfl) (.tmp 8) (by rfl) w4.heap.size (by rfl) (dCd x).arr s3 E5 ?_; rw [hzz.out]))
        go_ret
        exact ⟨by simp, hb5'⟩
    by_cases m3 : c.a < 16
    rotate_left
    · clear hm
      cases hq : dOk x with
      | true =>
        have hxw := hyes.out hq
        replace hq := Hid.mk' hq
        replace hxw := Hid.mk' hxw
        go_wp2_with (first
        | (refine ldA25g (by rfl) (.tmp 5) (by rfl) gE (by rfl) CA s1 E3 ?_)
        | (refine ldA25g (by rfl) (.tmp 2) (by rfl) w.heap.size (by rfl) CA s1 A3 ?_)
        | (go_at_call 9; go_must (refine (dec_cd x _ hx).mono ?_; rintro e w4 ⟨rfl, hb4⟩; rw [hq.out]; have B4 := B3.trans (hb4.mono B3.size); have E4 := Arr.new w4 25 (dCd x).arr; have B5 := B4.alloc B4.size (.cells (dCd x).arr 25)))
        | (refine st25n (by rfl) (.tmp 8) (.tmp 52) (by rfl) w4 w4.heap.size rfl (by rfl) (dCd x) (by rfl) (by rfl) ?_)
        | (go_at_call 16; go_must (refine (anchored_any _).mono ?_; rintro e w5 ⟨rfl, hb5⟩; have E5 := E4.below hb5 E4.lt; have hb5' := B5.trans (hb5.mono B5.size)))
        | (refine ldA25g (by rfl) (.tmp 8) (by rfl) w4.heap.size (by rfl) (dCd x).arr s3 E5 ?_)
        | (go_at_call 13; go_must (refine (wdc_any (dCd x) hk1 _).mono ?_; rintro e w6 ⟨rfl, hb6⟩; rw [hxw.out]; have hb5' := hb5'.trans (hb6.mono hb5'.size))))
        go_ret
        exact ⟨by simp, hb5'⟩
      | false =>
        have hzz := hz.out hq
        replace hq := Hid.mk' hq
        replace hzz := Hid.mk' hzz
        go_wp2_with (first
        | (refine ldA25g (by rfl) (.tmp 5) (by rfl) gE (by rfl) CA s1 E3 ?_)
        | (refine ldA25g (by rfl) (.tmp 2) (by rfl) w.heap.size (by rfl) CA s1 A3 ?_)
        | (go_at_call 9; go_must (refine (dec_cd x _ hx).mono ?_; rintro e w4 ⟨rfl, hb4⟩; rw [hq.out]; have B4 := B3.trans (hb4.mono B3.size); have E4 := Arr.new w4 25 (dCd x).arr; have B5 := B4.alloc B4.size (.cells (dCd x).arr 25)))
        | (refine st25n (by rfl) (.tmp 8) (.tmp 52) (by rfl) w4 w4.heap.size rfl (by rfl) (dCd x) (by rfl) (by rfl) ?_)
        | (go_at_call 16; go_must (refine (anchored_any _).mono ?_; rintro e w5 ⟨rfl, hb5⟩; have E5 := E4.below hb5 E4.lt; have hb5' := B5.trans (hb5.mono B5.size)))
        | (refine ldA25g (by rfl) (.tmp 8) (by rfl) w4.heap.size (by rfl) (dCd x).arr s3 E5 ?_; rw [hzz.out]))
        go_ret
        exact ⟨by simp, hb5'⟩
    by_cases m4 : c.b < 16
    rotate_left
    · clear hm
      cases hq : dOk x with
      | true =>
        have hxw := hyes.out hq
        replace hq := Hid.mk' hq
        replace hxw := Hid.mk' hxw
        go_wp2_with (first
        | (refine ldA25g (by rfl) (.tmp 5) (by rfl) gE (by rfl) CA s1 E3 ?_)
        | (refine ldA25g (by rfl) (.tmp 2) (by rfl) w.heap.size (by rfl) CA s1 A3 ?_)
        | (go_at_call 9; go_must (refine (dec_cd x _ hx).mono ?_; rintro e w4 ⟨rfl, hb4⟩; rw [hq.out]; have B4 := B3.trans (hb4.mono B3.size); have E4 := Arr.new w4 25 (dCd x).arr; have B5 := B4.alloc B4.size (.cells (dCd x).arr 25)))
        | (refine st25n (by rfl) (.tmp 8) (.tmp 52) (by rfl) w4 w4.heap.size rfl (by rfl) (dCd x) (by rfl) (by rfl) ?_)
        | (go_at_call 16; go_must (refine (anchored_any _).mono ?_; rintro e w5 ⟨rfl, hb5⟩; have E5 := E4.below hb5 E4.lt; have hb5' := B5.trans (hb5.mono B5.size)))
        | (refine ldA25g (by rfl) (.tmp 8) (by rfl) w4.heap.size (by rfl) (dCd x).arr s3 E5 ?_)
        | (go_at_call 13; go_must (refine (wdc_any (dCd x) hk1 _).mono ?_; rintro e w6 ⟨rfl, hb6⟩; rw [hxw.out]; have hb5' := hb5'.trans (hb6.mono hb5'.size))))
        go_ret
        exact ⟨by simp, hb5'⟩
      | false =>
        have hzz := hz.out hq
        replace hq := Hid.mk' hq
        replace hzz := Hid.mk' hzz
        go_wp2_with (first
        | (refine ldA25g (by rfl) (.tmp 5) (by rfl) gE (by rfl) CA s1 E3 ?_)
        | (refine ldA25g (by rfl) (.tmp 2) (by rfl) w.heap.size (by rfl) CA s1 A3 ?_)
        | (go_at_call 9; go_must (refine (dec_cd x _ hx).mono ?_; rintro e w4 ⟨rfl, hb4⟩; rw [hq.out]; have B4 := B3.trans (hb4.mono B3.size); have E4 := Arr.new w4 25 (dCd x).arr; have B5 := B4.alloc B4.size (.cells (dCd x).arr 25)))
        | (refine st25n (by rfl) (.tmp 8) (.tmp 52) (by rfl) w4 w4.heap.size rfl (by rfl) (dCd x) (by rfl) (by rfl) ?_)
        | (go_at_call 16; go_must (refine (anchored_any _).mono ?_; rintro e w5 ⟨rfl, hb5⟩; have E5 := E4.below hb5 E4.lt; have hb5' := B5.trans (hb5.mono B5.size)))
        | (refine ldA25g (by rfl) (.tmp 8) (by rfl) w4.heap.size (by rfl) (dCd x).arr s3 E5 ?_; rw [hzz.out]))
        go_ret
        exact ⟨by simp, hb5'⟩
    by_cases m5 : c.c < 16
    rotate_left
    · clear hm
      cases hq : dOk x with
      | true =>
        have hxw := hyes.out hq
        replace hq := Hid.mk' hq
        replace hxw := Hid.mk' hxw
        go_wp2_with (first
        | (refine ldA25g (by rfl) (.tmp 5) (by rfl) gE (by rfl) CA s1 E3 ?_)
        | (refine ldA25g (by rfl) (.tmp 2) (by rfl) w.heap.size (by rfl) CA s1 A3 ?_)
        | (go_at_call 9; go_must (refine (dec_cd x _ hx).mono ?_; rintro e w4 ⟨rfl, hb4⟩; rw [hq.out]; have B4 := B3.trans (hb4.mono B3.size); have E4 := Arr.new w4 25 (dCd x).arr; have B5 := B4.alloc B4.size (.cells (dCd x).arr 25)))
        | (refine st25n (by rfl) (.tmp 8) (.tmp 52) (by rfl) w4 w4.heap.size rfl (by rfl) (dCd x) (by rfl) (by rfl) ?_)
        | (go_at_call 16; go_must (refine (anchored_any _).mono ?_; rintro e w5 ⟨rfl, hb5⟩; have E5 := E4.below hb5 E4.lt; have hb5' := B5.trans (hb5.mono B5.size)))
        | (refine ldA25g (by rfl) (.tmp 8) (by rfl) w4.heap.size (by rfl) (dCd x).arr s3 E5 ?_)
        | (go_at_call 13; go_must (refine (wdc_any (dCd x) hk1 _).mono ?_; rintro e w6 ⟨rfl, hb6⟩; rw [hxw.out]; have hb5' := hb5'.trans (hb6.mono hb5'.size))))
        go_ret
        exact ⟨by simp, hb5'⟩
      | false =>
        have hzz := hz.out hq
        replace hq := Hid.mk' hq
        replace hzz := Hid.mk' hzz
        go_wp2_with (first
        | (refine ldA25g (by rfl) (.tmp 5) (by rfl) gE (by rfl) CA s1 E3 ?_)
        | (refine ldA25g (by rfl) (.tmp 2) (by rfl) w.heap.size (by rfl) CA s1 A3 ?_)
        | (go_at_call 9; go_must (refine (dec_cd x _ hx).mono ?_; rintro e w4 ⟨rfl, hb4⟩; rw [hq.out]; have B4 := B3.trans (hb4.mono B3.size); have E4 := Arr.new w4 25 (dCd x).arr; have B5 := B4.alloc B4.size (.cells (dCd x).arr 25)))
        | (refine st25n (by rfl) (.tmp 8) (.tmp 52) (by rfl) w4 w4.heap.size rfl (by rfl) (dCd x) (by rfl) (by rfl) ?_)
        | (go_at_call 16; go_must (refine (anchored_any _).mono ?_; rintro e w5 ⟨rfl, hb5⟩; have E5 := E4.below hb5 E4.lt; have hb5' := B5.trans (hb5.mono B5.size)))
        | (refine ldA25g (by rfl) (.tmp 8) (by rfl) w4.heap.size (by rfl) (dCd x).arr s3 E5 ?_; rw [hzz.out]))
        go_ret
        exact ⟨by simp, hb5'⟩
    exact absurd ⟨⟨m1, m2⟩, m3, m4, m5⟩ hm
end Go.Proofs.Ytgdmgogjoabilaa
