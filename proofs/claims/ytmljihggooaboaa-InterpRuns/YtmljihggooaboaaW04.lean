/- Ig, Ih0. -/
import Derived.Test.YtmljihggooaboaaW03
import Derived.Handy
import Derived.BigQuiet
import Derived.BigRegion
import Derived.Test.YtmljihggooaboaaW01
/- Layer interp: which programs may be. -/
namespace Go.Proofs.Ytmljihggooaboaa
open Go.RowKit
set_option maxRecDepth 100000
set_option linter.unusedVariables false
set_option linter.unusedSimpArgs false

theorem fnN_le : ∀ (l : List FuT) (ps : List Int) (n m : Nat), fnN l ps n = some m → m ≤ n
  | [], _, n, m, h => by cases h; omega
  | f :: r, ps, n, m, h => by
    unfold fnN at h
    split at h
    · cases h1 : fld (stN ps f.v 8) f.b n with
      | none => rw [h1] at h; cases h
      | some k => rw [h1] at h; exact Nat.le_trans (fnN_le r _ k m h) (fld_le (stN_le 8) _ _ _ h1)
    · cases h
theorem fnN_drop {l : List FuT} {j : Nat} {f : FuT} (h : l[j]? = some f) (k : Nat) : fnN (l.drop j) ((l.take j).map FuT.p) k = if 0 ≤ f.v ∧ f.v ≤ 64 ∧ 0 ≤ f.p ∧ f.p ≤ f.v then (fld (stN ((l.take j).map FuT.p) f.v 8) f.b k).bind (fnN (l.drop (j + 1)) ((l.take (j + 1)).map FuT.p)) else none := by
  obtain ⟨hj, rfl⟩ := List.getElem?_eq_some_iff.1 h
  rw [List.drop_eq_getElem_cons hj, fnN]
  rw [show (l.take (j + 1)).map FuT.p = (l.take j).map FuT.p ++ [l[j].p] by rw [List.take_succ_eq_append_getElem hj, List.map_append]; rfl]
set_option maxHeartbeats 2000000 in
theorem nodes_any {N : Nat} {cs : List Value} (p : PgT) (w : World) (hM : PgM N w cs p) (hN : N ≤ w.heap.size) :
    Calls Try.prog 25 #[.agg cs.toArray] w (CtP ((pgN p).map (4096 - ·)) w) := by
  obtain ⟨sp, n, cap, rfl, hda, hS⟩ := hM
  have b0 := ab w (.cells #[.slice sp n cap, .int .i64 p.da] 24)
  have A := Arr.new w 24 #[.slice sp n cap, .int .i64 p.da]
  have hbg := beg_any p (w.alloc (.cells #[.slice sp n cap, .int .i64 p.da] 24)) (hS.imp (b0.mono hN) (FuM.below (b0.mono hN))) (by simp; omega)
  unfold BoP at hbg
  cases hb : begB p with
  | false =>
    have e : pgN p = none := by unfold pgN; rw [hb, if_neg (by decide)]
    rw [e]
    rw [hb] at hbg
    clear hS hda
    go_enter Try.func25, Try.ntmps25
    go_wp2_with (go_at_call 33; go_must (refine hbg.mono ?_; rintro e w1 ⟨rfl, hb1⟩))
    go_ret2
    exact ⟨rfl, b0.trans (hb1.mono b0.size)⟩
  | true =>
    have e : pgN p = fnN p.fs [] 4096 := by unfold pgN; rw [hb, if_pos rfl]
    rw [e]
    rw [hb] at hbg
    have hlen := hS.len
    have hsm := hS.small
    obtain ⟨r, hr⟩ : ∃ r, r = fnN p.fs [] 4096 := ⟨_, rfl⟩
    rw [← hr]
    replace hr := hid hr
    go_enter Try.func25, Try.ntmps25
    go_upto_region 5 with (go_at_call 33; go_must (refine hbg.mono ?_; rintro e w1 ⟨rfl, hb1⟩; have A1 := A.bl hb1; have k0 := A1.cell 0))
    have B1 := b0.trans (hb1.mono b0.size)
    have hw1 : w.heap.size < w1.heap.size := A1.lt
    clear hbg hb
    go_loopw [4, 16] (fun a i wr => ∃ (j k : Nat), a = .int .i64 (k : Int) ∧ i = .int .i64 (j : Int) ∧ j ≤ n ∧ k ≤ 4096 ∧ Hid (r = fnN (p.fs.drop j) ((p.fs.take j).map FuT.p) k) ∧ Below w1.heap.size w1 wr)
      (fun _ i _ => n - (intOf i).toNat)
    case atStart => exact ⟨0, 4096, rfl, rfl, by omega, by omega, hr, Below.refl _ _⟩
    case round =>
      obtain ⟨j, k, rfl, rfl, hj, hk, hf, hbw⟩ := hrel
      have A2 := A1.bl hbw
      have B2 := B1.trans (hbw.mono B1.size)
      by_cases hlt : j < n
      · obtain ⟨f, ht⟩ : ∃ t, p.fs[j]? = some t := ⟨p.fs[j]'(by rw [← hlen.out]; exact hlt), List.getElem?_eq_getElem _⟩
        have hfd := fnN_drop ht k
        have hS2 := hS.imp (B2.mono hN) (FuM.below (B2.mono hN))
        obtain ⟨g, off, rfl, hg, hR⟩ := hS2.at0 (by omega)
        obtain ⟨cs, hrg, hM⟩ := hR j f ht
        obtain ⟨sq, m, cq, rfl, ⟨hfp, hfv⟩, hSb⟩ := hM
        have c0 := hrg 0 _ rfl
        have c1 := hrg 1 _ rfl
        have c2 := hrg 2 _ rfl
        simp only [Nat.add_zero] at c0
        have hlt' : (j : Int) < n := by omega
        have h0 : (0 : Int) ≤ j := by omega
        by_cases hcond : 0 ≤ f.v ∧ f.v ≤ 64 ∧ 0 ≤ f.p ∧ f.p ≤ f.v
        · rw [if_pos hcond] at hfd
          obtain ⟨d1, d2, d3, d4⟩ := hcond
          have n1 : ¬ f.v < 0 := by omega
          have n2 : ¬ 64 < f.v := by omega
          have n3 : ¬ f.p < 0 := by omega
          have n4 : ¬ f.v < f.p := by omega
          have hcj : j ≤ cap := by have := hS.le; omega
          have hcj' : (j : Int) ≤ cap := by omega
          have A3 := A2.alloc (.cells (fuC f.p f.v (.slice sq m cq)).toArray 52)
          have F3 := Arr.new wr 52 (fuC f.p f.v (.slice sq m cq)).toArray
          have p0 := A3.cell 0
          have p1 := F3.cell 1
          have p2 := fun o => (A3.alloc o).cell 0
          have p3 := fun o => (F3.alloc o).cell 1
          have hB3 : Below w1.heap.size w1 (wr.alloc (.cells (fuC f.p f.v (.slice sq m cq)).toArray 52)) := hbw.alloc hbw.size _
          clear hR hrg
          unfold fuC at *
          go_upto_region 9 with fail
          go_region
          have hNw : N ≤ wr.heap.size := by have := B2.size; omega
          have hW4 : Below wr.heap.size wr ((wr.alloc (.cells #[.int .i64 f.p, .int .i64 f.v, .slice sq m cq] 52)).alloc (.cells #[.slice (some ⟨g, off, none⟩) j cap, .int .i64 f.v] 102)).drew := dw1 ((ab wr _).alloc (by simp) _)
          have S4 : Arr ((wr.alloc (.cells #[.int .i64 f.p, .int .i64 f.v, .slice sq m cq] 52)).alloc (.cells #[.slice (some ⟨g, off, none⟩) j cap, .int .i64 f.v] 102)).drew (wr.heap.size + 1) 102 #[.slice (some ⟨g, off, none⟩) j cap, .int .i64 f.v] := by
            have h := (Arr.new (wr.alloc (.cells #[.int .i64 f.p, .int .i64 f.v, .slice sq m cq] 52)) 102 #[.slice (some ⟨g, off, none⟩) j cap, .int .i64 f.v]).drew
            simp only [World.size_alloc] at h
            exact h
          have F4 := (F3.alloc (.cells #[.slice (some ⟨g, off, none⟩) j cap, .int .i64 f.v] 102)).drew
          have hB4 : Below w1.heap.size w1 ((wr.alloc (.cells #[.int .i64 f.p, .int .i64 f.v, .slice sq m cq] 52)).alloc (.cells #[.slice (some ⟨g, off, none⟩) j cap, .int .i64 f.v] 102)).drew := hbw.trans (hW4.mono hbw.size)
          have hst := stmts34 (stmt_any (N := N) (es := some ⟨g, off, none⟩) (en := j) (ec := cap) (fs := p.fs.take j) (vs := f.v) 8 (by omega)) _ (hSb.imp (hW4.mono hNw) (StM.below (hW4.mono hNw) 8)) (by have := hW4.size; omega) ((hS2.take (by omega)).imp (hW4.mono hNw) (FuM.below (hW4.mono hNw))) _ _ k rfl rfl hk
          generalize ((wr.alloc (.cells #[.int .i64 f.p, .int .i64 f.v, .slice sq m cq] 52)).alloc (.cells #[.slice (some ⟨g, off, none⟩) j cap, .int .i64 f.v] 102)).drew = W4 at *
          have q0 := S4.cell 0
          have q1 := S4.cell 1
          have q2 := F4.cell 2
          unfold CtP at hst
          clear p0 p1 p2 p3 A3 F3 hS hS2 hSb hB3 S4 F4 hW4 c0 c1 c2 ht
          cases hx : fld (stN ((p.fs.take j).map FuT.p) f.v 8) f.b k with
          | none =>
            rw [hx] at hst hfd
            have hrn : Hid (r = none) := hid (hf.out.trans hfd)
            clear hx hfd hf
            go_wp2_with (go_at_call 34; go_must (refine hst.mono ?_; rintro e w5 ⟨rfl, hb5⟩))
            go_ret2
            rw [hrn.out]
            have B4 := B1.trans (hB4.mono B1.size)
            exact ⟨rfl, B4.trans (hb5.mono B4.size)⟩
          | some k' =>
            have hk' : k' ≤ k := fld_le (stN_le 8) _ _ _ hx
            rw [hx] at hst hfd
            have hrn : Hid (r = fnN (p.fs.drop (j + 1)) ((p.fs.take (j + 1)).map FuT.p) k') := hid (hf.out.trans hfd)
            clear hx hfd hf
            go_wp2_with (go_at_call 34; go_must (refine hst.mono ?_; rintro e w5 ⟨rfl, hb5⟩))
            go_roundw
            case rel => exact ⟨j + 1, k', rfl, by go_num, by omega, by omega, hrn, hB4.trans (hb5.mono hB4.size)⟩
            case measure => simp [intOf]; omega
        · rw [if_neg hcond] at hfd
          have hrn : Hid (r = none) := hid (hf.out.trans hfd)
          have hc2 : Hid (¬ (0 ≤ f.v ∧ f.v ≤ 64 ∧ 0 ≤ f.p ∧ f.p ≤ f.v)) := hid hcond
          have hB3 := fun o => B2.alloc B2.size o
          clear hR hrg hfd hf hcond hS hS2 hSb ht
          unfold fuC at *
          go_upto_region 7 with fail
          by_cases d1 : f.v < 0
          · go_wp2_with fail
            go_ret2
            rw [hrn.out]
            exact ⟨rfl, hB3 _⟩
          by_cases d2 : 64 < f.v
          · go_wp2_with fail
            go_ret2
            rw [hrn.out]
            exact ⟨rfl, hB3 _⟩
          by_cases d3 : f.p < 0
          · go_wp2_with fail
            go_ret2
            rw [hrn.out]
            exact ⟨rfl, hB3 _⟩
          have d4 : f.v < f.p := by have := hc2.out; omega
          go_wp2_with fail
          go_ret2
          rw [hrn.out]
          exact ⟨rfl, hB3 _⟩
      · obtain rfl : j = n := by omega
        have hrn : Hid (r = some k) := hid (by rw [hf.out, hlen.out, List.drop_length]; rfl)
        have hsub : IntKind.i64.wrap (4096 - (k : Int)) = ((4096 - k : Nat) : Int) := by rw [IntKind.wrap_i64]; omega
        clear hS hf hlen
        go_wp2_with fail
        go_ret2
        rw [hrn.out]
        exact ⟨rfl, B2⟩
theorem may_any {N : Nat} {cs : List Value} (p : PgT) (w : World) (hM : PgM N w cs p) (hN : N ≤ w.heap.size) :
    Calls Try.prog 16 #[.agg cs.toArray] w (BoP (pgN p).isSome w) := by
  obtain ⟨sp, n, cap, rfl, hda, hS⟩ := id hM
  have b0 := ab w (.cells #[.slice sp n cap, .int .i64 p.da] 24)
  have hn := nodes_any p (w.alloc (.cells #[.slice sp n cap, .int .i64 p.da] 24)) (PgM.below (b0.mono hN) _ p hM) (by simp; omega)
  unfold CtP at hn
  rw [show ((pgN p).map (4096 - ·)).isSome = (pgN p).isSome by cases pgN p <;> rfl] at hn
  generalize (pgN p).isSome = r at *
  clear hM hS
  go_enter Try.func16, Try.ntmps16
  go_wp2_with (go_at_call 25; go_must (refine hn.mono ?_; rintro e w1 ⟨rfl, hb1⟩))
  go_ret
  exact ⟨rfl, b0.trans (hb1.mono b0.size)⟩
end Go.Proofs.Ytmljihggooaboaa
/- Layer interp: what two words make, by the document. -/
namespace Go.Proofs.Ytmljihggooaboaa
open Go.RowKit
set_option maxRecDepth 100000
set_option linter.unusedVariables false
set_option linter.unusedSimpArgs false

set_option maxHeartbeats 1000000 in
theorem arI5 {x y : Int} (w : World) (hx : U64 x) (hy : U64 y) : Calls Try.prog 21 #[.int .u8 5, .int .u64 x, .int .u64 y] w fun e w' => e = .returned (.tuple #[.int .u64 ((rk 5 x y).getD 0), .bool (rk 5 x y).isSome]) ∧ w' = w := by
  have hx1 := hx.1
  have hx2 := hx.2
  have hy1 := hy.1
  have hy2 := hy.2
  have hL := @sl64_big x y
  have hR := @sr64_big x y hx
  obtain ⟨o, hop⟩ : ∃ o, o = rk 5 x y := ⟨_, rfl⟩
  rw [← hop]
  replace hop := hid hop
  replace hL := hid hL
  replace hR := hid hR
  go_enter Try.func21, Try.ntmps21
  go_wp2
  all_goals
    go_ret2
    rw [hop.out]
    have hL' := hL.out
    have hR' := hR.out
    refine ⟨?_, rfl⟩
    simp_all [rk]
set_option maxHeartbeats 1000000 in
theorem arI6 {x y : Int} (w : World) (hx : U64 x) (hy : U64 y) : Calls Try.prog 21 #[.int .u8 6, .int .u64 x, .int .u64 y] w fun e w' => e = .returned (.tuple #[.int .u64 ((rk 6 x y).getD 0), .bool (rk 6 x y).isSome]) ∧ w' = w := by
  have hx1 := hx.1
  have hx2 := hx.2
  have hy1 := hy.1
  have hy2 := hy.2
  have hL := @sl64_big x y
  have hR := @sr64_big x y hx
  obtain ⟨o, hop⟩ : ∃ o, o = rk 6 x y := ⟨_, rfl⟩
  rw [← hop]
  replace hop := hid hop
  replace hL := hid hL
  replace hR := hid hR
  go_enter Try.func21, Try.ntmps21
  go_wp2
  all_goals
    go_ret2
    rw [hop.out]
    have hL' := hL.out
    have hR' := hR.out
    refine ⟨?_, rfl⟩
    simp_all [rk]
set_option maxHeartbeats 1000000 in
theorem arI7 {x y : Int} (w : World) (hx : U64 x) (hy : U64 y) : Calls Try.prog 21 #[.int .u8 7, .int .u64 x, .int .u64 y] w fun e w' => e = .returned (.tuple #[.int .u64 ((rk 7 x y).getD 0), .bool (rk 7 x y).isSome]) ∧ w' = w := by
  have hx1 := hx.1
  have hx2 := hx.2
  have hy1 := hy.1
  have hy2 := hy.2
  have hL := @sl64_big x y
  have hR := @sr64_big x y hx
  obtain ⟨o, hop⟩ : ∃ o, o = rk 7 x y := ⟨_, rfl⟩
  rw [← hop]
  replace hop := hid hop
  replace hL := hid hL
  replace hR := hid hR
  go_enter Try.func21, Try.ntmps21
  go_wp2
  all_goals
    go_ret2
    rw [hop.out]
    have hL' := hL.out
    have hR' := hR.out
    refine ⟨?_, rfl⟩
    simp_all [rk]
set_option maxHeartbeats 1000000 in
theorem arI8 {x y : Int} (w : World) (hx : U64 x) (hy : U64 y) : Calls Try.prog 21 #[.int .u8 8, .int .u64 x, .int .u64 y] w fun e w' => e = .returned (.tuple #[.int .u64 ((rk 8 x y).getD 0), .bool (rk 8 x y).isSome]) ∧ w' = w := by
  have hx1 := hx.1
  have hx2 := hx.2
  have hy1 := hy.1
  have hy2 := hy.2
  have hL := @sl64_big x y
  have hR := @sr64_big x y hx
  obtain ⟨o, hop⟩ : ∃ o, o = rk 8 x y := ⟨_, rfl⟩
  rw [← hop]
  replace hop := hid hop
  replace hL := hid hL
  replace hR := hid hR
  by_cases h0 : y = 0
  · subst h0
    go_enter Try.func21, Try.ntmps21
    go_wp2
    all_goals
      go_ret2
      rw [hop.out]
      have hL' := hL.out
      have hR' := hR.out
      refine ⟨?_, rfl⟩
      simp_all [rk]
  · have h1 : (y == 0) = false := by simpa using h0
    go_enter Try.func21, Try.ntmps21
    go_wp2
    all_goals
      go_ret2
      rw [hop.out]
      have hL' := hL.out
      have hR' := hR.out
      refine ⟨?_, rfl⟩
      simp_all [rk]
set_option maxHeartbeats 1000000 in
theorem arI9 {x y : Int} (w : World) (hx : U64 x) (hy : U64 y) : Calls Try.prog 21 #[.int .u8 9, .int .u64 x, .int .u64 y] w fun e w' => e = .returned (.tuple #[.int .u64 ((rk 9 x y).getD 0), .bool (rk 9 x y).isSome]) ∧ w' = w := by
  have hx1 := hx.1
  have hx2 := hx.2
  have hy1 := hy.1
  have hy2 := hy.2
  have hL := @sl64_big x y
  have hR := @sr64_big x y hx
  obtain ⟨o, hop⟩ : ∃ o, o = rk 9 x y := ⟨_, rfl⟩
  rw [← hop]
  replace hop := hid hop
  replace hL := hid hL
  replace hR := hid hR
  by_cases h0 : y = 0
  · subst h0
    go_enter Try.func21, Try.ntmps21
    go_wp2
    all_goals
      go_ret2
      rw [hop.out]
      have hL' := hL.out
      have hR' := hR.out
      refine ⟨?_, rfl⟩
      simp_all [rk]
  · have h1 : (y == 0) = false := by simpa using h0
    go_enter Try.func21, Try.ntmps21
    go_wp2
    all_goals
      go_ret2
      rw [hop.out]
      have hL' := hL.out
      have hR' := hR.out
      refine ⟨?_, rfl⟩
      simp_all [rk]
set_option maxHeartbeats 1000000 in
theorem arI10 {x y : Int} (w : World) (hx : U64 x) (hy : U64 y) : Calls Try.prog 21 #[.int .u8 10, .int .u64 x, .int .u64 y] w fun e w' => e = .returned (.tuple #[.int .u64 ((rk 10 x y).getD 0), .bool (rk 10 x y).isSome]) ∧ w' = w := by
  have hx1 := hx.1
  have hx2 := hx.2
  have hy1 := hy.1
  have hy2 := hy.2
  have hL := @sl64_big x y
  have hR := @sr64_big x y hx
  obtain ⟨o, hop⟩ : ∃ o, o = rk 10 x y := ⟨_, rfl⟩
  rw [← hop]
  replace hop := hid hop
  replace hL := hid hL
  replace hR := hid hR
  go_enter Try.func21, Try.ntmps21
  go_wp2
  all_goals
    go_ret2
    rw [hop.out]
    have hL' := hL.out
    have hR' := hR.out
    refine ⟨?_, rfl⟩
    simp_all [rk]
set_option maxHeartbeats 1000000 in
theorem arI11 {x y : Int} (w : World) (hx : U64 x) (hy : U64 y) : Calls Try.prog 21 #[.int .u8 11, .int .u64 x, .int .u64 y] w fun e w' => e = .returned (.tuple #[.int .u64 ((rk 11 x y).getD 0), .bool (rk 11 x y).isSome]) ∧ w' = w := by
  have hx1 := hx.1
  have hx2 := hx.2
  have hy1 := hy.1
  have hy2 := hy.2
  have hL := @sl64_big x y
  have hR := @sr64_big x y hx
  obtain ⟨o, hop⟩ : ∃ o, o = rk 11 x y := ⟨_, rfl⟩
  rw [← hop]
  replace hop := hid hop
  replace hL := hid hL
  replace hR := hid hR
  go_enter Try.func21, Try.ntmps21
  go_wp2
  all_goals
    go_ret2
    rw [hop.out]
    have hL' := hL.out
    have hR' := hR.out
    refine ⟨?_, rfl⟩
    simp_all [rk]
set_option maxHeartbeats 1000000 in
theorem arI12 {x y : Int} (w : World) (hx : U64 x) (hy : U64 y) : Calls Try.prog 21 #[.int .u8 12, .int .u64 x, .int .u64 y] w fun e w' => e = .returned (.tuple #[.int .u64 ((rk 12 x y).getD 0), .bool (rk 12 x y).isSome]) ∧ w' = w := by
  have hx1 := hx.1
  have hx2 := hx.2
  have hy1 := hy.1
  have hy2 := hy.2
  have hL := @sl64_big x y
  have hR := @sr64_big x y hx
  obtain ⟨o, hop⟩ : ∃ o, o = rk 12 x y := ⟨_, rfl⟩
  rw [← hop]
  replace hop := hid hop
  replace hL := hid hL
  replace hR := hid hR
  go_enter Try.func21, Try.ntmps21
  go_wp2
  all_goals
    go_ret2
    rw [hop.out]
    have hL' := hL.out
    have hR' := hR.out
    refine ⟨?_, rfl⟩
    simp_all [rk]
set_option maxHeartbeats 1000000 in
theorem arI13 {x y : Int} (w : World) (hx : U64 x) (hy : U64 y) : Calls Try.prog 21 #[.int .u8 13, .int .u64 x, .int .u64 y] w fun e w' => e = .returned (.tuple #[.int .u64 ((rk 13 x y).getD 0), .bool (rk 13 x y).isSome]) ∧ w' = w := by
  have hx1 := hx.1
  have hx2 := hx.2
  have hy1 := hy.1
  have hy2 := hy.2
  have hL := @sl64_big x y
  have hR := @sr64_big x y hx
  obtain ⟨o, hop⟩ : ∃ o, o = rk 13 x y := ⟨_, rfl⟩
  rw [← hop]
  replace hop := hid hop
  replace hL := hid hL
  replace hR := hid hR
  go_enter Try.func21, Try.ntmps21
  go_wp2
  all_goals
    go_ret2
    rw [hop.out]
    have hL' := hL.out
    have hR' := hR.out
    refine ⟨?_, rfl⟩
    simp_all [rk, sl64]
    all_goals rw [Nat.min_eq_left (by omega)]
set_option maxHeartbeats 1000000 in
theorem arI14 {x y : Int} (w : World) (hx : U64 x) (hy : U64 y) : Calls Try.prog 21 #[.int .u8 14, .int .u64 x, .int .u64 y] w fun e w' => e = .returned (.tuple #[.int .u64 ((rk 14 x y).getD 0), .bool (rk 14 x y).isSome]) ∧ w' = w := by
  have hx1 := hx.1
  have hx2 := hx.2
  have hy1 := hy.1
  have hy2 := hy.2
  have hL := @sl64_big x y
  have hR := @sr64_big x y hx
  obtain ⟨o, hop⟩ : ∃ o, o = rk 14 x y := ⟨_, rfl⟩
  rw [← hop]
  replace hop := hid hop
  replace hL := hid hL
  replace hR := hid hR
  go_enter Try.func21, Try.ntmps21
  go_wp2
  all_goals
    go_ret2
    rw [hop.out]
    have hL' := hL.out
    have hR' := hR.out
    refine ⟨?_, rfl⟩
    simp_all [rk, sr64]
    all_goals rw [Nat.min_eq_left (by omega)]
set_option maxHeartbeats 1000000 in
theorem arI15 {x y : Int} (w : World) (hx : U64 x) (hy : U64 y) : Calls Try.prog 21 #[.int .u8 15, .int .u64 x, .int .u64 y] w fun e w' => e = .returned (.tuple #[.int .u64 ((rk 15 x y).getD 0), .bool (rk 15 x y).isSome]) ∧ w' = w := by
  have hx1 := hx.1
  have hx2 := hx.2
  have hy1 := hy.1
  have hy2 := hy.2
  have hL := @sl64_big x y
  have hR := @sr64_big x y hx
  obtain ⟨o, hop⟩ : ∃ o, o = rk 15 x y := ⟨_, rfl⟩
  rw [← hop]
  replace hop := hid hop
  replace hL := hid hL
  replace hR := hid hR
  go_enter Try.func21, Try.ntmps21
  go_wp2
  all_goals
    go_ret2
    rw [hop.out]
    have hL' := hL.out
    have hR' := hR.out
    refine ⟨?_, rfl⟩
    simp_all [rk]
set_option maxHeartbeats 1000000 in
theorem arI16 {x y : Int} (w : World) (hx : U64 x) (hy : U64 y) : Calls Try.prog 21 #[.int .u8 16, .int .u64 x, .int .u64 y] w fun e w' => e = .returned (.tuple #[.int .u64 ((rk 16 x y).getD 0), .bool (rk 16 x y).isSome]) ∧ w' = w := by
  have hx1 := hx.1
  have hx2 := hx.2
  have hy1 := hy.1
  have hy2 := hy.2
  have hL := @sl64_big x y
  have hR := @sr64_big x y hx
  obtain ⟨o, hop⟩ : ∃ o, o = rk 16 x y := ⟨_, rfl⟩
  rw [← hop]
  replace hop := hid hop
  replace hL := hid hL
  replace hR := hid hR
  go_enter Try.func21, Try.ntmps21
  go_wp2
  all_goals
    go_ret2
    rw [hop.out]
    have hL' := hL.out
    have hR' := hR.out
    refine ⟨?_, rfl⟩
    simp_all [rk]
theorem arI_any {op x y : Int} (w : World) (ho : 5 ≤ op ∧ op ≤ 16) (hx : U64 x) (hy : U64 y) :
    Calls Try.prog 21 #[.int .u8 op, .int .u64 x, .int .u64 y] w fun e w' => e = .returned (.tuple #[.int .u64 ((rk op x y).getD 0), .bool (rk op x y).isSome]) ∧ w' = w := by
  rcases ops12 ho with rfl | rfl | rfl | rfl | rfl | rfl | rfl | rfl | rfl | rfl | rfl | rfl
  · exact arI5 w hx hy
  · exact arI6 w hx hy
  · exact arI7 w hx hy
  · exact arI8 w hx hy
  · exact arI9 w hx hy
  · exact arI10 w hx hy
  · exact arI11 w hx hy
  · exact arI12 w hx hy
  · exact arI13 w hx hy
  · exact arI14 w hx hy
  · exact arI15 w hx hy
  · exact arI16 w hx hy
end Go.Proofs.Ytmljihggooaboaa
