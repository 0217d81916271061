/- Layer interp: which programs may be, by the document. -/
import Derived.Test.YtmljihggooaboaaX47
import Derived.Test.YtmljihggooaboaaX05
import Derived.Handy
import Derived.BigQuiet
import Derived.BigRegion
namespace Go.Proofs.Ytmljihggooaboaa
open Go.RowKit
set_option maxRecDepth 100000
set_option linter.unusedVariables false
set_option linter.unusedSimpArgs false

theorem begB_f {p : PgT} : begB p = true ↔ ¬ ((p.fs.length : Int) < 1) ∧ ¬ (32 < (p.fs.length : Int)) ∧ ¬ (p.da < 0) ∧ ¬ (1024 < p.da) ∧ p.fs.getLast?.map FuT.p = some 0 := by
  unfold begB
  rw [decide_eq_true_eq]
  constructor
  · rintro ⟨h1, h2, h3, h4, h5⟩
    exact ⟨by omega, by omega, by omega, by omega, h3⟩
  · rintro ⟨h1, h2, h3, h4, h5⟩
    exact ⟨by omega, by omega, h5, by omega, by omega⟩
set_option maxHeartbeats 4000000 in
theorem used_any {N : Nat} {cs : List Value} (p : PgT) (w : World) (hM : PgM N w cs p) (hN : N ≤ w.heap.size) :
    Calls Try.prog 22 #[.agg cs.toArray] w (DoP ((pgN p).map (4096 - ·)) w) := by
  obtain ⟨sp, n, cap, rfl, hda, hS⟩ := hM
  have b0 := ab w (.cells #[.slice sp n cap, .int .i64 p.da] 24)
  have A := Arr.new w 24 #[.slice sp n cap, .int .i64 p.da]
  have hlen := hS.len
  have hsm := hS.small
  have hbf := begB_f (p := p)
  rw [← hlen.out] at hbf
  have hSU := hS.imp (b0.mono hN) (FuM.below (b0.mono hN))
  have hNU : N ≤ (w.alloc (.cells #[.slice sp n cap, .int .i64 p.da] 24)).heap.size := by simp; omega
  have no : begB p ≠ true → pgN p = none := fun h => by unfold pgN; rw [if_neg h]
  by_cases c0 : (n : Int) < 1
  · rw [no (fun h => (hbf.1 h).1 c0)]
    clear hS hSU hbf no hlen
    go_enter Try.func22, Try.ntmps22
    go_wp2_with fail
    go_ret
    exact ⟨rfl, b0⟩
  by_cases c1 : 32 < (n : Int)
  · rw [no (fun h => (hbf.1 h).2.1 c1)]
    clear hS hSU hbf no hlen
    go_enter Try.func22, Try.ntmps22
    go_wp2_with fail
    go_ret
    exact ⟨rfl, b0⟩
  by_cases c2 : p.da < 0
  · rw [no (fun h => (hbf.1 h).2.2.1 c2)]
    clear hS hSU hbf no hlen
    go_enter Try.func22, Try.ntmps22
    go_wp2_with fail
    go_ret
    exact ⟨rfl, b0⟩
  by_cases c3 : 1024 < p.da
  · rw [no (fun h => (hbf.1 h).2.2.2.1 c3)]
    clear hS hSU hbf no hlen
    go_enter Try.func22, Try.ntmps22
    go_wp2_with fail
    go_ret
    exact ⟨rfl, b0⟩
  obtain ⟨f, ht⟩ : ∃ t, p.fs[n - 1]? = some t := ⟨p.fs[n - 1]'(by have := hlen.out; omega), List.getElem?_eq_getElem _⟩
  have hlast : p.fs.getLast?.map FuT.p = some f.p := by rw [List.getLast?_eq_getElem?, ← hlen.out, ht]; rfl
  obtain ⟨g, off, rfl, hg, hR⟩ := hSU.at0 (by omega)
  obtain ⟨cf, hrg, hMf⟩ := hR (n - 1) f ht
  obtain ⟨qa, qb, qc, rfl, -, -⟩ := hMf
  have l0 := hrg 0 _ rfl
  simp only [Nat.add_zero] at l0
  have hkw : IntKind.i64.wrap ((n : Int) - 1) = ((n - 1 : Nat) : Int) := by rw [IntKind.wrap_i64]; omega
  have hk1 : ((n - 1 : Nat) : Int) < n := by omega
  have hk2 : n - 1 < n := by omega
  by_cases c4 : f.p = 0
  rotate_left
  · rw [no (fun h => c4 (by have := (hbf.1 h).2.2.2.2; rw [hlast] at this; exact Option.some.inj this))]
    have c4' : (f.p != 0) = true := by simpa using c4
    clear hS hSU hbf no hlen hR hrg ht hlast c4
    generalize n - 1 = kk at *
    go_enter Try.func22, Try.ntmps22
    go_wp2_with fail
    go_ret
    exact ⟨rfl, b0⟩
  have hbeg : begB p = true := hbf.2 ⟨c0, c1, c2, c3, by rw [hlast, c4]⟩
  have e : pgN p = fnN p.fs [] 4096 := by unfold pgN; rw [hbeg, if_pos rfl]
  rw [e]
  obtain ⟨r, hr⟩ : ∃ r, r = fnN p.fs [] 4096 := ⟨_, rfl⟩
  rw [← hr]
  replace hr := hid hr
  have c4' : (f.p != 0) = false := by simpa using c4
  clear hS hbf no hlast hrg ht c4 hbeg e
  generalize hkk : n - 1 = kk at *
  clear hkk
  go_enter Try.func22, Try.ntmps22
  go_upto_region 5 with fail
  generalize hU : w.alloc (.cells #[.slice (some ⟨g, off, none⟩) n cap, .int .i64 p.da] 24) = U at *
  go_loopw [3, 4] (fun a i wr => ∃ (j : Nat), i = .int .i64 (j : Int) ∧ j ≤ n ∧ ((∃ q : Nat, q ≤ 4096 ∧ a = .int .i64 (q : Int) ∧ Hid (r = fnN (p.fs.drop j) ((p.fs.take j).map FuT.p) q)) ∨ (a = .int .i64 (-1) ∧ Hid (r = none))) ∧ Below U.heap.size U wr)
    (fun _ i _ => n - (intOf i).toNat)
  case atStart => exact ⟨0, rfl, by omega, .inl ⟨4096, by omega, rfl, hr⟩, Below.refl _ _⟩
  case round =>
    obtain ⟨j, rfl, hj, hqq, hb⟩ := hrel
    have B2 := b0.trans (hb.mono b0.size)
    have a0 := (A.bl hb).cell 0
    have a1 := (A.bl hb).cell 1
    rcases hqq with ⟨q, hq, rfl, hf⟩ | ⟨rfl, hf⟩
    · have hq0 : (0 : Int) ≤ q := by omega
      by_cases hlt : j < n
      · obtain ⟨f, ht⟩ : ∃ t, p.fs[j]? = some t := ⟨p.fs[j]'(by rw [← hlen.out]; exact hlt), List.getElem?_eq_getElem _⟩
        have hfd := fnN_drop ht q
        obtain ⟨cs, hrg, hM⟩ := hR j f ht
        obtain ⟨sq, m, cq, rfl, ⟨hfp, hfv⟩, hSb⟩ := hM
        have hrg2 := rb hrg hb (by omega)
        have c0 := hrg2 0 _ rfl
        have c1 := hrg2 1 _ rfl
        have c2 := hrg2 2 _ rfl
        simp only [Nat.add_zero] at c0
        have hlt' : (j : Int) < n := by omega
        have h0 : (0 : Int) ≤ j := by omega
        by_cases hcond : 0 ≤ f.v ∧ f.v ≤ 64 ∧ 0 ≤ f.p ∧ f.p ≤ f.v
        · rw [if_pos hcond] at hfd
          obtain ⟨d1, d2, d3, d4⟩ := hcond
          have n1 : ¬ f.v < 0 := by omega
          have n2 : ¬ 64 < f.v := by omega
          have n3 : ¬ f.p < 0 := by omega
          have n4 : ¬ f.v < f.p := by omega
          have b3 := ab wr (.cells (fuC f.p f.v (.slice sq m cq)).toArray 52)
          have hb3 := hb.trans (b3.mono hb.size)
          have hst := dstmts (dstmt_any (N := N) (sp := some ⟨g, off, none⟩) (n := n) (cap := cap) (fs := p.fs) (da := p.da) ht rfl 8 (by omega)) (wr.alloc (.cells (fuC f.p f.v (.slice sq m cq)).toArray 52)) (hSb.imp (hb3.mono hNU) (StM.below (hb3.mono hNU) 8)) (by have := hb3.size; omega) (hSU.imp (hb3.mono hNU) (FuM.below (hb3.mono hNU))) (some q) (fun k h => by cases h; exact hq) _ _ rfl rfl
          replace hst : Calls Try.prog 30 #[.agg #[.slice (some ⟨g, off, none⟩) n cap, .int .i64 p.da], .int .i64 (j : Int), .slice sq m cq, .int .i64 (q : Int), .int .i64 8] (wr.alloc (.cells (fuC f.p f.v (.slice sq m cq)).toArray 52)) (DoP (fld (stN ((p.fs.take j).map FuT.p) f.v 8) f.b q) (wr.alloc (.cells (fuC f.p f.v (.slice sq m cq)).toArray 52))) := hst
          unfold DoP at hst
          have e0 := (A.bl hb3).cell 0
          have e1 := (A.bl hb3).cell 1
          clear hSU hR hrg hrg2 hSb ht hr
          cases hx : fld (stN ((p.fs.take j).map FuT.p) f.v 8) f.b q with
          | none =>
            rw [hx] at hst hfd
            have hrn : Hid (r = none) := hid (hf.out.trans hfd)
            clear hx hfd hf
            unfold fuC at *
            go_wp2_with (go_at_call 30; go_must (refine hst.mono ?_; rintro e w5 ⟨rfl, hb5⟩))
            go_roundw
            case rel => exact ⟨j + 1, by go_num, by omega, .inr ⟨rfl, hrn⟩, hb3.trans (hb5.mono hb3.size)⟩
            case measure => simp [intOf]; omega
          | some q' =>
            have hq' : q' ≤ q := fld_le (stN_le 8) _ _ _ hx
            rw [hx] at hst hfd
            have hrn : Hid (r = fnN (p.fs.drop (j + 1)) ((p.fs.take (j + 1)).map FuT.p) q') := hid (hf.out.trans hfd)
            clear hx hfd hf
            unfold fuC at *
            go_wp2_with (go_at_call 30; go_must (refine hst.mono ?_; rintro e w5 ⟨rfl, hb5⟩))
            go_roundw
            case rel => exact ⟨j + 1, by go_num, by omega, .inl ⟨q', by omega, rfl, hrn⟩, hb3.trans (hb5.mono hb3.size)⟩
            case measure => simp [intOf]; omega
        · rw [if_neg hcond] at hfd
          have hrn : Hid (r = none) := hid (hf.out.trans hfd)
          have hc2 : Hid (¬ (0 ≤ f.v ∧ f.v ≤ 64 ∧ 0 ≤ f.p ∧ f.p ≤ f.v)) := hid hcond
          clear hSU hR hrg hrg2 hSb ht hr hfd hf hcond hlen
          unfold fuC at *
          go_upto_region 8 with fail
          by_cases d1 : f.v < 0
          · go_wp2_with fail
            go_ret
            rw [hrn.out]
            exact ⟨rfl, B2.alloc B2.size _⟩
          by_cases d2 : 64 < f.v
          · go_wp2_with fail
            go_ret
            rw [hrn.out]
            exact ⟨rfl, B2.alloc B2.size _⟩
          by_cases d3 : f.p < 0
          · go_wp2_with fail
            go_ret
            rw [hrn.out]
            exact ⟨rfl, B2.alloc B2.size _⟩
          have d4 : f.v < f.p := by have := hc2.out; omega
          go_wp2_with fail
          go_ret
          rw [hrn.out]
          exact ⟨rfl, B2.alloc B2.size _⟩
      · obtain rfl : j = n := by omega
        have hrn : Hid (r = some q) := hid (by rw [hf.out, hlen.out, List.drop_length]; rfl)
        have hlt' : ¬ (j : Int) < j := by omega
        have hnn : ¬ (q : Int) < 0 := by omega
        have hsub : IntKind.i64.wrap (4096 - (q : Int)) = ((4096 - q : Nat) : Int) := by rw [IntKind.wrap_i64]; omega
        clear hSU hf hlen hR hr
        go_wp2_with fail
        go_ret
        rw [hrn.out]
        exact ⟨rfl, B2⟩
    · clear hSU hlen hR hr
      by_cases hlt : j < n
      · have hlt' : (j : Int) < n := by omega
        go_wp2_with fail
        go_ret
        rw [hf.out]
        exact ⟨rfl, B2⟩
      · have hlt' : ¬ (j : Int) < n := by omega
        go_wp2_with fail
        go_ret
        rw [hf.out]
        exact ⟨rfl, B2⟩
theorem refMay_any {N : Nat} {cs : List Value} (p : PgT) (w : World) (hM : PgM N w cs p) (hN : N ≤ w.heap.size) :
    Calls Try.prog 13 #[.agg cs.toArray] w (BoP (pgN p).isSome w) := by
  obtain ⟨sp, n, cap, rfl, hda, hS⟩ := id hM
  have b0 := ab w (.cells #[.slice sp n cap, .int .i64 p.da] 24)
  have hn := used_any p (w.alloc (.cells #[.slice sp n cap, .int .i64 p.da] 24)) (PgM.below (b0.mono hN) _ p hM) (by simp; omega)
  unfold DoP at hn
  clear hM hS
  cases h : pgN p with
  | none =>
    rw [h] at hn
    go_enter Try.func13, Try.ntmps13
    go_wp2_with (go_at_call 22; go_must (refine hn.mono ?_; rintro e w1 ⟨rfl, hb1⟩))
    go_ret
    exact ⟨rfl, b0.trans (hb1.mono b0.size)⟩
  | some k =>
    rw [h] at hn
    have hk : (0 : Int) ≤ ((4096 - k : Nat) : Int) := by omega
    replace hn : Calls Try.prog 22 #[.agg #[.slice sp n cap, .int .i64 p.da]] (w.alloc (.cells #[.slice sp n cap, .int .i64 p.da] 24)) fun e w' => e = .returned (.int .i64 ((4096 - k : Nat) : Int)) ∧ Below (w.alloc (.cells #[.slice sp n cap, .int .i64 p.da] 24)).heap.size (w.alloc (.cells #[.slice sp n cap, .int .i64 p.da] 24)) w' := hn
    generalize ((4096 - k : Nat) : Int) = z at *
    go_enter Try.func13, Try.ntmps13
    go_wp2_with (go_at_call 22; go_must (refine hn.mono ?_; rintro e w1 ⟨rfl, hb1⟩))
    go_ret
    exact ⟨rfl, b0.trans (hb1.mono b0.size)⟩
end Go.Proofs.Ytmljihggooaboaa
