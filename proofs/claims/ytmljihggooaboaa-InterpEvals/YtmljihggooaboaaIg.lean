/- Layer interp: which programs may be. -/
import Derived.Test.YtmljihggooaboaaIg0
import Derived.Handy
import Derived.BigQuiet
import Derived.BigRegion
namespace Go.Proofs.Ytmljihggooaboaa
open Go.RowKit
set_option maxRecDepth 100000
set_option linter.unusedVariables false
set_option linter.unusedSimpArgs false

theorem fnN_le : ∀ (l : List FuT) (ps : List Int) (n m : Nat), fnN l ps n = some m → m ≤ n
  | [], _, n, m, h => by cases h; omega
  | f :: r, ps, n, m, h => by
    unfold fnN at h
    split at h
    · cases h1 : fld (stN ps f.v 8) f.b n with
      | none => rw [h1] at h; cases h
      | some k => rw [h1] at h; exact Nat.le_trans (fnN_le r _ k m h) (fld_le (stN_le 8) _ _ _ h1)
    · cases h
theorem fnN_drop {l : List FuT} {j : Nat} {f : FuT} (h : l[j]? = some f) (k : Nat) : fnN (l.drop j) ((l.take j).map FuT.p) k = if 0 ≤ f.v ∧ f.v ≤ 64 ∧ 0 ≤ f.p ∧ f.p ≤ f.v then (fld (stN ((l.take j).map FuT.p) f.v 8) f.b k).bind (fnN (l.drop (j + 1)) ((l.take (j + 1)).map FuT.p)) else none := by
  obtain ⟨hj, rfl⟩ := List.getElem?_eq_some_iff.1 h
  rw [List.drop_eq_getElem_cons hj, fnN]
  rw [show (l.take (j + 1)).map FuT.p = (l.take j).map FuT.p ++ [l[j].p] by rw [List.take_succ_eq_append_getElem hj, List.map_append]; rfl]
set_option maxHeartbeats 2000000 in
theorem nodes_any {N : Nat} {cs : List Value} (p : PgT) (w : World) (hM : PgM N w cs p) (hN : N ≤ w.heap.size) :
    Calls Try.prog 25 #[.agg cs.toArray] w (CtP ((pgN p).map (4096 - ·)) w) := by
  obtain ⟨sp, n, cap, rfl, hda, hS⟩ := hM
  have b0 := ab w (.cells #[.slice sp n cap, .int .i64 p.da] 24)
  have A := Arr.new w 24 #[.slice sp n cap, .int .i64 p.da]
  have hbg := beg_any p (w.alloc (.cells #[.slice sp n cap, .int .i64 p.da] 24)) (hS.imp (b0.mono hN) (FuM.below (b0.mono hN))) (by simp; omega)
  unfold BoP at hbg
  cases hb : begB p with
  | false =>
    have e : pgN p = none := by unfold pgN; rw [hb, if_neg (by decide)]
    rw [e]
    rw [hb] at hbg
    clear hS hda
    go_enter Try.func25, Try.ntmps25
    go_wp2_with (go_at_call 33; go_must (refine hbg.mono ?_; rintro e w1 ⟨rfl, hb1⟩))
    go_ret2
    exact ⟨rfl, b0.trans (hb1.mono b0.size)⟩
  | true =>
    have e : pgN p = fnN p.fs [] 4096 := by unfold pgN; rw [hb, if_pos rfl]
    rw [e]
    rw [hb] at hbg
    have hlen := hS.len
    have hsm := hS.small
    obtain ⟨r, hr⟩ : ∃ r, r = fnN p.fs [] 4096 := ⟨_, rfl⟩
    rw [← hr]
    replace hr := hid hr
    go_enter Try.func25, Try.ntmps25
    go_upto_region 5 with (go_at_call 33; go_must (refine hbg.mono ?_; rintro e w1 ⟨rfl, hb1⟩; have A1 := A.bl hb1; have k0 := A1.cell 0))
    have B1 := b0.trans (hb1.mono b0.size)
    have hw1 : w.heap.size < w1.heap.size := A1.lt
    clear hbg hb
    go_loopw [4, 16] (fun a i wr => ∃ (j k : Nat), a = .int .i64 (k : Int) ∧ i = .int .i64 (j : Int) ∧ j ≤ n ∧ k ≤ 4096 ∧ Hid (r = fnN (p.fs.drop j) ((p.fs.take j).map FuT.p) k) ∧ Below w1.heap.size w1 wr)
      (fun _ i _ => n - (intOf i).toNat)
    case atStart => exact ⟨0, 4096, rfl, rfl, by omega, by omega, hr, Below.refl _ _⟩
    case round =>
      obtain ⟨j, k, rfl, rfl, hj, hk, hf, hbw⟩ := hrel
      have A2 := A1.bl hbw
      have B2 := B1.trans (hbw.mono B1.size)
      by_cases hlt : j < n
      · obtain ⟨f, ht⟩ : ∃ t, p.fs[j]? = some t := ⟨p.fs[j]'(by rw [← hlen.out]; exact hlt), List.getElem?_eq_getElem _⟩
        have hfd := fnN_drop ht k
        have hS2 := hS.imp (B2.mono hN) (FuM.below (B2.mono hN))
        obtain ⟨g, off, rfl, hg, hR⟩ := hS2.at0 (by omega)
        obtain ⟨cs, hrg, hM⟩ := hR j f ht
        obtain ⟨sq, m, cq, rfl, ⟨hfp, hfv⟩, hSb⟩ := hM
        have c0 := hrg 0 _ rfl
        have c1 := hrg 1 _ rfl
        have c2 := hrg 2 _ rfl
        simp only [Nat.add_zero] at c0
        have hlt' : (j : Int) < n := by omega
        have h0 : (0 : Int) ≤ j := by omega
        by_cases hcond : 0 ≤ f.v ∧ f.v ≤ 64 ∧ 0 ≤ f.p ∧ f.p ≤ f.v
        · rw [if_pos hcond] at hfd
          obtain ⟨d1, d2, d3, d4⟩ := hcond
          have n1 : ¬ f.v < 0 := by omega
          have n2 : ¬ 64 < f.v := by omega
          have n3 : ¬ f.p < 0 := by omega
          have n4 : ¬ f.v < f.p := by omega
          have hcj : j ≤ cap := by have := hS.le; omega
          have hcj' : (j : Int) ≤ cap := by omega
          have A3 := A2.alloc (.cells (fuC f.p f.v (.slice sq m cq)).toArray 52)
          have F3 := Arr.new wr 52 (fuC f.p f.v (.slice sq m cq)).toArray
          have p0 := A3.cell 0
          have p1 := F3.cell 1
          have p2 := fun o => (A3.alloc o).cell 0
          have p3 := fun o => (F3.alloc o).cell 1
          have hB3 : Below w1.heap.size w1 (wr.alloc (.cells (fuC f.p f.v (.slice sq m cq)).toArray 52)) := hbw.alloc hbw.size _
          clear hR hrg
          unfold fuC at *
          go_upto_region 9 with fail
          go_region
          have hNw : N ≤ wr.heap.size := by have := B2.size; omega
          have hW4 : Below wr.heap.size wr ((wr.alloc (.cells #[.int .i64 f.p, .int .i64 f.v, .slice sq m cq] 52)).alloc (.cells #[.slice (some ⟨g, off, none⟩) j cap, .int .i64 f.v] 102)).drew := dw1 ((ab wr _).alloc (by simp) _)
          have S4 : Arr ((wr.alloc (.cells #[.int .i64 f.p, .int .i64 f.v, .slice sq m cq] 52)).alloc (.cells #[.slice (some ⟨g, off, none⟩) j cap, .int .i64 f.v] 102)).drew (wr.heap.size + 1) 102 #[.slice (some ⟨g, off, none⟩) j cap, .int .i64 f.v] := by
            have h := (Arr.new (wr.alloc (.cells #[.int .i64 f.p, .int .i64 f.v, .slice sq m cq] 52)) 102 #[.slice (some ⟨g, off, none⟩) j cap, .int .i64 f.v]).drew
            simp only [World.size_alloc] at h
            exact h
          have F4 := (F3.alloc (.cells #[.slice (some ⟨g, off, none⟩) j cap, .int .i64 f.v] 102)).drew
          have hB4 : Below w1.heap.size w1 ((wr.alloc (.cells #[.int .i64 f.p, .int .i64 f.v, .slice sq m cq] 52)).alloc (.cells #[.slice (some ⟨g, off, none⟩) j cap, .int .i64 f.v] 102)).drew := hbw.trans (hW4.mono hbw.size)
          have hst := stmts34 (stmt_any (N := N) (es := some ⟨g, off, none⟩) (en := j) (ec := cap) (fs := p.fs.take j) (vs := f.v) 8 (by omega)) _ (hSb.imp (hW4.mono hNw) (StM.below (hW4.mono hNw) 8)) (by have := hW4.size; omega) ((hS2.take (by omega)).imp (hW4.mono hNw) (FuM.below (hW4.mono hNw))) _ _ k rfl rfl hk
          generalize ((wr.alloc (.cells #[.int .i64 f.p, .int .i64 f.v, .slice sq m cq] 52)).alloc (.cells #[.slice (some ⟨g, off, none⟩) j cap, .int .i64 f.v] 102)).drew = W4 at *
          have q0 := S4.cell 0
          have q1 := S4.cell 1
          have q2 := F4.cell 2
          unfold CtP at hst
          clear p0 p1 p2 p3 A3 F3 hS hS2 hSb hB3 S4 F4 hW4 c0 c1 c2 ht
          cases hx : fld (stN ((p.fs.take j).map FuT.p) f.v 8) f.b k with
          | none =>
            rw [hx] at hst hfd
            have hrn : Hid (r = none) := hid (hf.out.trans hfd)
            clear hx hfd hf
            go_wp2_with (go_at_call 34; go_must (refine hst.mono ?_; rintro e w5 ⟨rfl, hb5⟩))
            go_ret2
            rw [hrn.out]
            have B4 := B1.trans (hB4.mono B1.size)
            exact ⟨rfl, B4.trans (hb5.mono B4.size)⟩
          | some k' =>
            have hk' : k' ≤ k := fld_le (stN_le 8) _ _ _ hx
            rw [hx] at hst hfd
            have hrn : Hid (r = fnN (p.fs.drop (j + 1)) ((p.fs.take (j + 1)).map FuT.p) k') := hid (hf.out.trans hfd)
            clear hx hfd hf
            go_wp2_with (go_at_call 34; go_must (refine hst.mono ?_; rintro e w5 ⟨rfl, hb5⟩))
            go_roundw
            case rel => exact ⟨j + 1, k', rfl, by go_num, by omega, by omega, hrn, hB4.trans (hb5.mono hB4.size)⟩
            case measure => simp [intOf]; omega
        · rw [if_neg hcond] at hfd
          have hrn : Hid (r = none) := hid (hf.out.trans hfd)
          have hc2 : Hid (¬ (0 ≤ f.v ∧ f.v ≤ 64 ∧ 0 ≤ f.p ∧ f.p ≤ f.v)) := hid hcond
          have hB3 := fun o => B2.alloc B2.size o
          clear hR hrg hfd hf hcond hS hS2 hSb ht
          unfold fuC at *
          go_upto_region 7 with fail
          by_cases d1 : f.v < 0
          · go_wp2_with fail
            go_ret2
            rw [hrn.out]
            exact ⟨rfl, hB3 _⟩
          by_cases d2 : 64 < f.v
          · go_wp2_with fail
            go_ret2
            rw [hrn.out]
            exact ⟨rfl, hB3 _⟩
          by_cases d3 : f.p < 0
          · go_wp2_with fail
            go_ret2
            rw [hrn.out]
            exact ⟨rfl, hB3 _⟩
          have d4 : f.v < f.p := by have := hc2.out; omega
          go_wp2_with fail
          go_ret2
          rw [hrn.out]
          exact ⟨rfl, hB3 _⟩
      · obtain rfl : j = n := by omega
        have hrn : Hid (r = some k) := hid (by rw [hf.out, hlen.out, List.drop_length]; rfl)
        have hsub : IntKind.i64.wrap (4096 - (k : Int)) = ((4096 - k : Nat) : Int) := by rw [IntKind.wrap_i64]; omega
        clear hS hf hlen
        go_wp2_with fail
        go_ret2
        rw [hrn.out]
        exact ⟨rfl, B2⟩
theorem may_any {N : Nat} {cs : List Value} (p : PgT) (w : World) (hM : PgM N w cs p) (hN : N ≤ w.heap.size) :
    Calls Try.prog 16 #[.agg cs.toArray] w (BoP (pgN p).isSome w) := by
  obtain ⟨sp, n, cap, rfl, hda, hS⟩ := id hM
  have b0 := ab w (.cells #[.slice sp n cap, .int .i64 p.da] 24)
  have hn := nodes_any p (w.alloc (.cells #[.slice sp n cap, .int .i64 p.da] 24)) (PgM.below (b0.mono hN) _ p hM) (by simp; omega)
  unfold CtP at hn
  rw [show ((pgN p).map (4096 - ·)).isSome = (pgN p).isSome by cases pgN p <;> rfl] at hn
  generalize (pgN p).isSome = r at *
  clear hM hS
  go_enter Try.func16, Try.ntmps16
  go_wp2_with (go_at_call 25; go_must (refine hn.mono ?_; rintro e w1 ⟨rfl, hb1⟩))
  go_ret
  exact ⟨rfl, b0.trans (hb1.mono b0.size)⟩
end Go.Proofs.Ytmljihggooaboaa
