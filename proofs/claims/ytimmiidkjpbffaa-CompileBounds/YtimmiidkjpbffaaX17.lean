/- Kl, Km, Kn. -/
import Derived.Test.YtimmiidkjpbffaaX16
import Derived.Handy
import Derived.BigQuiet
import Derived.BigRegion
import Derived.Great.BuildSlice
import Derived.Test.YtimmiidkjpbffaaX06
/- Layer compile: a function that others call. -/
namespace Go.Proofs.Ytimmiidkjpbffaa
open Go.RowKit
set_option maxRecDepth 100000
set_option linter.unusedVariables false
set_option linter.unusedSimpArgs false

variable {P : Nat → Prop} {q : KQ} {s : KS} {N : Nat}
theorem kZero_le (E : KE) (f : Int) : ∀ (n : Nat) (v : Int) (s : KS), KLe s (kZero E f n v s)
  | 0, v, s => KLe.refl s
  | n + 1, v, s => (kto_le _ _ _).trans (kZero_le E f n (v + 1) _)
theorem kCalled_le (E : KE) (f : Int) (g : FuT) (s : KS) : KLe s (kCalled E f g s) := (((((khere_le _ _).trans (kto_le _ _ _)).trans (kZero_le _ _ _ _ _)).trans (kBody_le _ _ _ _)).trans (kto_le _ _ _)).trans (kput_le _ _)
theorem KF.get {w : World} {f0 l0 : Int} {j : Nat} {x : Int} (h : KK N P (q.at f0 l0) s w) (hx : q.E.fr[j]? = some x) : ∃ gf cap, w.cell? ⟨q.g, 6, none⟩ = some (.slice (some ⟨gf, 0, none⟩) q.E.fr.length cap) ∧ w.cell? ⟨gf, j, none⟩ = some (.int .i64 x) := by
  obtain ⟨cv, gv, hB⟩ := h.b
  obtain ⟨gf, cap, h1, -, -, h4⟩ := h.f
  have c6 := hB.c6
  rw [show (q.at f0 l0).fv = q.fv from rfl, show q.fv = _ from h1] at c6
  exact ⟨gf, cap, c6, h4 j x hx⟩
set_option maxHeartbeats 4000000 in
theorem called_any {f0 l0 : Int} {j : Nat} {ft : FuT} (w : World) (hK : KK N P (q.at f0 l0) s w) (hp : PF N q w) (hj : q.E.fs[j]? = some ft) (h0 : 0 ≤ s.nx) (hb : (kCalled q.E j ft s).code.length ≤ 1000000) (hn : (kCalled q.E j ft s).nx ≤ 1000000) :
    Calls Try.prog 43 #[.pointer (some ⟨q.g, 0, none⟩), .int .i64 j] w (KV N P q (kCalled q.E j ft s) w) := by
  have hjl := (List.getElem?_eq_some_iff.1 hj).1
  have hfr : j < q.E.fr.length := by rw [hp.l]; exact hjl
  obtain ⟨x, hx⟩ : ∃ x, q.E.fr[j]? = some x := ⟨_, List.getElem?_eq_getElem hfr⟩
  have hxr := hp.r j x hx
  have hgx : q.E.fr.getD ((j : Int)).toNat 0 = x := by rw [List.getD_eq_getElem?_getD, show ((j : Int)).toNat = j by omega, hx]; rfl
  obtain ⟨⟨v0, v1, p0, p1⟩, -⟩ := hp.o j ft hj
  obtain ⟨sp, k, cap, hsv, hS⟩ := hp.m
  have hkl := hS.len.out
  obtain ⟨g, off, hsp, hg, hR⟩ := hS.at0 (by omega)
  subst hsp
  obtain ⟨cs, hrg, sb, mb, cb, hcs, -, hSB⟩ := hR j ft hj
  subst hcs
  obtain ⟨pp, hpp⟩ : ∃ n : Nat, ft.p = n := ⟨ft.p.toNat, by omega⟩
  obtain ⟨vv, hvv⟩ : ∃ n : Nat, ft.v = n := ⟨ft.v.toNat, by omega⟩
  have e6 : kCalled q.E j ft s = (kSlot 17 15 x (kBody q.E j ft.b (kZero q.E j (vv - pp) pp (kSlot 18 15 x (s.here j))))).put [⟨22, 15, 0, 0, 0⟩] := by
    unfold kCalled
    rw [hgx, hpp, hvv, show ((vv : Int) - (pp : Int)).toNat = vv - pp by omega]
  rw [e6] at hb hn ⊢
  clear e6
  obtain ⟨s2, hs2⟩ : ∃ y, y = kSlot 18 15 x (s.here j) := ⟨_, rfl⟩
  obtain ⟨s3, hs3⟩ : ∃ y, y = kZero q.E j (vv - pp) pp s2 := ⟨_, rfl⟩
  obtain ⟨s4, hs4⟩ : ∃ y, y = kBody q.E j ft.b s3 := ⟨_, rfl⟩
  rw [← hs2, ← hs3, ← hs4] at hb hn ⊢
  have hl5 : s4.code.length + 2 ≤ 1000000 := by simpa [kSlot, KS.to, KS.put] using hb
  have hn4 : s4.nx ≤ 1000000 := by simpa [kSlot, KS.to, KS.put] using hn
  have le4 := kBody_le q.E j ft.b s3
  rw [← hs4] at le4
  have le3 := kZero_le q.E j (vv - pp) pp s2
  rw [← hs3] at le3
  have hl2 : s2.code.length ≤ 1000000 := by have := le3.1; have := le4.1; omega
  have hl3 : s3.code.length ≤ 1000000 := by have := le4.1; omega
  have hl1 : s.code.length + 1 ≤ 1000000 := by rw [hs2] at hl2; simpa [kSlot, KS.to, KS.here] using hl2
  have h02 : 0 ≤ s2.nx := by rw [hs2]; exact h0
  have h03 : 0 ≤ s3.nx := Int.le_trans h02 le3.2
  obtain ⟨o1, ho1⟩ : ∃ o1, o1 = Obj.cells #[.int .i64 pp, .int .i64 vv, .slice sb mb cb] 85 := ⟨_, rfl⟩
  have hK1 := hK.al o1
  have hfin : Hid (∀ (f1 l1 : Int) (s' : KS) (w' : World), KK N (fun k => P k ∧ k ≠ w.heap.size) (q.at f1 l1) s' w' → Ch (fun k => P k ∧ k ≠ w.heap.size) (w.alloc o1) w' → KK N P (q.at f1 l1) s' w' ∧ Ch P w w') := hid fun f1 l1 s' w' h1 h2 => by
    have h3 : Ch P w w' := ((Ch.refl P w).al o1).trans (h2.mono fun k _ h => h.1)
    obtain ⟨cv, gv, hB⟩ := h1.b
    obtain ⟨gf, cp, f1', f2, f3, f4⟩ := hK.f
    exact ⟨⟨⟨cv, gv, hB.wk fun k e => e.1⟩, ⟨gf, cp, f1', Nat.lt_of_lt_of_le f2 h3.size, f3, fun i y hy => (World.cell?_of_block (a := ⟨gf, i, none⟩) (h3.block gf f2 f3)).trans (f4 i y hy)⟩, fun k hk => ⟨Nat.lt_of_lt_of_le (hK.n k hk).1 h3.size, (hK.n k hk).2⟩⟩, h3⟩
  have A0 : Arr (w.alloc o1) w.heap.size 85 #[.int .i64 pp, .int .i64 vv, .slice sb mb cb] := by rw [ho1]; exact Arr.new w 85 _
  have hbw : Below N w (w.alloc o1) := ((Ch.refl P w).al o1).bl hK.n
  have k0 : w.cell? ⟨q.g, 0, none⟩ = some (.slice (some ⟨g, off, none⟩) k cap) := by
    obtain ⟨cv, gv, hB⟩ := hK.b
    have h0 := hB.c0
    rwa [show (q.at f0 l0).sv = q.sv from rfl, hsv] at h0
  rw [hpp, hvv] at hrg
  have r0 := hrg 0 _ rfl
  have r1 := hrg 1 _ rfl
  have r2 := hrg 2 _ rfl
  simp only [Nat.add_zero] at r0
  have hbel : Hid (∀ u : World, Ch (fun k => P k ∧ k ≠ w.heap.size) (w.alloc o1) u → Below N w u) := hid fun u hu => hbw.trans (hK1.bel hu)
  generalize hPP : (fun k => P k ∧ k ≠ w.heap.size) = P' at *
  have hpx : ¬ P' w.heap.size := by rw [← hPP]; exact fun e => e.2 rfl
  have ctH : Hid (∀ u : World, KK N P' (q.at f0 l0) s u → Calls Try.prog 64 #[.pointer (some ⟨q.g, 0, none⟩), .int .i64 j] u (KZ N P' (q.at f0 l0) (s.here j) u)) := hid fun u hu => here_k u hu (by omega)
  have ctS : Hid (∀ u : World, KK N P' (q.at f0 l0) (s.here j) u → Calls Try.prog 65 #[.pointer (some ⟨q.g, 0, none⟩), .int .u8 18, .int .u8 15, .int .i64 x] u (KZ N P' (q.at f0 l0) s2 u)) := hid fun u hu => by rw [hs2]; exact slot_any u hu (by simpa [KS.here] using hl1) (by omega)
  have ctB : Hid (∀ u : World, KK N P' (q.at f0 l0) s3 u → Below N w u → Calls Try.prog 63 #[.pointer (some ⟨q.g, 0, none⟩), .int .i64 j] u (KV N P' q s4 u)) := hid fun u hu hbu => by rw [hs4]; exact body_any u hu (hp.bel hbu) hj h03 (by rw [← hs4]; omega) (by rw [← hs4]; exact hn4)
  have ctT : Hid (∀ (f1 l1 : Int) (u : World), KK N P' (q.at f1 l1) s4 u → Calls Try.prog 65 #[.pointer (some ⟨q.g, 0, none⟩), .int .u8 17, .int .u8 15, .int .i64 x] u (KZ N P' (q.at f1 l1) (kSlot 17 15 x s4) u)) := hid fun f1 l1 u hu => slot_any u hu (by omega) (by omega)
  have ctP : Hid (∀ (f1 l1 : Int) (u : World), KK N P' (q.at f1 l1) (kSlot 17 15 x s4) u → Calls Try.prog 29 #[.slice (some ⟨u.heap.size, 0, none⟩) 1 1, .pointer (some ⟨q.gc, 0, none⟩)] (u.alloc (.cells #[.int .u8 22, .int .u8 15, .int .u8 0, .int .u8 0, .int .u32 0] 108)) fun e w' => e = .returned (.int .i64 (((kSlot 17 15 x s4).code.length : Int) + 1)) ∧ KK N P' (q.at f1 l1) ((kSlot 17 15 x s4).put [⟨22, 15, 0, 0, 0⟩]) w' ∧ Ch P' u w') := hid fun f1 l1 u hu => put_one u hu (by simpa [kSlot, KS.to] using hl5)
  have hgt : Hid (∀ (f1 l1 : Int) (s' : KS) (u : World), KK N P' (q.at f1 l1) s' u → ∃ gf cap, u.cell? ⟨q.g, 6, none⟩ = some (.slice (some ⟨gf, 0, none⟩) q.E.fr.length cap) ∧ u.cell? ⟨gf, j, none⟩ = some (.int .i64 x)) := hid fun f1 l1 s' u hu => KF.get hu hx
  have hg2 : Hid (∀ (f1 l1 : Int) (s' : KS) (u : World), KK N P' (q.at f1 l1) s' u → u.cell? ⟨q.g, 2, none⟩ = some (.func (Fn.func 29) #[] #[.pointer (some ⟨q.gc, 0, none⟩)])) := hid fun f1 l1 s' u hu => by
    obtain ⟨cv, gv, hB⟩ := hu.b
    exact hB.c2
  have hom : Hid (∀ (s' : KS) (i : Nat) (u : World), i < vv → KK N P' (q.at f0 l0) s' u → s'.code.length + 1 ≤ 1000000 → (Calls Try.prog 66 #[.pointer (some ⟨q.g, 0, none⟩), .int .i64 j, .int .i64 i] u fun e w' => e = .returned (.int .i64 (kHome q.E j i)) ∧ w' = u) ∧ Calls Try.prog 65 #[.pointer (some ⟨q.g, 0, none⟩), .int .u8 18, .int .u8 0, .int .i64 (kHome q.E j i)] u (KZ N P' (q.at f0 l0) (kSlot 18 0 (kHome q.E j i) s') u)) := hid fun s' i u hi hu hl =>
    ⟨home_any (q := q.at f0 l0) u hu rfl hx hxr ⟨by omega, by omega⟩, slot_any (q := q.at f0 l0) u hu hl ((hp.kg (q := q) (f := (j : Int)) (lv := 0) rfl hjl).home rfl hfr ⟨by omega, by omega⟩)⟩
  have hjk : (j : Int) < k := by omega
  have hjk' : j < k := by omega
  have hjf : (j : Int) < q.E.fr.length := by omega
  have hjf' : j < q.E.fr.length := hfr
  have hj0 : (0 : Int) ≤ j := by omega
  have hlF := hid hl3
  have hs3' := hid hs3
  have hpv : pp ≤ vv := by omega
  have hvv6 : vv ≤ 64 := by omega
  subst ho1
  clear hPP hS hR hSB hrg hsv hs2 hs3 hs4 hb hn hl1 hl2 hl3 hl5 hn4 h02 h03 h0 le3 le4 hp hj hx hxr hgx v0 v1 p0 p1 hpp hvv hfr
  replace hK := hid hK
  unfold fuC at *
  generalize hfl : q.E.fr.length = nf at *
  clear hfl
  go_enter Try.func43, Try.ntmps43
  go_upto_region 1 with fail
  generalize hV : w.alloc (.cells #[.int .i64 pp, .int .i64 vv, .slice sb mb cb] 85) = V at *
  clear hV k0 r0 r1 r2
  have ct1 := hid (ctH.out V hK1)
  go_upto_region 2 with (go_at_call 64; go_must (refine ct1.out.mono ?_; rintro e w1 ⟨rfl, hK2, hc2⟩))
  obtain ⟨gf1, cf1, y6, yx⟩ := hgt.out _ _ _ _ hK2
  have A1 := hc2.arr A0 hpx
  have a10 := A1.cell 0
  have ct2 := hid (ctS.out w1 hK2)
  go_upto_region 3 with (go_at_call 65; go_must (refine ct2.out.mono ?_; rintro e w2 ⟨rfl, hK3, hc3⟩))
  have A2 := hc3.arr A1 hpx
  have a20 := A2.cell 0
  have hc23 := hc2.trans hc3
  clear y6 yx a10 ct1
  go_upto_region 4 with fail
  clear a20
  go_loopw [5] (fun i wr => ∃ (i' : Nat) (sj : KS), i = .int .i64 (i' : Int) ∧ pp ≤ i' ∧ i' ≤ vv ∧ Hid (kZero q.E j (vv - i') i' sj = s3) ∧ KK N P' (q.at f0 l0) sj wr ∧ Ch P' V wr)
    (fun i _ => vv - (intOf i).toNat)
  case atStart => exact ⟨pp, s2, rfl, by omega, hpv, hid hs3'.out.symm, hK3, hc23⟩
  case round =>
    obtain ⟨i', sj, rfl, hi1, hi2, hz, hKj, hcj⟩ := hrel
    have Aj := hcj.arr A0 hpx
    have aj1 := Aj.cell 1
    by_cases hlt : i' < vv
    · have hz2 : Hid (kZero q.E j (vv - (i' + 1)) ((i' + 1 : Nat) : Int) (kSlot 18 0 (kHome q.E j i') sj) = s3) := hid (by
        have h := hz.out
        rw [show vv - i' = vv - (i' + 1) + 1 by omega, kZero] at h
        rw [← h]; norm_cast)
      have hle := kZero_le q.E j (vv - (i' + 1)) ((i' + 1 : Nat) : Int) (kSlot 18 0 (kHome q.E j i') sj)
      rw [hz2.out] at hle
      have hlj : sj.code.length + 1 ≤ 1000000 := Nat.le_trans (by simpa [kSlot, KS.to] using hle.1) hlF.out
      obtain ⟨t1, t2⟩ := hom.out sj i' wr hlt hKj hlj
      replace t1 := hid t1
      replace t2 := hid t2
      have hlt' : (i' : Int) < vv := by omega
      clear hle hlj hz
      go_wp2_with (first | (go_at_call 66; go_must (refine t1.out.mono ?_; rintro e w3 ⟨rfl, rfl⟩)) | (go_at_call 65; go_must (refine t2.out.mono ?_; rintro e w4 ⟨rfl, hK5, hc5⟩)))
      go_roundw
      case rel => exact ⟨i' + 1, _, by go_num, by omega, by omega, hz2, hK5, hcj.trans hc5⟩
      case measure => simp [intOf]; omega
    · obtain rfl : i' = vv := by omega
      have hsf : sj = s3 := by have h := hz.out; rw [Nat.sub_self] at h; exact h
      subst hsf
      have hlt' : ¬ (i' : Int) < i' := by omega
      have hbj := hbel.out wr hcj
      have ct3 := hid (ctB.out wr hKj hbj)
      clear hz hs3' hlF
      go_upto_region 8 with (go_at_call 63; go_must (refine ct3.out.mono ?_; rintro e w5 ⟨rfl, ⟨f1, l1, hK5⟩, hc5⟩))
      obtain ⟨gf1, cf1, y6, yx⟩ := hgt.out _ _ _ _ hK5
      have ct4 := hid (ctT.out _ _ w5 hK5)
      go_upto_region 9 with (go_at_call 65; go_must (refine ct4.out.mono ?_; rintro e w6 ⟨rfl, hK6, hc6⟩))
      have y2 := hg2.out _ _ _ _ hK6
      have ct5 := hid (ctP.out _ _ w6 hK6)
      go_wp2_with (go_at_call 29; go_must (refine ct5.out.mono ?_; rintro e w7 ⟨rfl, hK7, hc7⟩))
      obtain ⟨hK8, hc8⟩ := hfin.out _ _ _ _ hK7 (((hcj.trans hc5).trans hc6).trans hc7)
      go_end0
      exact ⟨rfl, ⟨_, _, hK8⟩, hc8⟩
end Go.Proofs.Ytimmiidkjpbffaa
/- Layer compile: all functions; how great a memory is. -/
namespace Go.Proofs.Ytimmiidkjpbffaa
open Go.RowKit
set_option maxRecDepth 100000
set_option linter.unusedVariables false
set_option linter.unusedSimpArgs false

variable {P : Nat → Prop} {q : KQ} {s : KS} {N : Nat}
theorem kBegin_le (E : KE) (f : Int) (l : List (StT 8)) (s : KS) : KLe s (kBegin E f l s) := ((kto_le _ _ _).trans (kBody_le _ _ _ _)).trans (kput_le _ _)
theorem kFns_le (E : KE) : ∀ (l : List FuT) (f : Int) (s : KS), KLe s (kFns E l f s)
  | [], f, s => KLe.refl s
  | [_], f, s => KLe.refl s
  | g :: h :: r, f, s => (kCalled_le E f g s).trans (kFns_le E (h :: r) (f + 1) _)
theorem kFns_drop {E : KE} {l : List FuT} {j : Nat} {a : FuT} (h : l[j]? = some a) (h2 : j + 1 < l.length) (s : KS) : kFns E (l.drop j) j s = kFns E (l.drop (j + 1)) ((j + 1 : Nat) : Int) (kCalled E j a s) := by
  obtain ⟨hj, rfl⟩ := List.getElem?_eq_some_iff.1 h
  rw [List.drop_eq_getElem_cons hj, List.drop_eq_getElem_cons h2, kFns]
  norm_cast
set_option maxHeartbeats 2000000 in
theorem begin_any {f0 l0 : Int} {j : Nat} {ft : FuT} (w : World) (hK : KK N P (q.at f0 l0) s w) (hp : PF N q w) (hj : q.E.fs[j]? = some ft) (h0 : 0 ≤ s.nx) (hb : (kBegin q.E j ft.b s).code.length ≤ 1000000) (hn : (kBegin q.E j ft.b s).nx ≤ 1000000) :
    Calls Try.prog 42 #[.pointer (some ⟨q.g, 0, none⟩), .int .i64 j] w (KV N P q (kBegin q.E j ft.b s) w) := by
  obtain ⟨s2, hs2⟩ : ∃ y, y = kBody q.E j ft.b (s.to 33 ⟨2, 14, 0, 0, 0⟩) := ⟨_, rfl⟩
  have e : kBegin q.E j ft.b s = s2.put [⟨1, 0, 0, 0, 0⟩] := by rw [hs2]; rfl
  rw [e] at hb hn ⊢
  have hl2 : s2.code.length + 1 ≤ 1000000 := by simpa [KS.put] using hb
  have hn2 : s2.nx ≤ 1000000 := hn
  have le2 := kBody_le q.E j ft.b (s.to 33 ⟨2, 14, 0, 0, 0⟩)
  rw [← hs2] at le2
  have hl1 : s.code.length + 1 ≤ 1000000 := by have := le2.1; simp [KS.to] at this; omega
  have ct1 := hid (putTo_k (l := 33) (o := 2) (a := 14) (b := 0) (c := 0) (i := 0) w hK hl1)
  have ct2 : Hid (∀ u : World, KK N P (q.at f0 l0) (s.to 33 ⟨2, 14, 0, 0, 0⟩) u → Below N w u → Calls Try.prog 63 #[.pointer (some ⟨q.g, 0, none⟩), .int .i64 j] u (KV N P q s2 u)) := hid fun u hu hbu => by rw [hs2]; exact body_any u hu (hp.bel hbu) hj h0 (by rw [← hs2]; omega) (by rw [← hs2]; exact hn2)
  have ct3 : Hid (∀ (f1 l1 : Int) (u : World), KK N P (q.at f1 l1) s2 u → Calls Try.prog 29 #[.slice (some ⟨u.heap.size, 0, none⟩) 1 1, .pointer (some ⟨q.gc, 0, none⟩)] (u.alloc (.cells #[.int .u8 1, .int .u8 0, .int .u8 0, .int .u8 0, .int .u32 0] 108)) fun e w' => e = .returned (.int .i64 ((s2.code.length : Int) + 1)) ∧ KK N P (q.at f1 l1) (s2.put [⟨1, 0, 0, 0, 0⟩]) w' ∧ Ch P u w') := hid fun f1 l1 u hu => put_one u hu hl2
  have hg2 : Hid (∀ (f1 l1 : Int) (s' : KS) (u : World), KK N P (q.at f1 l1) s' u → u.cell? ⟨q.g, 2, none⟩ = some (.func (Fn.func 29) #[] #[.pointer (some ⟨q.gc, 0, none⟩)])) := hid fun f1 l1 s' u hu => by
    obtain ⟨cv, gv, hB⟩ := hu.b
    exact hB.c2
  have hbel : Hid (∀ u : World, Ch P w u → Below N w u) := hid fun u hu => hK.bel hu
  clear e hs2 hb hn hl2 hn2 le2 hl1 h0 hj hp
  replace hK := hid hK
  go_enter Try.func42, Try.ntmps42
  go_upto_region 1 with (go_at_call 62; go_must (refine ct1.out.mono ?_; rintro e w1 ⟨rfl, hK1, hc1⟩))
  have ct2' := hid (ct2.out w1 hK1 (hbel.out _ hc1))
  go_upto_region 2 with (go_at_call 63; go_must (refine ct2'.out.mono ?_; rintro e w2 ⟨rfl, ⟨f1, l1, hK2⟩, hc2⟩))
  have y2 := hg2.out _ _ _ _ hK2
  have ct3' := hid (ct3.out _ _ w2 hK2)
  go_wp2_with (go_at_call 29; go_must (refine ct3'.out.mono ?_; rintro e w3 ⟨rfl, hK3, hc3⟩))
  go_end0
  exact ⟨rfl, ⟨_, _, hK3⟩, (hc1.trans hc2).trans hc3⟩
set_option maxHeartbeats 2000000 in
theorem program_any {f0 l0 : Int} {ft : FuT} (w : World) (hK : KK N P (q.at f0 l0) s w) (hp : PF N q w) (hlast : q.E.fs.getLast? = some ft) (h32 : q.E.fs.length ≤ 32) (h0 : 0 ≤ s.nx) (hb : (kFns q.E q.E.fs 0 (kBegin q.E ((q.E.fs.length : Int) - 1) ft.b s)).code.length ≤ 1000000) (hn : (kFns q.E q.E.fs 0 (kBegin q.E ((q.E.fs.length : Int) - 1) ft.b s)).nx ≤ 1000000) :
    Calls Try.prog 30 #[.pointer (some ⟨q.g, 0, none⟩)] w (KV N P q (kFns q.E q.E.fs 0 (kBegin q.E ((q.E.fs.length : Int) - 1) ft.b s)) w) := by
  obtain ⟨la, hla⟩ : ∃ n, q.E.fs.length = n + 1 := by
    cases h : q.E.fs with
    | nil => rw [h] at hlast; cases hlast
    | cons a r => exact ⟨r.length, rfl⟩
  have hj : q.E.fs[la]? = some ft := by rw [List.getLast?_eq_getElem?, hla] at hlast; exact hlast
  rw [hla] at hb hn ⊢
  rw [show (((la + 1 : Nat) : Int) - 1) = (la : Int) by omega] at hb hn ⊢
  obtain ⟨s1, hs1⟩ : ∃ y, y = kBegin q.E la ft.b s := ⟨_, rfl⟩
  rw [← hs1] at hb hn ⊢
  obtain ⟨fin, hF⟩ : ∃ y, y = kFns q.E q.E.fs 0 s1 := ⟨_, rfl⟩
  rw [← hF] at hb hn ⊢
  have le1 := kFns_le q.E q.E.fs 0 s1
  rw [← hF] at le1
  have le0 := kBegin_le q.E la ft.b s
  rw [← hs1] at le0
  have h01 : 0 ≤ s1.nx := Int.le_trans h0 le0.2
  have ct1 : Hid (Calls Try.prog 42 #[.pointer (some ⟨q.g, 0, none⟩), .int .i64 la] w (KV N P q s1 w)) := hid (by rw [hs1]; exact begin_any w hK hp hj h0 (by rw [← hs1]; exact Nat.le_trans le1.1 hb) (by rw [← hs1]; exact Int.le_trans le1.2 hn))
  have ct2 : Hid (∀ (f1 l1 : Int) (s' : KS) (i : Nat) (u : World), KK N P (q.at f1 l1) s' u → Below N w u → i < la → 0 ≤ s'.nx → kFns q.E (q.E.fs.drop i) i s' = fin → ∃ s2 : KS, Calls Try.prog 43 #[.pointer (some ⟨q.g, 0, none⟩), .int .i64 i] u (KV N P q s2 u) ∧ 0 ≤ s2.nx ∧ kFns q.E (q.E.fs.drop (i + 1)) ((i + 1 : Nat) : Int) s2 = fin) := hid fun f1 l1 s' i u hu hbu hi h0' he => by
    have hi2 : q.E.fs[i]? = some (q.E.fs[i]'(by omega)) := List.getElem?_eq_getElem _
    rw [kFns_drop hi2 (by omega)] at he
    have le := kFns_le q.E (q.E.fs.drop (i + 1)) ((i + 1 : Nat) : Int) (kCalled q.E i (q.E.fs[i]'(by omega)) s')
    rw [he] at le
    exact ⟨_, called_any u hu (hp.bel hbu) hi2 h0' (Nat.le_trans le.1 hb) (Int.le_trans le.2 hn), Int.le_trans h0' (kCalled_le _ _ _ _).2, he⟩
  obtain ⟨sp, k, cap, hsv, hS⟩ := hp.m
  have hkl := hS.len.out
  have hkk : k = la + 1 := by rw [hkl, hla]
  subst hkk
  have k0 : w.cell? ⟨q.g, 0, none⟩ = some (.slice sp (la + 1) cap) := by
    obtain ⟨cv, gv, hB⟩ := hK.b
    have h0 := hB.c0
    rwa [show (q.at f0 l0).sv = q.sv from rfl, hsv] at h0
  have hend : Hid (∀ s' : KS, kFns q.E (q.E.fs.drop la) la s' = s') := hid fun s' => by
    have : q.E.fs.drop la = [ft] := by
      obtain ⟨hl, rfl⟩ := List.getElem?_eq_some_iff.1 hj
      rw [List.drop_eq_getElem_cons hl, List.drop_eq_nil_of_le (by omega)]
    rw [this]; rfl
  have hbel : Hid (∀ u : World, Ch P w u → Below N w u) := hid fun u hu => hK.bel hu
  have hw1 : IntKind.i64.wrap (((la + 1 : Nat) : Int) - 1) = la := by rw [IntKind.wrap_i64]; omega
  have hw2 : IntKind.i64.wrap ((la : Int) + 1 - 1) = la := by rw [IntKind.wrap_i64]; omega
  have hw3 : IntKind.i64.wrap (la : Int) = la := by rw [IntKind.wrap_i64]; omega
  have hla31 : la ≤ 31 := by omega
  replace hF := hid hF
  clear hs1 le1 le0 hb hn hj hlast hla hS hsv hkl hp h0 h32
  replace hK := hid hK
  replace h01 := hid h01
  go_enter Try.func30, Try.ntmps30
  go_upto_region 2 with (go_at_call 42; go_must (refine ct1.out.mono ?_; rintro e w1 ⟨rfl, ⟨f1, l1, hK1⟩, hc1⟩))
  clear k0
  go_upto_region 3 with fail
  go_loopw [15] (fun i wr => ∃ (j : Nat) (sj : KS) (f2 l2 : Int), i = .int .i64 (j : Int) ∧ j ≤ la ∧ Hid (kFns q.E (q.E.fs.drop j) j sj = fin) ∧ Hid (0 ≤ sj.nx) ∧ KK N P (q.at f2 l2) sj wr ∧ Ch P w wr)
    (fun i _ => la - (intOf i).toNat)
  case atStart => exact ⟨0, s1, f1, l1, rfl, by omega, hid (by rw [List.drop_zero, hF.out]; rfl), h01, hK1, hc1⟩
  case round =>
    obtain ⟨j, sj, f2, l2, rfl, hj, hz, h0j, hKj, hcj⟩ := hrel
    by_cases hlt : j < la
    · obtain ⟨s2, hc, h02, hz2⟩ := ct2.out f2 l2 sj j wr hKj (hbel.out _ hcj) hlt h0j.out hz.out
      replace hc := hid hc
      replace h02 := hid h02
      replace hz2 := hid hz2
      have hlt' : (j : Int) < la := by omega
      clear hz
      go_wp2_with (go_at_call 43; go_must (refine hc.out.mono ?_; rintro e w2 ⟨rfl, ⟨f3, l3, hK2⟩, hc2⟩))
      go_roundw
      case rel => exact ⟨j + 1, s2, f3, l3, by go_num, by omega, hz2, h02, hK2, hcj.trans hc2⟩
      case measure => simp [intOf]; omega
    · obtain rfl : j = la := by omega
      have hsf : sj = fin := by have h := hz.out; rw [hend.out] at h; exact h
      subst hsf
      have hlt' : ¬ (j : Int) < j := by omega
      clear hz hF
      go_wp2_with fail
      go_end0
      exact ⟨rfl, ⟨_, _, hKj⟩, hcj⟩
/-- The least power of two that is at least so much. -/
def szF (n : Int) : Nat → Nat → Nat
  | 0, s => s
  | k + 1, s => if (s : Int) < n then szF n k (s * 2) else s
theorem szF_step {n : Int} {s : Nat} (k : Nat) (h : (s : Int) < n) : szF n (k + 1) s = szF n k (s * 2) := by rw [szF, if_pos h]
theorem szF_end {n : Int} {s : Nat} : ∀ (k : Nat), ¬ (s : Int) < n → szF n k s = s
  | 0, _ => rfl
  | k + 1, h => by rw [szF, if_neg h]
set_option maxHeartbeats 1000000 in
theorem sizeFor_any {n : Int} (w : World) (hn : n ≤ 2000000) : Calls Try.prog 31 #[.int .i64 n] w fun e w' => e = .returned (.int .i64 (szF n 30 1)) ∧ w' = w := by
  go_enter Try.func31, Try.ntmps31
  go_upto_region 2 with fail
  go_loopw [3] (fun i wr => ∃ (k t : Nat), i = .int .i64 (t : Int) ∧ t * 2 ^ k = 2 ^ 30 ∧ 1 ≤ t ∧ Hid (szF n k t = szF n 30 1) ∧ wr = w)
    (fun i _ => 2000000000 - (intOf i).toNat)
  case atStart => exact ⟨30, 1, rfl, by decide, by omega, hid rfl, rfl⟩
  case round =>
    obtain ⟨k, t, rfl, ht, h1, hs, rfl⟩ := hrel
    have htm : t ≤ 1073741824 := by
      have : t * 1 ≤ t * 2 ^ k := Nat.mul_le_mul_left _ (Nat.one_le_two_pow)
      rw [ht] at this
      simpa using this
    by_cases hlt : (t : Int) < n
    · obtain ⟨k, rfl⟩ : ∃ m, k = m + 1 := by
        cases k with
        | zero => simp at ht; omega
        | succ m => exact ⟨m, rfl⟩
      have hs2 : Hid (szF n k (t * 2) = szF n 30 1) := hid (by have h := hs.out; rw [szF_step k hlt] at h; exact h)
      have ht2 : t * 2 * 2 ^ k = 2 ^ 30 := by rw [← ht, Nat.pow_succ]; rw [Nat.mul_assoc, Nat.mul_comm 2]
      have hw : IntKind.i64.wrap ((t : Int) * 2) = (t : Int) * 2 := by rw [IntKind.wrap_i64]; omega
      clear hs ht
      replace ht2 := hid ht2
      go_wp2_with fail
      go_roundw
      case rel => exact ⟨k, t * 2, by go_num, ht2.out, by omega, hs2, trivial⟩
      case measure => simp [intOf]; omega
    · have he : Hid (szF n 30 1 = t) := hid (by rw [← hs.out, szF_end _ hlt])
      clear hs ht
      go_wp2_with fail
      go_ret
      exact ⟨by rw [he.out]; rfl, rfl⟩
end Go.Proofs.Ytimmiidkjpbffaa
/- Layer compile: places are mended. -/
namespace Go.Proofs.Ytimmiidkjpbffaa
open Go.RowKit
set_option maxRecDepth 100000
set_option linter.unusedVariables false
set_option linter.unusedSimpArgs false

variable {P : Nat → Prop} {q : KQ} {s : KS} {N : Nat}
/-- One gap is mended. -/
def mend1 (pl : Int → Option Int) (g : Int × Int) (c : List KI) : List KI := match c[g.1.toNat]? with
  | none => c
  | some k => c.set g.1.toNat ⟨k.o, k.a, k.b, k.c, (k.i + (pl g.2).getD 0) % 4294967296⟩
def mendC (pl : Int → Option Int) : List (Int × Int) → List KI → List KI
  | [], c => c
  | g :: r, c => mendC pl r (mend1 pl g c)
theorem mend1_len (pl : Int → Option Int) (g : Int × Int) (c : List KI) : (mend1 pl g c).length = c.length := by
  unfold mend1
  split <;> simp
theorem mendC_drop {pl : Int → Option Int} {l : List (Int × Int)} {j : Nat} {a : Int × Int} (h : l[j]? = some a) (c : List KI) : mendC pl (l.drop j) c = mendC pl (l.drop (j + 1)) (mend1 pl a c) := by
  obtain ⟨hj, rfl⟩ := List.getElem?_eq_some_iff.1 h
  rw [List.drop_eq_getElem_cons hj, mendC]
theorem flatC_at {l : List KI} {i : Nat} {c : KI} (h : l[i]? = some c) {j : Nat} {v : Value} (hv : (ccell c)[j]? = some v) : (flatC l)[i * 5 + j]? = some v := by
  induction l generalizing i with
  | nil => simp at h
  | cons a r ih =>
    have ha : (ccell a).length = 5 := rfl
    have hj : j < 5 := (List.getElem?_eq_some_iff.1 hv).1
    simp only [flatC, List.map_cons, List.flatten_cons]
    cases i with
    | zero =>
      simp at h
      subst h
      rw [List.getElem?_append_left (by omega)]
      simpa using hv
    | succ i =>
      have := ih (i := i) (by simpa using h)
      rw [List.getElem?_append_right (by omega), ha, show (i + 1) * 5 + j - 5 = i * 5 + j by omega]
      exact this
theorem flatG_at {l : List (Int × Int)} {i : Nat} {c : Int × Int} (h : l[i]? = some c) {j : Nat} {v : Value} (hv : (gcell c)[j]? = some v) : (flatG l)[i * 2 + j]? = some v := by
  induction l generalizing i with
  | nil => simp at h
  | cons a r ih =>
    have ha : (gcell a).length = 2 := rfl
    have hj : j < 2 := (List.getElem?_eq_some_iff.1 hv).1
    simp only [flatG, List.map_cons, List.flatten_cons]
    cases i with
    | zero =>
      simp at h
      subst h
      rw [List.getElem?_append_left (by omega)]
      simpa using hv
    | succ i =>
      have := ih (i := i) (by simpa using h)
      rw [List.getElem?_append_right (by omega), ha, show (i + 1) * 2 + j - 2 = i * 2 + j by omega]
      exact this
theorem flatC_set {l : List KI} {i : Nat} {c : KI} {x : Int} (h : l[i]? = some c) : flatC (l.set i ⟨c.o, c.a, c.b, c.c, x⟩) = (flatC l).set (i * 5 + 4) (.int .u32 x) := by
  induction l generalizing i with
  | nil => simp at h
  | cons a r ih =>
    cases i with
    | zero =>
      simp at h
      subst h
      simp [flatC, ccell]
    | succ i =>
      have := ih (i := i) (by simpa using h)
      simp only [List.set_cons_succ, flatC, List.map_cons, List.flatten_cons] at this ⊢
      rw [this]
      simp only [ccell, List.cons_append, List.nil_append]
      rw [show (i + 1) * 5 + 4 = (((((i * 5 + 4) + 1) + 1) + 1) + 1) + 1 by omega]
      simp only [List.set_cons_succ]
theorem own_set {w : World} {base e z n b cap i : Nat} {xs : List Value} {y : Value} (h : w.ownsRow base e z (.slice (some ⟨b, 0, none⟩) n cap) n xs) (hi : i < n * z) : (w.setCell ⟨b, i, none⟩ y).ownsRow base e z (.slice (some ⟨b, 0, none⟩) n cap) n (xs.set i y) ∧ w.frozen? ⟨b, i, none⟩ = false ∧ ∀ j v, xs[j]? = some v → w.cell? ⟨b, j, none⟩ = some v := by
  obtain ⟨hl, h' | ⟨g, c, cur, e1, hg, hh, h2, h3, h4, h5⟩⟩ := h
  · cases h'.1
  · cases e1
    have A : Arr w b e cur := hh
    refine ⟨⟨by simpa using hl, .inr ⟨b, cap, cur.setIfInBounds i y, rfl, hg, A.set i y, h2, h3, by simpa using h4, ?_⟩⟩, A.frozen i, fun j v hv => ?_⟩
    · rw [← h5, Array.toList_setIfInBounds, List.take_set]
    · rw [A.cell j, ← Array.getElem?_toList]
      have := (List.getElem?_eq_some_iff.1 hv).1
      rw [← h5, List.getElem?_take] at hv
      split at hv
      · exact hv
      · cases hv
end Go.Proofs.Ytimmiidkjpbffaa
