/- Kj, Tu, Ig0, Jm, Kk. -/
import Derived.Test.YtimmiidkjpbffaaX15
import Derived.Test.YtimmiidkjpbffaaX06
import Derived.Handy
import Derived.BigQuiet
import Derived.BigRegion
import Derived.Great.BuildSlice
import Derived.Test.YtimmiidkjpbffaaX01
import Derived.ChangeKeysEq
import Derived.Deep.DeepCutAuto
import Derived.Deep.DrawnRows
import Derived.Deep.MidRow
import Derived.Deep.QuietTactic
import Derived.Deep.RegionHeld3
import Derived.Deep.RegionLaw
import Derived.Deep.RegionWith
import Derived.Deep.WholeRow
import Derived.Laws.AppendOwnNone
import Derived.Laws.BitsLemmas
import Derived.Laws.BytesArg
import Derived.Laws.CopyOwn
import Derived.Lib.SlBytesConst
import Derived.LoopIn
import Derived.LoopNIn
import Derived.OwnWalkIn
import Derived.RangeFuncBound
import Derived.RangeFuncCalls
import Derived.RangeFuncLeaves
import Derived.RangeFuncNested
import Derived.RangeFuncRecord
import Derived.Shelf.Abstract
import Derived.Shelf.RegionOpen
import Derived.TacticsInMore
import Derived.WalkKit
import Derived.WalkLawsBesides
import Derived.WalkSpells
import Derived.Test.YtimmiidkjpbffaaX02
import Derived.Test.YtimmiidkjpbffaaX03
import Derived.Test.YtimmiidkjpbffaaX09
import Derived.DeepKeys3
import Derived.Laws.ResultCell
import Derived.Laws.Tables
import Derived.LoopTactic
import Derived.Maps.AppendAt
import Derived.SizedLaws
import Derived.Test.YtimmiidkjpbffaaX08
import Derived.ChangeOld
import Derived.Deep.OwnRows
import Derived.Deep.RegionHeld
import Derived.Great.FillDense
import Derived.KernelRfl
import Derived.Laws.AppendOwn
import Derived.Laws.CopyRow
import Derived.Laws.DeepBits32
import Derived.Laws.MakeOwn
import Derived.Laws.OwnMore
import Derived.Lib.AppendZeros
import Derived.OpenShut
import Derived.OwnWalk
import Derived.ProofKit
import Derived.Recover
import Derived.ShutString
/- Layer compile: statements in turn. -/
namespace Go.Proofs.Ytimmiidkjpbffaa
open Go.RowKit
set_option maxRecDepth 100000
set_option linter.unusedVariables false
set_option linter.unusedSimpArgs false

variable {P : Nat → Prop} {q : KQ} {s : KS} {N : Nat}
theorem kAll_drop {α : Type} {F : α → KS → KS} {l : List α} {j : Nat} {a : α} (h : l[j]? = some a) (s : KS) : kAll F (l.drop j) s = kAll F (l.drop (j + 1)) (F a s) := by
  obtain ⟨hj, rfl⟩ := List.getElem?_eq_some_iff.1 h
  rw [List.drop_eq_getElem_cons hj, kAll]
theorem StM.cs {w : World} {d : Nat} {cs : List Value} {t : StT d} (h : StM N w d cs t) : ∃ k v f tg s1 n1 c1 s2 n2 c2 s3 n3 c3, cs = stC k v f tg (.slice s1 n1 c1) (.slice s2 n2 c2) (.slice s3 n3 c3) := by
  cases d with
  | zero => exact h
  | succ d => obtain ⟨sa, na, ca, sb, nb, cb, sc, nc, cc, e, -⟩ := h; exact ⟨_, _, _, _, _, _, _, _, _, _, _, _, _, e⟩
theorem mayS_k {α : Type} {ps : List Int} {vs : Int} {u : StN α} (h : mayS ps vs u = true) : ∃ kk : Nat, u.k = kk ∧ 1 ≤ kk ∧ kk ≤ 9 := by
  by_cases hk : 1 ≤ u.k ∧ u.k ≤ 9
  · exact ⟨u.k.toNat, by omega, by omega, by omega⟩
  · exfalso
    have e1 : ¬ (u.k = 1) := by omega
    have e2 : ¬ (u.k = 2) := by omega
    have e3 : ¬ (u.k = 3) := by omega
    have e4 : ¬ (u.k = 4) := by omega
    have e5 : ¬ (u.k = 5) := by omega
    have e6 : ¬ (u.k = 6) := by omega
    have e7 : ¬ (u.k = 7) := by omega
    have e8 : ¬ (u.k = 8) := by omega
    have e9 : ¬ (u.k = 9) := by omega
    unfold mayS at h
    simp [e1, e2, e3, e4, e5, e6, e7, e8, e9] at h
set_option maxHeartbeats 2000000 in
theorem stmts_s {d : Nat} (hE : SL N d) : SL N (d + 1) := by
  intro P q s w sp m cap l ps vs hK hG hSG hS hok h0 hb hn
  have hlen := hid hS.len.out
  have hms := hS.small
  obtain ⟨fin, hF⟩ : ∃ fin, fin = kAll (kS q.E q.f q.lv (d + 1)) l s := ⟨_, rfl⟩
  rw [← hF] at hb hn ⊢
  replace hF := hid hF
  replace hb := hid hb
  replace hn := hid hn
  replace h0 := hid h0
  replace hok := hid hok
  replace hG := hid hG
  replace hSG := hid hSG
  go_enter Try.func86, Try.ntmps86
  go_upto_region 1 with fail
  go_loopw [8] (fun i wr => ∃ (j : Nat) (sj : KS), i = .int .i64 (j : Int) ∧ j ≤ m ∧ Hid (kAll (kS q.E q.f q.lv (d + 1)) (l.drop j) sj = fin) ∧ Hid (0 ≤ sj.nx) ∧ KK N P q sj wr ∧ Ch P w wr)
    (fun i _ => m - (intOf i).toNat)
  case atStart => exact ⟨0, s, rfl, by omega, hid (by rw [List.drop_zero, hF.out]), h0, hK, Ch.refl P w⟩
  case round =>
    obtain ⟨j, sj, rfl, hj, hs, h0j, hKj, hcj⟩ := hrel
    have hbj : Below N w wr := hK.bel hcj
    by_cases hlt : j < m
    · obtain ⟨t, ht⟩ : ∃ t, l[j]? = some t := ⟨l[j]'(by rw [← hlen.out]; exact hlt), List.getElem?_eq_getElem _⟩
      have hokt := hok.out t (List.mem_of_getElem? ht)
      rw [kAll_drop ht] at hs
      obtain ⟨g, off, rfl, hg, hR⟩ := hS.at0 (by omega)
      obtain ⟨cs, hrg, hM⟩ := hR j t ht
      have hle1 := kAll_le (kS q.E q.f q.lv (d + 1)) (kS_le q.E q.f q.lv (d + 1)) (l.drop (j + 1)) (kS q.E q.f q.lv (d + 1) t sj)
      rw [hs.out] at hle1
      have hle0 := kS_le q.E q.f q.lv (d + 1) t sj
      obtain ⟨kk, hkk, hk1, hk9⟩ := mayS_k (okS_s hokt).1
      have hc : ∀ (P' : Nat → Prop) (u : World), KK N P' q sj u → Below N wr u → Calls Try.prog (48 + kk) #[.pointer (some ⟨q.g, 0, none⟩), .agg cs.toArray] u (KZ N P' q (kS q.E q.f q.lv (d + 1) t sj) u) := fun P' u hu hbu => stmt1 hE u hu hG.out hSG.out (StM.below (hbj.trans hbu) _ _ t hM) hokt hkk h0j.out (Nat.le_trans hle1.1 hb.out) (Int.le_trans hle1.2 hn.out)
      have h0s := Int.le_trans h0j.out hle0.2
      obtain ⟨s1, n1, c1, s2, n2, c2, s3, n3, c3, hcs, -⟩ := id hM
      have hrg2 := rgk hrg hbj hg
      rw [hkk] at hcs
      generalize t.nd.v = v at *
      generalize t.nd.f = f at *
      generalize t.nd.t = tg at *
      subst hcs
      have c0' := hrg2 0 _ rfl
      have c1' := hrg2 1 _ rfl
      have c2' := hrg2 2 _ rfl
      have c3' := hrg2 3 _ rfl
      have c4' := hrg2 4 _ rfl
      have c5' := hrg2 5 _ rfl
      have c6' := hrg2 6 _ rfl
      simp only [Nat.add_zero] at c0'
      have hlt' : (j : Int) < m := by omega
      have hj0 : (0 : Int) ≤ j := by omega
      clear hle1 hle0 hM hR hrg hrg2 ht hokt hkk
      unfold stC at *
      have hK1 := hKj.al (.cells #[.int .u8 (kk : Int), .int .i64 v, .int .i64 f, .int .i64 tg, .slice s1 n1 c1, .slice s2 n2 c2, .slice s3 n3 c3] 94)
      have A1 := Arr.new wr 94 #[.int .u8 (kk : Int), .int .i64 v, .int .i64 f, .int .i64 tg, .slice s1 n1 c1, .slice s2 n2 c2, .slice s3 n3 c3]
      have hbw : Below N wr (wr.alloc (.cells #[.int .u8 (kk : Int), .int .i64 v, .int .i64 f, .int .i64 tg, .slice s1 n1 c1, .slice s2 n2 c2, .slice s3 n3 c3] 94)).drew := ((Ch.refl P wr).al _).dw.bl hKj.n
      have hc1 := hid (hc _ _ hK1.dw hbw)
      have hfin : Hid (∀ (s' : KS) (w' : World), KK N (fun k => P k ∧ k ≠ wr.heap.size) q s' w' → Ch (fun k => P k ∧ k ≠ wr.heap.size) (wr.alloc (.cells #[.int .u8 (kk : Int), .int .i64 v, .int .i64 f, .int .i64 tg, .slice s1 n1 c1, .slice s2 n2 c2, .slice s3 n3 c3] 94)) w' → KK N P q s' w' ∧ Ch P wr w') := hid fun _ _ h1 h2 => hKj.out1 h1 h2
      have hpx : ¬ (P wr.heap.size ∧ wr.heap.size ≠ wr.heap.size) := fun e => e.2 rfl
      have cX2 : Hid (∀ (s2 : KS) (u : World), KK N (fun k => P k ∧ k ≠ wr.heap.size) q s2 u → u.cell? ⟨q.g, 10 + kk, none⟩ = some (.func (Fn.func (48 + kk)) #[.pointer (some ⟨q.g, 0, none⟩)] #[])) := hid fun s2 u h => by
        obtain ⟨cv, gv, hB⟩ := h.b
        have := hB.cS hk1 hk9
        unfold mF at this
        exact this
      have xx := cX2.out _ _ hK1.dw
      have hk0 : (0 : Int) ≤ kk := by omega
      have hk10 : (kk : Int) < 10 := by omega
      have hk10' : kk < 10 := by omega
      replace hK1 := hid hK1
      clear hc hbw
      go_upto_region 3 with fail
      have A1d := A1.drew
      refine rgn (fun u => u.cell? ⟨q.g, 10 + kk, none⟩ = some (.func (Fn.func (48 + kk)) #[.pointer (some ⟨q.g, 0, none⟩)] #[]) ∧ u.cell? ⟨wr.heap.size, 0, none⟩ = some (.int .u8 (kk : Int)) ∧ u.cell? ⟨wr.heap.size, 1, none⟩ = some (.int .i64 v) ∧ u.cell? ⟨wr.heap.size, 2, none⟩ = some (.int .i64 f) ∧ u.cell? ⟨wr.heap.size, 3, none⟩ = some (.int .i64 tg) ∧ u.cell? ⟨wr.heap.size, 4, none⟩ = some (.slice s1 n1 c1) ∧ u.cell? ⟨wr.heap.size, 5, none⟩ = some (.slice s2 n2 c2) ∧ u.cell? ⟨wr.heap.size, 6, none⟩ = some (.slice s3 n3 c3)) ⟨xx, A1d.cell 0, A1d.cell 1, A1d.cell 2, A1d.cell 3, A1d.cell 4, A1d.cell 5, A1d.cell 6⟩ (fun _ => ?_)
      refine tk 0 rfl ?_ (hy := by (intro u hSw; obtain ⟨s1', s2', s3', s4', s5', s6', s7', s8'⟩ := hSw; go_simp; try (with_reducible rfl)))
      refine tk 1 rfl ?_ (hy := by (intro u hSw; obtain ⟨s1', s2', s3', s4', s5', s6', s7', s8'⟩ := hSw; go_simp; try (with_reducible rfl)))
      refine tk 2 rfl ?_ (hy := by (intro u hSw; obtain ⟨s1', s2', s3', s4', s5', s6', s7', s8'⟩ := hSw; go_simp; try (with_reducible rfl)))
      refine tk 3 rfl ?_ (hy := by (intro u hSw; obtain ⟨s1', s2', s3', s4', s5', s6', s7', s8'⟩ := hSw; go_simp; try (with_reducible rfl)))
      refine tk 4 rfl ?_ (hy := by (intro u hSw; obtain ⟨s1', s2', s3', s4', s5', s6', s7', s8'⟩ := hSw; go_simp; try (with_reducible rfl)))
      refine tk 5 rfl ?_ (hy := by (intro u hSw; obtain ⟨s1', s2', s3', s4', s5', s6', s7', s8'⟩ := hSw; go_simp; try (with_reducible rfl)))
      refine tk 6 rfl ?_ (hy := by (intro u hSw; obtain ⟨s1', s2', s3', s4', s5', s6', s7', s8'⟩ := hSw; go_simp; try (with_reducible rfl)))
      refine tk 7 rfl ?_ (hy := by (intro u hSw; obtain ⟨s1', s2', s3', s4', s5', s6', s7', s8'⟩ := hSw; go_simp; try (with_reducible rfl)))
      rcases (by omega : kk = 1 ∨ kk = 2 ∨ kk = 3 ∨ kk = 4 ∨ kk = 5 ∨ kk = 6 ∨ kk = 7 ∨ kk = 8 ∨ kk = 9) with rfl | rfl | rfl | rfl | rfl | rfl | rfl | rfl | rfl
      all_goals
        simp only [Nat.reduceAdd] at hc1 cX2 ⊢
        refine rd 8 rfl (fun K hK' => ?_)
        go_simp
        refine hc1.out.mono ?_
        rintro e w2 ⟨rfl, hK2, hc2⟩
        have A2 := hc2.arr A1d hpx
        refine ko hK' ⟨cX2.out _ _ hK2, A2.cell 0, A2.cell 1, A2.cell 2, A2.cell 3, A2.cell 4, A2.cell 5, A2.cell 6⟩ (fun _ => ?_)
        clear hK'
        refine dn ?_
        obtain ⟨hK3, hc3⟩ := hfin.out _ _ hK2 ((Ch.refl _ _).dw.trans hc2)
        go_wp2_with fail
        go_roundw
        case rel =>
          exact ⟨j + 1, _, by go_num, by omega, hs, hid h0s, hK3, hcj.trans hc3⟩
        case measure => simp [intOf]; omega
    · obtain rfl : j = m := by omega
      have hsf : sj = fin := by have h := hs.out; rw [hlen.out, List.drop_length] at h; exact h
      subst hsf
      have hlt' : ¬ (j : Int) < j := by omega
      clear hS hF hs
      go_wp2_with fail
      go_end0
      exact ⟨rfl, hKj, hcj⟩
theorem stmts_0 : SL N 0 := by
  intro P q s w sp m cap l ps vs hK hG hSG hS hok h0 hb hn
  cases l with
  | cons a r => exact absurd (hok a (by simp)) fun h => okS_0 h
  | nil =>
    have hlen := hS.len.out
    obtain rfl : m = 0 := hlen
    clear hS hok hb hn
    replace hK := hid hK
    replace hG := hid hG
    replace hSG := hid hSG
    have hK0 := hid hK
    go_enter Try.func86, Try.ntmps86
    go_upto_region 1 with fail
    go_loopw [8] (fun i wr => i = .int .i64 0 ∧ wr = w) (fun i _ => 0)
    case atStart => exact ⟨rfl, rfl⟩
    case round =>
      obtain ⟨rfl, rfl⟩ := hrel
      go_wp2_with fail
      go_end0
      exact ⟨rfl, hK.out, Ch.refl P _⟩
theorem stmts_any : ∀ d : Nat, SL N d
  | 0 => stmts_0
  | d + 1 => stmts_s (stmts_any d)
end Go.Proofs.Ytimmiidkjpbffaa
/- Layer compile: what the layers below give. -/
namespace Go.Proofs.Ytimmiidkjpbffaa
open Go.RowKit
set_option maxRecDepth 100000
set_option linter.unusedVariables false
set_option linter.unusedSimpArgs false

theorem Bytes.take {w : World} {b off : Nat} {L M : List Int} (h : Bytes w b off (L ++ M).length (bat (L ++ M))) : Bytes w b off L.length (bat L) := fun t ht => by
  rw [h t (by simp; omega)]; simp [bat, List.getElem?_append_left ht]
end Go.Proofs.Ytimmiidkjpbffaa
/- Layer compile: what the layers below give. -/
namespace Go.Proofs.Ytimmiidkjpbffaa
open Go.RowKit
set_option maxRecDepth 100000
set_option linter.unusedVariables false
set_option linter.unusedSimpArgs false

theorem RS.take {α : Type} {N : Nat} {w : World} {sz : Nat} {R : List Value → α → Prop} {sp : Option Addr} {n cap : Nat} {l : List α} (h : RS N w sz R sp n cap l) {j : Nat} (hj : j ≤ n) : RS N w sz R sp j cap (l.take j) :=
  ⟨hid (by rw [List.length_take, ← h.len.out]; omega), fun e => by have := h.nil e; omega, by have := h.le; omega, h.big, by have := h.small; omega, fun h0 => by
    obtain ⟨g, off, e, hg, hR⟩ := h.at0 (by omega)
    refine ⟨g, off, e, hg, fun i a ha => hR i a ?_⟩
    by_cases hi : i < j
    · rw [List.getElem?_take_of_lt hi] at ha; exact ha
    · rw [List.getElem?_eq_none (by rw [List.length_take]; omega)] at ha; cases ha⟩
set_option maxHeartbeats 1000000 in
theorem beg_any {N : Nat} {sp : Option Addr} {n cap : Nat} (p : PgT) (w : World) (hS : RS N w 3 (FuM N w) sp n cap p.fs) (hN : N ≤ w.heap.size) :
    Calls Try.prog 47 #[.agg #[.slice sp n cap, .int .i64 p.da]] w (BoP (begB p) w) := by
  have b0 := ab w (.cells #[.slice sp n cap, .int .i64 p.da] 47)
  have hsm := hS.small
  have hl := hS.len.out
  by_cases h1 : 0 < n
  · have hw : IntKind.i64.wrap ((n : Int) - 1) = ((n - 1 : Nat) : Int) := by rw [IntKind.wrap_i64]; omega
    by_cases h2 : n ≤ 32
    · obtain ⟨t, ht⟩ : ∃ t, p.fs[n - 1]? = some t := ⟨p.fs[n - 1]'(by omega), List.getElem?_eq_getElem _⟩
      have hlast : p.fs.getLast?.map FuT.p = some t.p := by rw [List.getLast?_eq_getElem?, ← hl, ht]; rfl
      obtain ⟨g, off, rfl, hg, hR⟩ := hS.at0 h1
      obtain ⟨cs, hrg, hM⟩ := hR (n - 1) t ht
      obtain ⟨q1, q2, q3, rfl, -, -⟩ := hM
      have hrg2 := rb hrg (b0.mono hN) hg
      have c0 := hrg2 0 _ rfl
      simp only [Nat.add_zero] at c0
      obtain ⟨r, hr⟩ : ∃ r, r = begB p := ⟨_, rfl⟩
      rw [← hr]
      unfold begB at hr
      rw [hlast, ← hl] at hr
      replace hr := hid hr
      have hlt : n - 1 < n := by omega
      have h32 : ((n - 1 : Nat) : Int) < 32 := by omega
      have hn0 : (0 : Int) ≤ ((n - 1 : Nat) : Int) := by omega
      obtain ⟨x1, ex1⟩ : ∃ b, (t.p == 0) = b := ⟨_, rfl⟩
      have hj : Hid (0 < n ∧ n ≤ 32) := hid ⟨h1, h2⟩
      clear hS hR hrg hrg2 hl ht hlast h1 h2
      generalize n - 1 = j at *
      go_enter Try.func47, Try.ntmps47
      go_wp2_with fail
      all_goals
        go_ret
        refine ⟨congrArg (fun b => Ending.returned (.bool b)) (?_ : _ = r), b0⟩
        have h3 := hr.out
        have h4 := hj.out
        try subst ex1
        clear b0 c0
        rw [Bool.eq_iff_iff]
        simp_all
        try (first | omega | (intros; omega))
    · have e : begB p = false := decide_eq_false (by rintro ⟨-, h, -⟩; rw [← hl] at h; exact h2 h)
      rw [e]
      have h32 : ¬ ((n - 1 : Nat) : Int) < 32 := by omega
      have hn0 : (0 : Int) ≤ ((n - 1 : Nat) : Int) := by omega
      clear hS hl h1 h2 e
      generalize n - 1 = j at *
      go_enter Try.func47, Try.ntmps47
      go_wp2_with fail
      go_ret
      exact ⟨rfl, b0⟩
  · obtain rfl : n = 0 := by omega
    have e : begB p = false := decide_eq_false (by rintro ⟨h, -⟩; rw [← hl] at h; omega)
    rw [e]
    have hw : IntKind.i64.wrap (((0 : Nat) : Int) - 1) = -1 := by rw [IntKind.wrap_i64]; omega
    clear hS hl h1 e
    go_enter Try.func47, Try.ntmps47
    go_wp2_with fail
    go_ret
    exact ⟨rfl, b0⟩
end Go.Proofs.Ytimmiidkjpbffaa
/- Layer compile: what the layers below give. -/
namespace Go.Proofs.Ytimmiidkjpbffaa
open Go.RowKit
set_option maxRecDepth 100000
set_option linter.unusedVariables false
set_option linter.unusedSimpArgs false

/-- The functions may be. -/
def okF (fs : List FuT) : Prop := ∀ i f, fs[i]? = some f → (0 ≤ f.v ∧ f.v ≤ 64 ∧ 0 ≤ f.p ∧ f.p ≤ f.v) ∧ ∀ b ∈ f.b, okS ((fs.take i).map FuT.p) f.v 8 b
end Go.Proofs.Ytimmiidkjpbffaa
/- Layer compile: the body of a function. -/
namespace Go.Proofs.Ytimmiidkjpbffaa
open Go.RowKit
set_option maxRecDepth 100000
set_option linter.unusedVariables false
set_option linter.unusedSimpArgs false

variable {P : Nat → Prop} {q : KQ} {s : KS} {N : Nat}
/-- .. at a function. -/
def KQ.at (q : KQ) (f lv : Int) : KQ := ⟨q.g, q.gc, q.gm, q.sv, q.E, q.fv, q.sl, f, lv⟩
theorem KB.fl {cv gv : Value} {f lv f0 l0 : Int} {w : World} (h : KB P (q.at f0 l0) s cv gv w) : KB P (q.at f lv) s cv gv ((w.setCell ⟨q.g, 8, none⟩ (.int .i64 f)).setCell ⟨q.g, 9, none⟩ (.int .i64 lv)) ∧ Ch P w ((w.setCell ⟨q.g, 8, none⟩ (.int .i64 f)).setCell ⟨q.g, 9, none⟩ (.int .i64 lv)) := by
  have hs : ∀ k, k ≠ q.g → ((w.setCell ⟨q.g, 8, none⟩ (.int .i64 f)).setCell ⟨q.g, 9, none⟩ (.int .i64 lv)).heap[k]? = w.heap[k]? := fun k hk => (Below.heap_setCell _ _ _ _ (fun e => hk (by have e' : k = q.g := e; exact e'))).trans (Below.heap_setCell _ _ _ _ (fun e => hk (by have e' : k = q.g := e; exact e')))
  refine ⟨{ ar := (h.ar.set 8 (.int .i64 f)).set 9 (.int .i64 lv), cd := (hs _ h.n1.1.symm).trans h.cd, oc := own_mv h.oc fun k e => hs k (fun e' => h.n2.1 (e' ▸ e)), og := own_mv h.og fun k e => hs k (fun e' => h.n3.1 (e' ▸ e)), mp := h.mp.same (hs _ h.n1.2.1.symm), n1 := h.n1, n2 := h.n2, n3 := h.n3, n4 := h.n4, pg := h.pg, pc := h.pc, pp := h.pp, up := fun k hk => h.up k (by simpa using hk), le := h.le }, ?_⟩
  exact ((Ch.refl P w).st (g := q.g) (j := 8) _ (fun _ => h.pg.1)).st (g := q.g) (j := 9) _ (fun _ => h.pg.1)
theorem KK.fl {f lv f0 l0 : Int} {w : World} (h : KK N P (q.at f0 l0) s w) : KK N P (q.at f lv) s ((w.setCell ⟨q.g, 8, none⟩ (.int .i64 f)).setCell ⟨q.g, 9, none⟩ (.int .i64 lv)) ∧ Ch P w ((w.setCell ⟨q.g, 8, none⟩ (.int .i64 f)).setCell ⟨q.g, 9, none⟩ (.int .i64 lv)) :=
  let ⟨cv, gv, hb⟩ := h.b
  let ⟨h1, h2⟩ := hb.fl (f := f) (lv := lv)
  ⟨⟨⟨cv, gv, h1⟩, h.f.ch h2, fun k hk => ⟨Nat.lt_of_lt_of_le (h.n k hk).1 h2.size, (h.n k hk).2⟩⟩, h2⟩
/-- The program that is compiled, in memory. -/
structure PF (N : Nat) (q : KQ) (w : World) : Prop where
  m : ∃ sp k cap, q.sv = .slice sp k cap ∧ RS N w 3 (FuM N w) sp k cap q.E.fs
  o : okF q.E.fs
  l : q.E.fr.length = q.E.fs.length
  r : ∀ (j : Nat) (x : Int), q.E.fr[j]? = some x → 0 ≤ x ∧ x ≤ 100000
  d : 0 ≤ q.E.da ∧ q.E.da ≤ 1024
theorem PF.bel {w w' : World} (h : PF N q w) (hb : Below N w w') : PF N q w' :=
  ⟨let ⟨sp, k, cap, h1, h2⟩ := h.m; ⟨sp, k, cap, h1, h2.imp hb (FuM.below hb)⟩, h.o, h.l, h.r, h.d⟩
theorem PF.kg {w : World} (h : PF N q w) {j : Nat} {f lv : Int} (hf : f = j) (hj : j < q.E.fs.length) : KG (q.at f lv) :=
  ⟨⟨j, hf, by show j < q.E.fr.length; rw [h.l]; exact hj⟩, h.r, h.d⟩
theorem PF.sg {w : World} (h : PF N q w) {j : Nat} {f lv : Int} {ft : FuT} (hj : q.E.fs[j]? = some ft) : SG (q.at f lv) ((q.E.fs.take j).map FuT.p) ft.v := by
  have hlt := (List.getElem?_eq_some_iff.1 hj).1
  refine ⟨(h.o j ft hj).1.2.1, ?_, fun x hx => ?_⟩
  · show _ ≤ q.E.fr.length
    rw [h.l, List.length_map, List.length_take]
    omega
  · obtain ⟨g, hg, rfl⟩ := List.mem_map.1 hx
    obtain ⟨i, hi⟩ := List.getElem?_of_mem (List.mem_of_mem_take hg)
    have := (h.o i g hi).1
    omega
/-- What the body of a function leaves: the builder stands at it. -/
def KV (N : Nat) (P : Nat → Prop) (q : KQ) (s : KS) (w : World) (e : Ending) (w' : World) : Prop := e = .returned (.tuple #[]) ∧ (∃ f lv, KK N P (q.at f lv) s w') ∧ Ch P w w'
theorem kBody_le (E : KE) (f : Int) (l : List (StT 8)) (s : KS) : KLe s (kBody E f l s) := (((kfresh_le _).trans (kAll_le _ (kS_le _ _ _ 8) _ _)).trans (kput_le _ _)).trans (khere_le _ _)
set_option maxHeartbeats 4000000 in
theorem body_any {f0 l0 : Int} {j : Nat} {ft : FuT} (w : World) (hK : KK N P (q.at f0 l0) s w) (hp : PF N q w) (hj : q.E.fs[j]? = some ft) (h0 : 0 ≤ s.nx) (hb : (kBody q.E j ft.b s).code.length ≤ 1000000) (hn : (kBody q.E j ft.b s).nx ≤ 1000000) :
    Calls Try.prog 63 #[.pointer (some ⟨q.g, 0, none⟩), .int .i64 j] w (KV N P q (kBody q.E j ft.b s) w) := by
  have hjl := (List.getElem?_eq_some_iff.1 hj).1
  obtain ⟨sp, k, cap, hsv, hS⟩ := hp.m
  have hkl := hS.len.out
  obtain ⟨g, off, hsp, hg, hR⟩ := hS.at0 (by omega)
  subst hsp
  obtain ⟨cs, hrg, sb, mb, cb, hcs, -, hSB⟩ := hR j ft hj
  subst hcs
  obtain ⟨x3, hx3⟩ : ∃ x, x = kAll (kS q.E j s.nx 8) ft.b s.fresh := ⟨_, rfl⟩
  have e3 : kBody q.E j ft.b s = (x3.put [⟨2, 1, 0, 0, 0⟩]).here s.nx := by rw [hx3]; rfl
  rw [e3] at hb hn ⊢
  have hl4 : (x3.put [⟨2, 1, 0, 0, 0⟩]).code.length ≤ 1000000 := by simpa [KS.here] using hb
  have hl3 : x3.code.length + 1 ≤ 1000000 := by simpa [KS.put] using hl4
  have hn3 : x3.nx ≤ 1000000 := by simpa [KS.here, KS.put] using hn
  have hle := kAll_le (kS q.E j s.nx 8) (kS_le _ _ _ 8) ft.b s.fresh
  rw [← hx3] at hle
  have hn1 : s.nx + 1 ≤ 1000000 := Int.le_trans (show s.nx + 1 ≤ x3.nx from hle.2) hn3
  have ct1 := hid (fresh_k w hK h0 (by omega))
  have hfl : Hid (∀ u : World, KK N P (q.at f0 l0) s.fresh u → KK N P (q.at j s.nx) s.fresh ((u.setCell ⟨q.g, 8, none⟩ (.int .i64 j)).setCell ⟨q.g, 9, none⟩ (.int .i64 s.nx)) ∧ Ch P u ((u.setCell ⟨q.g, 8, none⟩ (.int .i64 j)).setCell ⟨q.g, 9, none⟩ (.int .i64 s.nx))) := hid fun u hu => hu.fl
  have hcc : Hid (∀ (s' : KS) (a b : Int) (u : World), KK N P (q.at a b) s' u → u.cell? ⟨q.g, 0, none⟩ = some (.slice (some ⟨g, off, none⟩) k cap) ∧ u.cell? ⟨q.g, 2, none⟩ = some (.func (Fn.func 29) #[] #[.pointer (some ⟨q.gc, 0, none⟩)]) ∧ u.cell? ⟨q.g, 8, none⟩ = some (.int .i64 a) ∧ u.cell? ⟨q.g, 9, none⟩ = some (.int .i64 b) ∧ u.frozen? ⟨q.g, 8, none⟩ = false ∧ u.frozen? ⟨q.g, 9, none⟩ = false) := hid fun s' a b u hu => by
    obtain ⟨cv, gv, hB⟩ := hu.b
    have h0 := hB.c0
    rw [show (q.at a b).sv = q.sv from rfl, hsv] at h0
    exact ⟨h0, hB.c2, hB.c8, hB.c9, hB.ar.frozen 8, hB.ar.frozen 9⟩
  have ct2 : Hid (∀ u : World, KK N P (q.at j s.nx) s.fresh u → Below N w u → Calls Try.prog 86 #[.pointer (some ⟨q.g, 0, none⟩), .slice sb mb cb] u (KZ N P (q.at j s.nx) x3 u)) := hid fun u hu hbu => by
    rw [hx3]
    exact stmts_any 8 P (q.at j s.nx) s.fresh u sb mb cb ft.b _ ft.v hu (hp.kg rfl hjl) (hp.sg hj) (hSB.imp hbu (StM.below hbu 8)) (hp.o j ft hj).2 (by show 0 ≤ s.nx + 1; omega) (by have h : x3.code.length ≤ 1000000 := (by omega); rw [hx3] at h; exact h) (by have h := hn3; rw [hx3] at h; exact h)
  have ct3 : Hid (∀ u : World, KK N P (q.at j s.nx) x3 u → Calls Try.prog 29 #[.slice (some ⟨u.heap.size, 0, none⟩) 1 1, .pointer (some ⟨q.gc, 0, none⟩)] (u.alloc (.cells #[.int .u8 2, .int .u8 1, .int .u8 0, .int .u8 0, .int .u32 0] 108)) fun e w' => e = .returned (.int .i64 ((x3.code.length : Int) + 1)) ∧ KK N P (q.at j s.nx) (x3.put [⟨2, 1, 0, 0, 0⟩]) w' ∧ Ch P u w') := hid fun u hu => put_one u hu hl3
  have ct4 : Hid (∀ u : World, KK N P (q.at j s.nx) (x3.put [⟨2, 1, 0, 0, 0⟩]) u → Calls Try.prog 64 #[.pointer (some ⟨q.g, 0, none⟩), .int .i64 s.nx] u (KZ N P (q.at j s.nx) ((x3.put [⟨2, 1, 0, 0, 0⟩]).here s.nx) u)) := hid fun u hu => here_k u hu hl4
  have hbel : Hid (∀ u : World, Ch P w u → Below N w u) := hid fun u hu => hK.bel hu
  have hrgk : Hid (∀ u : World, Below N w u → u.rangeAt g (off + j * 3) (fuC ft.p ft.v (.slice sb mb cb))) := hid fun u hu => rgk hrg hu hg
  have hjk : (j : Int) < k := by omega
  have hj0 : (0 : Int) ≤ j := by omega
  have hjk' : j < k := by omega
  generalize hnx : s.nx = nx at *
  clear hle hx3 hl3 hl4 hn3 hn1 hb hn h0 hSB hrg hR hsv hS hp hj e3
  replace hK := hid hK
  unfold fuC at *
  go_enter Try.func63, Try.ntmps63
  go_upto_region 1 with (go_at_call 85; go_must (refine ct1.out.mono ?_; rintro e w1 ⟨rfl, hK1, hc1⟩; obtain ⟨k0, k2, k8, k9, kf8, kf9⟩ := hcc.out _ _ _ _ hK1))
  obtain ⟨hK2, hc2⟩ := hfl.out _ hK1
  clear k0 k2 k8 k9 kf8 kf9
  generalize hW2 : ((w1.setCell ⟨q.g, 8, none⟩ (.int .i64 j)).setCell ⟨q.g, 9, none⟩ (.int .i64 nx)) = w2 at *
  have hc12 := hc1.trans hc2
  have hb2 := hbel.out _ hc12
  obtain ⟨k0, k2, k8, k9, kf8, kf9⟩ := hcc.out _ _ _ _ hK2
  have r2 := (hrgk.out _ hb2) 2 _ rfl
  have ct2' := hid (ct2.out w2 hK2 hb2)
  go_upto_region 2 with (go_at_call 86; go_must (refine ct2'.out.mono ?_; rintro e w3 ⟨rfl, hK3, hc3⟩))
  clear k0 k2 k8 k9 kf8 kf9 r2
  obtain ⟨k0, k2, k8, k9, kf8, kf9⟩ := hcc.out _ _ _ _ hK3
  have ct3' := hid (ct3.out w3 hK3)
  go_upto_region 3 with (go_at_call 29; go_must (refine ct3'.out.mono ?_; rintro e w4 ⟨rfl, hK4, hc4⟩))
  clear k0 k2 k8 k9 kf8 kf9
  obtain ⟨k0, k2, k8, k9, kf8, kf9⟩ := hcc.out _ _ _ _ hK4
  have ct4' := hid (ct4.out w4 hK4)
  go_wp2_with (go_at_call 64; go_must (refine ct4'.out.mono ?_; rintro e w5 ⟨rfl, hK5, hc5⟩))
  go_end0
  exact ⟨rfl, ⟨_, _, hK5⟩, ((hc12.trans hc3).trans hc4).trans hc5⟩
end Go.Proofs.Ytimmiidkjpbffaa
