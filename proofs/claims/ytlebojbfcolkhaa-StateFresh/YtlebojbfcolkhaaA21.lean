/- Pf, Pc. -/
import Derived.Test.YtlebojbfcolkhaaA14
import Derived.Test.YtlebojbfcolkhaaA20
import Derived.Test.YtlebojbfcolkhaaA10
/- Layer state: a state's two trees, their leaves and roots; the number of withdrawals. -/
namespace Go.Proofs.Ytlebojbfcolkhaa
open Go.RowKit
set_option maxRecDepth 100000
set_option linter.unusedVariables false
set_option linter.unusedSimpArgs false

theorem TR.up {base base' : Nat} {w : World} {v : Value} {es : List En} {bs : List (List Int)} (h : TR base w v es bs) (hb : base' ≤ base) : TR base' w v es bs :=
  ⟨⟨own_mono h.eo.own hb, h.eo.ok, fun e he b off hs => by
    obtain ⟨h1, h2, h3, h4⟩ := h.eo.ap e he b off hs
    exact ⟨by omega, h2, h3, by omega⟩⟩, h.bs, h.sm⟩
theorem TR.es {base : Nat} {w : World} {v : Value} {es : List En} {bs : List (List Int)} (h : TR base w v es bs) (hn : bs.length ≤ 32) : ∃ sp cap, v = .slice sp bs.length cap ∧ ES w.heap.size w sp bs.length cap es := by
  have hl : es.length = bs.length := by rw [← h.bs.out, List.length_map]
  rw [← hl]
  exact h.eo.es (by omega)
theorem TR.sums {base : Nat} {w : World} {v : Value} {es : List En} {bs : List (List Int)} (h : TR base w v es bs) : es.map En.sm = bs.map shl := by
  rw [← h.bs.out, List.map_map]
  exact List.map_congr_left (fun e he => h.sm.out e he)
set_option maxHeartbeats 1000000 in
theorem accountsOf_any (ps : List Ac) (sp : Option Addr) (n cap : Nat) (w : World) (h1 : ps.length = 32) (hok : ∀ a ∈ ps, AcOK a) :
    Calls Try.prog 45 #[.agg (stA ps sp n cap)] w (TPost (ps.map fun a => 0 :: acb a) w) := by
  have h2 : ∀ a ∈ ps, a.lk.length = 32 := fun a ha => (hok a ha).l32
  have A0 := Arr.new w 30 (stA ps sp n cap)
  have hb0 := alloc_bel' w (.cells (stA ps sp n cap) 30)
  have hT := Hid.mk' (treeA_any ps 32 32 (w.alloc (.cells (stA ps sp n cap) 30)) (some ⟨w.heap.size, 0, none⟩) hok h1.symm (by omega) (fun _ => ⟨w.heap.size, 0, rfl, by simp, fun i a ha => by rw [Nat.zero_add]; exact A0.stAt h2 ha⟩))
  go_enter Try.func45, Try.ntmps45
  go_wp2_with (go_at_call 70; go_must (refine hT.out.mono ?_; rintro e w1 ⟨v, es, rfl, hR, hb1⟩))
  go_ret
  exact ⟨v, es, rfl, hR.up (by simp), hb0.trans (hb1.mono (by simp))⟩
set_option maxHeartbeats 1000000 in
theorem outsOf_any (ps : List Ac) (N : Nat) (sp : Option Addr) (n cap : Nat) (os : List Ou) (w : World) (hS : SS N w ps sp n cap os) (hn : n ≤ 32) :
    Calls Try.prog 47 #[.agg (stA ps sp n cap)] w (TPost (os.map fun a => 0 :: oub a) w) := by
  have h1 := hS.a32.out
  have h2 := hS.l32
  have A0 := Arr.new w 30 (stA ps sp n cap)
  have hb0 := alloc_bel' w (.cells (stA ps sp n cap) 30)
  have hO := (hS.here.below hb0).outs
  have hT := Hid.mk' (treeO_any os n cap (w.alloc (.cells (stA ps sp n cap) 30)) sp hO.ok hO.len.out hn (fun h0 => by obtain ⟨g, off, e, hg, hr⟩ := hO.at0 h0; exact ⟨g, off, e, by simp; omega, hr⟩))
  have c1 := A0.stOut h1 h2
  clear hO hS h1 h2
  go_enter Try.func47, Try.ntmps47
  go_wp2_with (go_at_call 73; go_must (refine hT.out.mono ?_; rintro e w1 ⟨v, es, rfl, hR, hb1⟩))
  go_ret
  exact ⟨v, es, rfl, hR.up (by simp), hb0.trans (hb1.mono (by simp))⟩
/-- What leaves answers. -/
def LPost (n : Nat) (ls : List (List Int)) (w : World) (e : Ending) (w' : World) : Prop := ∃ sp cap, e = .returned (.slice sp n cap) ∧ HS w'.heap.size w' sp n cap ls ∧ (∀ b off, sp = some ⟨b, off, none⟩ → w.heap.size ≤ b) ∧ Below w.heap.size w w'
set_option maxHeartbeats 1000000 in
theorem leaves_any (N : Nat) (sp : Option Addr) (n cap : Nat) (es : List En) (w : World) (hS : ES N w sp n cap es) (hn : n ≤ 32) :
    Calls Try.prog 72 #[.slice sp n cap] w (LPost n (es.map En.sm) w) := by
  obtain ⟨i0, hi, hz0, hz1, hz2⟩ := info_parts info24
  have hl := hS.len
  have hS := hS.here
  have h32 : Hid (∀ x ∈ es.map En.sm, x.length = 32) := Hid.mk' (fun x hx => by
    obtain ⟨e, he, rfl⟩ := List.mem_map.1 hx
    exact (hS.ok e he).s32)
  go_enter Try.func72, Try.ntmps72
  go_upto_region 2 with (at_make; go_must (refine wpList_make_own _ (by rfl) (.const (.int .i64 0)) (.tmp 7) 42 (by rfl) w.heap.size 24 i0 (.agg (h8 Z32)) 32 Try.underlying42 hi hz0 hz1 .i64 .i64 _ n (by rfl) (by rfl) (by omega) (by rw [hz2]; omega) (by unfold maxLen; omega) (Nat.le_refl _) ?_; intro w3 hown3 hg3))
  have hB3 := (Below.refl w.heap.size w).grown hg3 (Nat.le_refl _) (by simp)
  have hown3' : w3.ownsRow w.heap.size 24 32 (.slice (some ⟨w.heap.size, 0, none⟩) 0 n) 0 (flat32 []) := hown3
  clear hown3 hg3
  go_upto_region 3 with fail
  go_loopw [3, 11] (fun v q wr => ∃ j : Nat, q = .int .i64 (j : Int) ∧ j ≤ n ∧ Below w.heap.size w wr ∧ wr.ownsRow w.heap.size 24 32 v j (flat32 ((es.map En.sm).take j)))
    (fun _ q _ => n - (intOf q).toNat)
  case atStart => exact ⟨0, rfl, by omega, hB3, by simpa using hown3'⟩
  case round =>
    obtain ⟨j, rfl, hj, hbl, hO⟩ := hrel
    clear hown3' hB3
    by_cases hlt : j < n
    · have hI : (j : Int) < n := by omega
      have hSr := hS.below hbl
      obtain ⟨g, off, rfl, hgN, hR⟩ := hSr.at0 (by omega)
      obtain ⟨e, he⟩ : ∃ e, es[j]? = some e := ⟨es[j]'(by rw [← hl.out]; exact hlt), List.getElem?_eq_getElem _⟩
      have he32 := (hS.ok e (List.mem_of_getElem? he)).s32
      have hRe := hR j e he
      have hnx : Hid ((es.map En.sm).take (j + 1) = (es.map En.sm).take j ++ [e.sm]) := Hid.mk' (by rw [List.take_add_one]; congr 1; simp [he])
      clear he hR
      have A1 := Arr.new wr 77 e.arr
      have hO1 := hO.alloc (.cells e.arr 77)
      have hbl1 := hbl.alloc hbl.size (.cells e.arr 77)
      have hrs := range_sm (rangeE A1)
      have hs0 := hbl.size
      go_upto_region 5 with (first
        | (refine ld54 (by rfl) _ (by rfl) g (off + j * 33) (by rfl) e he32 hRe ?_)
        | (refine st54n (by rfl) _ _ (by rfl) wr wr.heap.size rfl (by rfl) e (by rfl) (by rfl) he32 ?_))
      have hs1 : (wr.alloc (.cells e.arr 77)).heap.size = wr.heap.size + 1 := by simp
      generalize wr.alloc (.cells e.arr 77) = wa at *
      go_upto_region 6 with (first
        | (refine ld24 (by rfl) _ (by rfl) wr.heap.size (0 + 1) (by rfl) e.sm he32 hrs ?_)
        | (refine b1L (by rfl) _ (by rfl) e.sm (by rfl) he32 ?_)
        | (at_builtin; go_must (refine ag24 (by rfl) (.tmp 15) (.tmp 18) (by rfl) w.heap.size j _ _ e.sm (by rfl) (hO1.alloc _) wa.heap.size 1 (by rfl) (Arr.new wa 24 (h8 e.sm)) he32 (by omega) (by simp; omega) ?_; intro v' w6 hO6 hG6; have hbl6 := (hbl1.alloc (by omega) _).grown hG6 (by simp; omega) (fun k e => own_ge hO k e))))
      go_wp2_with fail
      go_roundw
      case rel => exact ⟨j + 1, by go_num, by omega, hbl6, by rw [hnx.out]; exact hO6⟩
      case measure => simp [intOf]; omega
    · obtain rfl : j = n := by omega
      have hI : ¬ (j : Int) < j := by omega
      have ht : Hid ((es.map En.sm).take j = es.map En.sm) := Hid.mk' (List.take_of_length_le (by rw [List.length_map, ← hl.out]; exact Nat.le_refl _))
      rw [ht.out] at hO
      obtain ⟨sp6, cp6, rfl, hH, hb⟩ := own_hs hO h32.out (by rw [List.length_map]; exact hl.out) (by omega)
      go_wp2_with fail
      go_ret
      exact ⟨sp6, cp6, rfl, hH, hb, hbl⟩
theorem tr5_len {ls : List (List Int)} (h : ∀ x ∈ ls, x.length = 32) : (tr 5 ls).length = 32 := tr_len 5 ls h
set_option maxHeartbeats 1000000 in
theorem troot_any (N : Nat) (sp : Option Addr) (n cap : Nat) (es : List En) (w : World) (hS : ES N w sp n cap es) (hn : n ≤ 32) :
    Calls Try.prog 46 #[.slice sp n cap] w fun e w' => e = .returned (.agg (h8 (tr 5 (es.map En.sm)))) ∧ Below w.heap.size w w' := by
  have A0 := Arr.new w 24 (h8 Z32)
  have hb0 := alloc_bel' w (.cells (h8 Z32) 24)
  have hl := hS.len
  have h32 : Hid (∀ x ∈ es.map En.sm, x.length = 32) := Hid.mk' (fun x hx => by
    obtain ⟨e, he, rfl⟩ := List.mem_map.1 hx
    exact (hS.ok e he).s32)
  have hT32 := tr5_len h32.out
  have hok : Hid (rE 5 (es.map En.sm).length = 0 ∧ rR 5 (es.map En.sm) = tr 5 (es.map En.sm)) := Hid.mk' (rR_ok (m := 5) (by omega) (by rw [List.length_map, ← hl.out]; exact hn))
  have hL := leaves_any _ sp n cap es _ (hS.here.below hb0) hn
  go_enter Try.func46, Try.ntmps46
  go_upto_region 2 with (first
    | (go_at_call 72; go_must (refine hL.mono ?_; rintro e w1 ⟨sp1, cp1, rfl, hH1, -, hb1⟩; have hR := root_any 5 _ sp1 n cp1 _ _ hH1; rw [hok.out.1, hok.out.2] at hR))
    | (go_at_call 71; go_must (refine hR.mono ?_; rintro e w2 ⟨rfl, hb2⟩))
    | (refine st24n (by rfl) _ _ (by rfl) w2 w2.heap.size rfl (by rfl) _ (by rfl) (by rfl) hT32 ?_))
  have hb12 := hb1.trans (hb2.mono hb1.size)
  have hB2 := hb0.trans (hb12.mono (by simp))
  have A2 := A0.below hb12 (by simp)
  have A2' := A2.alloc (.cells (h8 (tr 5 (es.map En.sm))) 24)
  have A3 := Arr.new w2 24 (h8 (tr 5 (es.map En.sm)))
  have hB3 := hB2.alloc hB2.size (.cells (h8 (tr 5 (es.map En.sm))) 24)
  go_wp2_with (first
    | (refine ld24 (by rfl) _ (by rfl) w2.heap.size 0 (by rfl) _ hT32 A3.range ?_)
    | (refine st24 (by rfl) _ _ (by rfl) w.heap.size _ Z32 (by rfl) (by rfl) hT32 Z32_len A2' ?_))
  exact bodyPost_ret (v := .agg (h8 (tr 5 (es.map En.sm)))) (res24 Try.results46 rfl hT32 (A2'.setRow _)) rfl ⟨rfl, below_setRow hB3 (Nat.le_refl _) _⟩
set_option maxHeartbeats 1000000 in
theorem countSum_any (n : Int) (w : World) :
    Calls Try.prog 48 #[.int .u64 n] w fun e w' => e = .returned (.agg (h8 (cnt n))) ∧ Below w.heap.size w w' := by
  have A0 := Arr.new w 24 (h8 Z32)
  have hb0 := alloc_bel' w (.cells (h8 Z32) 24)
  have hc := cnt_len n
  have hF := fun w => from_any _ (w4 n) w (w4_cells n)
  rw [from_cnt] at hF
  replace hF := Hid.mk' hF
  go_enter Try.func48, Try.ntmps48
  go_wp2_with (first
    | (refine bdT (by rfl) 112 _ (by rfl) (by rfl) (built112 n) ?_)
    | (go_at_call 74; go_must (refine (hF.out _).mono ?_; rintro e w2 ⟨rfl, hb2⟩; have A2 := A0.below hb2 (by simp)))
    | (refine st24 (by rfl) _ _ (by rfl) w.heap.size _ Z32 (by rfl) (by rfl) hc Z32_len A2 ?_))
  have hB2 := hb0.trans (hb2.mono (by simp))
  exact bodyPost_ret (v := .agg (h8 (cnt n))) (res24 Try.results48 rfl hc (A2.setRow _)) rfl ⟨rfl, below_setRow hB2 (Nat.le_refl _) _⟩
set_option maxHeartbeats 1000000 in
theorem count_any (ps : List Ac) (sp : Option Addr) (n cap : Nat) (w : World) (h1 : ps.length = 32) (h2 : ∀ a ∈ ps, a.lk.length = 32) (hn : n ≤ 140737488355328) :
    Calls Try.prog 49 #[.agg (stA ps sp n cap)] w fun e w' => e = .returned (.int .u64 n) ∧ Below w.heap.size w w' := by
  have A0 := Arr.new w 30 (stA ps sp n cap)
  have hb0 := alloc_bel' w (.cells (stA ps sp n cap) 30)
  have c1 := A0.stOut h1 h2
  have hw : (n : Int) % 18446744073709551616 = n := by omega
  go_enter Try.func49, Try.ntmps49
  go_wp2_with fail
  go_ret
  exact ⟨by simp [hw], hb0⟩
end Go.Proofs.Ytlebojbfcolkhaa
/- Layer state: Total and May, and the document's. -/
namespace Go.Proofs.Ytlebojbfcolkhaa
open Go.RowKit
set_option maxRecDepth 100000
set_option linter.unusedVariables false
set_option linter.unusedSimpArgs false

/-- What Total answers. -/
def ttV (ps : List Ac) : Int := (tt ps 0).getD 0
def ttE (ps : List Ac) : Int := if (tt ps 0).isSome then 0 else 4
theorem tt_step {ps : List Ac} {k : Nat} {a : Ac} {t : Int} (ha : ps[k]? = some a) : tt (ps.drop k) t = if a.bal > 4611686018427387904 - t then none else tt (ps.drop (k + 1)) (t + a.bal) := by
  have hk := (List.getElem?_eq_some_iff.1 ha).1
  rw [List.drop_eq_getElem_cons hk, (List.getElem?_eq_some_iff.1 ha).2, tt]
set_option maxHeartbeats 1000000 in
theorem total_any (ps : List Ac) (sp : Option Addr) (n cap : Nat) (w : World) (h1 : ps.length = 32) (hok : ∀ a ∈ ps, AcOK a) :
    Calls Try.prog 9 #[.agg (stA ps sp n cap)] w fun e w' => e = .returned (.tuple #[.int .u64 (ttV ps), .int .i64 (ttE ps)]) ∧ Below w.heap.size w w' := by
  have h2 : ∀ a ∈ ps, a.lk.length = 32 := fun a ha => (hok a ha).l32
  have A0 := Arr.new w 30 (stA ps sp n cap)
  have hb0 := alloc_bel' w (.cells (stA ps sp n cap) 30)
  go_enter Try.func9, Try.ntmps9
  go_wp2_with (refine ld27 (by rfl) _ (by rfl) w.heap.size 30 (by rfl) ps sp n cap h1 h2 A0 ?_)
  go_loopw [4, 9] (fun v q wr => ∃ (k : Nat) (t : Int), v = .int .u64 t ∧ q = .int .i64 (k : Int) ∧ k ≤ 32 ∧ 0 ≤ t ∧ t ≤ 4611686018427387904 ∧ Hid (tt ps 0 = tt (ps.drop k) t) ∧ Below w.heap.size w wr) (fun _ q _ => 32 - (intOf q).toNat)
  case atStart => exact ⟨0, 0, rfl, rfl, by omega, by omega, by omega, Hid.mk' (by simp), hb0⟩
  case round =>
    obtain ⟨k, t, rfl, rfl, hk, ht0, ht1, hT, hbl⟩ := hrel
    clear A0 hb0
    by_cases hlt : k < 32
    · have hI : (k : Int) < 32 := by omega
      obtain ⟨a, ha⟩ : ∃ a, ps[k]? = some a := ⟨ps[k]'(by omega), List.getElem?_eq_getElem _⟩
      have hix := index27 h2 hlt ha
      have ha32 := h2 a (List.mem_of_getElem? ha)
      have hao := hok a (List.mem_of_getElem? ha)
      have hb0 := hao.b0
      have hb1 := hao.b1
      have hst := Hid.mk' (tt_step (t := t) ha)
      have A1 := Arr.new wr 26 a.arr
      have c0 := ac_c0 A1.ac
      have hbl1 := hbl.alloc hbl.size (.cells a.arr 26)
      have hw1 : (4611686018427387904 - t) % 18446744073709551616 = 4611686018427387904 - t := by omega
      clear ha hao
      by_cases hgt : a.bal > 4611686018427387904 - t
      · have hv : Hid (ttV ps = 0 ∧ ttE ps = 4) := Hid.mk' (by unfold ttV ttE; rw [hT.out, hst.out, if_pos hgt]; exact ⟨rfl, rfl⟩)
        go_wp2_with (refine st26n (by rfl) _ _ (by rfl) wr wr.heap.size rfl (by rfl) a (by rfl) (by rfl) ha32 ?_)
        go_ret2
        exact ⟨by rw [hv.out.1, hv.out.2]; rfl, hbl1⟩
      · have hw2 : (t + a.bal) % 18446744073709551616 = t + a.bal := by omega
        have hn : Hid (tt ps 0 = tt (ps.drop (k + 1)) (t + a.bal)) := Hid.mk' (by rw [hT.out, hst.out, if_neg hgt])
        go_wp2_with (refine st26n (by rfl) _ _ (by rfl) wr wr.heap.size rfl (by rfl) a (by rfl) (by rfl) ha32 ?_)
        go_roundw
        case rel => exact ⟨k + 1, t + a.bal, by simp [hw2], by go_num, by omega, by omega, by omega, hn, hbl1⟩
        case measure => simp [intOf]; omega
    · obtain rfl : k = 32 := by omega
      have hv : Hid (ttV ps = t ∧ ttE ps = 0) := Hid.mk' (by unfold ttV ttE; rw [hT.out, List.drop_eq_nil_of_le (by omega)]; exact ⟨rfl, rfl⟩)
      go_wp2_with fail
      go_ret2
      exact ⟨by rw [hv.out.1, hv.out.2]; rfl, hbl⟩
set_option maxHeartbeats 1000000 in
theorem refTotal_any (ps : List Ac) (sp : Option Addr) (n cap : Nat) (w : World) (h1 : ps.length = 32) (hok : ∀ a ∈ ps, AcOK a) :
    Calls Try.prog 10 #[.agg (stA ps sp n cap)] w fun e w' => e = .returned (.tuple #[.int .u64 (ttV ps), .int .i64 (ttE ps)]) ∧ Below w.heap.size w w' := by
  have h2 : ∀ a ∈ ps, a.lk.length = 32 := fun a ha => (hok a ha).l32
  have A0 := Arr.new w 30 (stA ps sp n cap)
  have hb0 := alloc_bel' w (.cells (stA ps sp n cap) 30)
  go_enter Try.func10, Try.ntmps10
  go_wp2_with fail
  go_loopw [4, 5] (fun v q wr => ∃ (k : Nat) (t : Int), v = .int .u64 t ∧ q = .int .i64 (k : Int) ∧ k ≤ 32 ∧ 0 ≤ t ∧ t ≤ 4611686018427387904 ∧ Hid (tt ps 0 = tt (ps.drop k) t) ∧ Below w.heap.size w wr ∧ Arr wr w.heap.size 30 (stA ps sp n cap)) (fun _ q _ => 32 - (intOf q).toNat)
  case atStart => exact ⟨0, 0, rfl, rfl, by omega, by omega, by omega, Hid.mk' (by simp), hb0, A0⟩
  case round =>
    obtain ⟨k, t, rfl, rfl, hk, ht0, ht1, hT, hbl, A⟩ := hrel
    clear A0 hb0
    by_cases hlt : k < 32
    · have hI : (k : Int) < 32 := by omega
      obtain ⟨a, ha⟩ : ∃ a, ps[k]? = some a := ⟨ps[k]'(by omega), List.getElem?_eq_getElem _⟩
      have hao := hok a (List.mem_of_getElem? ha)
      have hb0 := hao.b0
      have hb1 := hao.b1
      have hst := Hid.mk' (tt_step (t := t) ha)
      have c0 := ac_c0 (A.stAt h2 ha)
      have hw1 : (4611686018427387904 - t) % 18446744073709551616 = 4611686018427387904 - t := by omega
      clear ha hao
      by_cases hgt : a.bal > 4611686018427387904 - t
      · have hv : Hid (ttV ps = 0 ∧ ttE ps = 4) := Hid.mk' (by unfold ttV ttE; rw [hT.out, hst.out, if_pos hgt]; exact ⟨rfl, rfl⟩)
        go_wp2_with fail
        go_ret2
        exact ⟨by rw [hv.out.1, hv.out.2]; rfl, hbl⟩
      · have hw2 : (t + a.bal) % 18446744073709551616 = t + a.bal := by omega
        have hn : Hid (tt ps 0 = tt (ps.drop (k + 1)) (t + a.bal)) := Hid.mk' (by rw [hT.out, hst.out, if_neg hgt])
        go_wp2_with fail
        go_roundw
        case rel => exact ⟨k + 1, t + a.bal, by simp [hw2], by go_num, by omega, by omega, by omega, hn, hbl, A⟩
        case measure => simp [intOf]; omega
    · obtain rfl : k = 32 := by omega
      have hv : Hid (ttV ps = t ∧ ttE ps = 0) := Hid.mk' (by unfold ttV ttE; rw [hT.out, List.drop_eq_nil_of_le (by omega)]; exact ⟨rfl, rfl⟩)
      go_wp2_with fail
      go_ret2
      exact ⟨by rw [hv.out.1, hv.out.2]; rfl, hbl⟩
set_option maxHeartbeats 1000000 in
theorem may_any (ps : List Ac) (sp : Option Addr) (n cap : Nat) (w : World) (h1 : ps.length = 32) (hok : ∀ a ∈ ps, AcOK a) (hn : n ≤ 140737488355328) :
    Calls Try.prog 13 #[.agg (stA ps sp n cap)] w fun e w' => e = .returned (.bool (may ps n)) ∧ Below w.heap.size w w' := by
  have h2 : ∀ a ∈ ps, a.lk.length = 32 := fun a ha => (hok a ha).l32
  have A0 := Arr.new w 30 (stA ps sp n cap)
  have hb0 := alloc_bel' w (.cells (stA ps sp n cap) 30)
  have hT := total_any ps sp n cap (w.alloc (.cells (stA ps sp n cap) 30)) h1 hok
  have hm : Hid (may ps n = ((tt ps 0).isSome && decide (n ≤ 32))) := Hid.mk' rfl
  by_cases hs : (tt ps 0).isSome
  · have e : ttE ps = 0 := by unfold ttE; rw [if_pos hs]
    rw [e] at hT
    clear e
    by_cases hle : n ≤ 32
    · have hI : (n : Int) ≤ 32 := by omega
      have hm' : Hid (may ps n = true) := Hid.mk' (by rw [hm.out, hs, decide_eq_true hle]; rfl)
      clear hs hm
      replace hT := Hid.mk' hT
      go_enter Try.func13, Try.ntmps13
      go_upto_region 2 with (first
        | (refine ld30 (by rfl) _ (by rfl) w.heap.size 30 (by rfl) ps sp n cap h1 h2 A0 ?_)
        | (go_at_call 9; go_must (refine hT.out.mono ?_; rintro e w1 ⟨rfl, hb1⟩)))
      have c1 := (A0.below hb1 (by simp)).stOut h1 h2
      go_wp2_with fail
      go_ret
      exact ⟨by (rw [hm'.out]; first | rfl | simp [hI]), hb0.trans (hb1.mono (by simp))⟩
    · have hI : ¬ (n : Int) ≤ 32 := by omega
      have hm' : Hid (may ps n = false) := Hid.mk' (by rw [hm.out, hs, decide_eq_false hle]; rfl)
      clear hs hm
      replace hT := Hid.mk' hT
      go_enter Try.func13, Try.ntmps13
      go_upto_region 2 with (first
        | (refine ld30 (by rfl) _ (by rfl) w.heap.size 30 (by rfl) ps sp n cap h1 h2 A0 ?_)
        | (go_at_call 9; go_must (refine hT.out.mono ?_; rintro e w1 ⟨rfl, hb1⟩)))
      have c1 := (A0.below hb1 (by simp)).stOut h1 h2
      go_wp2_with fail
      go_ret
      exact ⟨by (rw [hm'.out]; first | rfl | simp [hI]), hb0.trans (hb1.mono (by simp))⟩
  · have e : ttE ps = 4 := by unfold ttE; rw [if_neg hs]
    rw [e] at hT
    clear e
    have hm' : Hid (may ps n = false) := Hid.mk' (by rw [hm.out, Bool.eq_false_iff.2 hs]; rfl)
    clear hs hm
    replace hT := Hid.mk' hT
    go_enter Try.func13, Try.ntmps13
    go_upto_region 2 with (first
      | (refine ld30 (by rfl) _ (by rfl) w.heap.size 30 (by rfl) ps sp n cap h1 h2 A0 ?_)
      | (go_at_call 9; go_must (refine hT.out.mono ?_; rintro e w1 ⟨rfl, hb1⟩)))
    have c1 := (A0.below hb1 (by simp)).stOut h1 h2
    go_wp2_with fail
    go_ret
    exact ⟨by (rw [hm'.out]; first | rfl | simp [hI]), hb0.trans (hb1.mono (by simp))⟩
set_option maxHeartbeats 1000000 in
theorem refMay_any (ps : List Ac) (sp : Option Addr) (n cap : Nat) (w : World) (h1 : ps.length = 32) (hok : ∀ a ∈ ps, AcOK a) (hn : n ≤ 140737488355328) :
    Calls Try.prog 14 #[.agg (stA ps sp n cap)] w fun e w' => e = .returned (.bool (may ps n)) ∧ Below w.heap.size w w' := by
  have h2 : ∀ a ∈ ps, a.lk.length = 32 := fun a ha => (hok a ha).l32
  have A0 := Arr.new w 30 (stA ps sp n cap)
  have hb0 := alloc_bel' w (.cells (stA ps sp n cap) 30)
  have hT := refTotal_any ps sp n cap (w.alloc (.cells (stA ps sp n cap) 30)) h1 hok
  have hm : Hid (may ps n = ((tt ps 0).isSome && decide (n ≤ 32))) := Hid.mk' rfl
  by_cases hs : (tt ps 0).isSome
  · have e : ttE ps = 0 := by unfold ttE; rw [if_pos hs]
    rw [e] at hT
    clear e
    by_cases hle : n ≤ 32
    · have hI : (n : Int) ≤ 32 := by omega
      have hm' : Hid (may ps n = true) := Hid.mk' (by rw [hm.out, hs, decide_eq_true hle]; rfl)
      clear hs hm
      replace hT := Hid.mk' hT
      go_enter Try.func14, Try.ntmps14
      go_upto_region 2 with (first
        | (refine ld30 (by rfl) _ (by rfl) w.heap.size 30 (by rfl) ps sp n cap h1 h2 A0 ?_)
        | (go_at_call 10; go_must (refine hT.out.mono ?_; rintro e w1 ⟨rfl, hb1⟩)))
      have c1 := (A0.below hb1 (by simp)).stOut h1 h2
      go_wp2_with fail
      go_ret
      exact ⟨by (rw [hm'.out]; first | rfl | simp [hI]), hb0.trans (hb1.mono (by simp))⟩
    · have hI : ¬ (n : Int) ≤ 32 := by omega
      have hm' : Hid (may ps n = false) := Hid.mk' (by rw [hm.out, hs, decide_eq_false hle]; rfl)
      clear hs hm
      replace hT := Hid.mk' hT
      go_enter Try.func14, Try.ntmps14
      go_upto_region 2 with (first
        | (refine ld30 (by rfl) _ (by rfl) w.heap.size 30 (by rfl) ps sp n cap h1 h2 A0 ?_)
        | (go_at_call 10; go_must (refine hT.out.mono ?_; rintro e w1 ⟨rfl, hb1⟩)))
      have c1 := (A0.below hb1 (by simp)).stOut h1 h2
      go_wp2_with fail
      go_ret
      exact ⟨by (rw [hm'.out]; first | rfl | simp [hI]), hb0.trans (hb1.mono (by simp))⟩
  · have e : ttE ps = 4 := by unfold ttE; rw [if_neg hs]
    rw [e] at hT
    clear e
    have hm' : Hid (may ps n = false) := Hid.mk' (by rw [hm.out, Bool.eq_false_iff.2 hs]; rfl)
    clear hs hm
    replace hT := Hid.mk' hT
    go_enter Try.func14, Try.ntmps14
    go_upto_region 2 with (first
      | (refine ld30 (by rfl) _ (by rfl) w.heap.size 30 (by rfl) ps sp n cap h1 h2 A0 ?_)
      | (go_at_call 10; go_must (refine hT.out.mono ?_; rintro e w1 ⟨rfl, hb1⟩)))
    have c1 := (A0.below hb1 (by simp)).stOut h1 h2
    go_wp2_with fail
    go_ret
    exact ⟨by (rw [hm'.out]; first | rfl | simp [hI]), hb0.trans (hb1.mono (by simp))⟩
end Go.Proofs.Ytlebojbfcolkhaa
