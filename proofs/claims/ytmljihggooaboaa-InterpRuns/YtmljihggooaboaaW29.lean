/- Is9x, Is, It0. -/
import Derived.Test.YtmljihggooaboaaW27
import Derived.Handy
import Derived.BigQuiet
import Derived.BigRegion
import Derived.Test.YtmljihggooaboaaW28
import Derived.Test.YtmljihggooaboaaW03
/- Layer interp: how many arguments a statement has. -/
namespace Go.Proofs.Ytmljihggooaboaa
open Go.RowKit
set_option maxRecDepth 100000
set_option linter.unusedVariables false
set_option linter.unusedSimpArgs false

set_option maxHeartbeats 4000000 in
theorem args_9 {α : Type} {N : Nat} {sp : Option Addr} {n cap : Nat} {fs : List FuT} {da vs : Int} {fi : Nat} {fn : FuT} (w : World) (hS : RS N w 3 (FuM N w) sp n cap fs) (hN : N ≤ w.heap.size) (hfi : fs[fi]? = some fn) (hvs : fn.v = vs) (v f t : Int) (a : List (ExT 8)) (th el : List α) (sa : Option Addr) (na ca : Nat) (sb : Option Addr) (nb cb : Nat) (sc : Option Addr) (nc cc : Nat) (hth : nb = th.length) (hel : nc = el.length) :
    Calls Try.prog 55 #[.agg #[.slice sp n cap, .int .i64 da], .int .i64 (fi : Int), .agg (stC 9 v f t (.slice sa na ca) (.slice sb nb cb) (.slice sc nc cc)).toArray] w (fun e w' => e = .returned (.int .i64 (agN ((fs.take fi).map FuT.p) vs (⟨9, v, f, t, a, th, el⟩ : StN α))) ∧ Below w.heap.size w w') := by
  have b0 : Below w.heap.size w ((w.alloc (.cells #[.slice sp n cap, .int .i64 da] 24)).alloc (.cells (stC 9 v f t (.slice sa na ca) (.slice sb nb cb) (.slice sc nc cc)).toArray 78)) := (ab w _).alloc (by simp) _
  have hlen := hS.len.out
  have hfl := (List.getElem?_eq_some_iff.1 hfi).1
  have hin : fi < n := by omega
  have hin' : (fi : Int) < n := by omega
  have hpl : ((fs.take fi).map FuT.p).length = fi := by rw [List.length_map, List.length_take]; omega
  obtain ⟨g, off, rfl, hg, hR⟩ := hS.at0 (by omega)
  obtain ⟨cf, hrg, hMf⟩ := hR fi fn hfi
  obtain ⟨qa, qb, qc, rfl, -, -⟩ := hMf
  have hrg2 := rb hrg (b0.mono hN) hg
  have cv : ((w.alloc (.cells #[.slice (some ⟨g, off, none⟩) n cap, .int .i64 da] 24)).alloc (.cells (stC 9 v f t (.slice sa na ca) (.slice sb nb cb) (.slice sc nc cc)).toArray 78)).cell? ⟨g, off + fi * 3 + 1, none⟩ = some (.int .i64 vs) := by rw [← hvs]; exact hrg2 1 _ rfl
  obtain ⟨z, hz⟩ : ∃ z, z = agN ((fs.take fi).map FuT.p) vs (⟨9, v, f, t, a, th, el⟩ : StN α) := ⟨_, rfl⟩
  rw [← hz]
  have hz2 := hz
  unfold agN g1 g2 g3 nmB at hz2
  dsimp only at hz2
  rw [← hth, ← hel, hpl] at hz2
  replace hz2 := hid hz2
  clear hS hR hrg hrg2 hlen hfl hfi hvs hz hpl hN hth hel
  unfold stC at *
  by_cases c0 : v < 0
  · have hzz : Hid (z = -1) := hid (by have h := hz2.out; rw [h]; simp at c0 ⊢; omega)
    clear hz2
    go_enter Try.func55, Try.ntmps55
    go_upto_region 2 with fail
    go_quiet (fail)
    go_wp2_with fail
    go_ret
    rw [hzz.out]
    exact ⟨rfl, dwN ((ab w _).alloc (by simp) _) _⟩
  by_cases c1 : vs ≤ v
  · have hzz : Hid (z = -1) := hid (by have h := hz2.out; rw [h]; simp at c0 c1 ⊢; omega)
    clear hz2
    go_enter Try.func55, Try.ntmps55
    go_upto_region 2 with fail
    go_quiet (fail)
    go_wp2_with fail
    go_ret
    rw [hzz.out]
    exact ⟨rfl, dwN ((ab w _).alloc (by simp) _) _⟩
  by_cases c2 : (f != 0) = true
  · have hzz : Hid (z = -1) := hid (by have h := hz2.out; rw [h]; simp at c0 c1 c2 ⊢; omega)
    clear hz2
    go_enter Try.func55, Try.ntmps55
    go_upto_region 2 with fail
    go_quiet (fail)
    go_wp2_with fail
    go_ret
    rw [hzz.out]
    exact ⟨rfl, dwN ((ab w _).alloc (by simp) _) _⟩
  replace c2 : (f != 0) = false := by simpa using c2
  by_cases c3 : (t != 0) = true
  · have hzz : Hid (z = -1) := hid (by have h := hz2.out; rw [h]; simp at c0 c1 c2 c3 ⊢; omega)
    clear hz2
    go_enter Try.func55, Try.ntmps55
    go_upto_region 2 with fail
    go_quiet (fail)
    go_wp2_with fail
    go_ret
    rw [hzz.out]
    exact ⟨rfl, dwN ((ab w _).alloc (by simp) _) _⟩
  replace c3 : (t != 0) = false := by simpa using c3
  by_cases c4 : 0 < (nb : Int)
  · have hzz : Hid (z = -1) := hid (by have h := hz2.out; rw [h]; simp at c0 c1 c2 c3 c4 ⊢; omega)
    clear hz2
    go_enter Try.func55, Try.ntmps55
    go_upto_region 2 with fail
    go_quiet (fail)
    go_wp2_with fail
    go_ret
    rw [hzz.out]
    exact ⟨rfl, dwN ((ab w _).alloc (by simp) _) _⟩
  by_cases c5 : 0 < (nc : Int)
  · have hzz : Hid (z = -1) := hid (by have h := hz2.out; rw [h]; simp at c0 c1 c2 c3 c4 c5 ⊢; omega)
    clear hz2
    go_enter Try.func55, Try.ntmps55
    go_upto_region 2 with fail
    go_quiet (fail)
    go_wp2_with fail
    go_ret
    rw [hzz.out]
    exact ⟨rfl, dwN ((ab w _).alloc (by simp) _) _⟩
  have hzz : Hid (z = 1) := hid (by have h := hz2.out; rw [h]; simp at c0 c1 c2 c3 c4 c5 ⊢; omega)
  clear hz2
  go_enter Try.func55, Try.ntmps55
  go_upto_region 2 with fail
  go_quiet (fail)
  go_wp2_with fail
  go_ret
  rw [hzz.out]
  exact ⟨rfl, dwN ((ab w _).alloc (by simp) _) _⟩
end Go.Proofs.Ytmljihggooaboaa
/- Layer interp: how many arguments a statement has, by the document. -/
namespace Go.Proofs.Ytmljihggooaboaa
open Go.RowKit
set_option maxRecDepth 100000
set_option linter.unusedVariables false
set_option linter.unusedSimpArgs false

theorem args_any {α : Type} {N : Nat} {sp : Option Addr} {n cap : Nat} {fs : List FuT} {da vs : Int} {fi : Nat} {fn : FuT} (w : World) (hS : RS N w 3 (FuM N w) sp n cap fs) (hN : N ≤ w.heap.size) (hfi : fs[fi]? = some fn) (hvs : fn.v = vs) (s : StN α) (sa : Option Addr) (na ca : Nat) (sb : Option Addr) (nb cb : Nat) (sc : Option Addr) (nc cc : Nat) (hth : nb = s.th.length) (hel : nc = s.el.length) :
    Calls Try.prog 55 #[.agg #[.slice sp n cap, .int .i64 da], .int .i64 (fi : Int), .agg (stC s.k s.v s.f s.t (.slice sa na ca) (.slice sb nb cb) (.slice sc nc cc)).toArray] w (fun e w' => e = .returned (.int .i64 (agN ((fs.take fi).map FuT.p) vs s)) ∧ Below w.heap.size w w') := by
  obtain ⟨k, v, f, t, a, th, el⟩ := s
  by_cases h1 : k = 1
  · subst h1; exact args_1 w hS hN hfi hvs v f t a th el sa na ca sb nb cb sc nc cc hth hel
  by_cases h2 : k = 2
  · subst h2; exact args_2 w hS hN hfi hvs v f t a th el sa na ca sb nb cb sc nc cc hth hel
  by_cases h3 : k = 3
  · subst h3; exact args_3 w hS hN hfi hvs v f t a th el sa na ca sb nb cb sc nc cc hth hel
  by_cases h4 : k = 4
  · subst h4; exact args_4 w hS hN hfi hvs v f t a th el sa na ca sb nb cb sc nc cc hth hel
  by_cases h5 : k = 5
  · subst h5; exact args_5 w hS hN hfi hvs v f t a th el sa na ca sb nb cb sc nc cc hth hel
  by_cases h6 : k = 6
  · subst h6; exact args_6 w hS hN hfi hvs v f t a th el sa na ca sb nb cb sc nc cc hth hel
  by_cases h7 : k = 7
  · subst h7; exact args_7 w hS hN hfi hvs v f t a th el sa na ca sb nb cb sc nc cc hth hel
  by_cases h8 : k = 8
  · subst h8; exact args_8 w hS hN hfi hvs v f t a th el sa na ca sb nb cb sc nc cc hth hel
  by_cases h9 : k = 9
  · subst h9; exact args_9 w hS hN hfi hvs v f t a th el sa na ca sb nb cb sc nc cc hth hel
  exact args_o w hS hN hfi hvs k v f t a th el sa na ca sb nb cb sc nc cc hth hel h1 h2 h3 h4 h5 h6 h7 h8 h9
end Go.Proofs.Ytmljihggooaboaa
/- Layer interp: statements one behind the other, by the document. -/
namespace Go.Proofs.Ytmljihggooaboaa
open Go.RowKit
set_option maxRecDepth 100000
set_option linter.unusedVariables false
set_option linter.unusedSimpArgs false

theorem stN_f {ps : List Int} {vs : Int} {d : Nat} {t : StT (d + 1)} {n : Nat} (hn : n ≠ 0) : stN ps vs (d + 1) t n = if agN ps vs t.nd = t.nd.a.length then ((fld (exN vs 8) t.nd.a (n - 1)).bind (fld (stN ps vs d) t.nd.th)).bind (fld (stN ps vs d) t.nd.el) else none := by
  have e : stN ps vs (d + 1) t n = if n = 0 ∨ mayS ps vs t.nd = false then none else (fld (exN vs 8) t.nd.a (n - 1)).bind fun n1 => (fld (stN ps vs d) t.nd.th n1).bind (fld (stN ps vs d) t.nd.el) := rfl
  rw [e]
  have hm := mayS_a (ps := ps) (vs := vs) (s := t.nd)
  by_cases h1 : agN ps vs t.nd = t.nd.a.length
  · rw [if_pos h1, if_neg]
    · cases fld (exN vs 8) t.nd.a (n - 1) <;> rfl
    · rintro (h | h)
      · exact hn h
      · rw [hm.2 h1] at h; cases h
  · rw [if_neg h1, if_pos]
    right
    cases h3 : mayS ps vs t.nd with
    | false => rfl
    | true => exact absurd (hm.1 h3) h1
def DsAt (N : Nat) (sp : Option Addr) (n cap : Nat) (fs : List FuT) (da vs : Int) (fi d : Nat) : Prop := ∀ (u : World) (cs : List Value) (t : StT d) (k : Nat), k ≤ 4096 → N ≤ u.heap.size → RS N u 3 (FuM N u) sp n cap fs → StM N u d cs t →
  Calls Try.prog 38 #[.agg #[.slice sp n cap, .int .i64 da], .int .i64 (fi : Int), .agg cs.toArray, .int .i64 (k : Int), .int .i64 (d : Int)] u (DoP (stN ((fs.take fi).map FuT.p) vs d t k) u)
set_option maxHeartbeats 2000000 in
theorem dstmts {N d : Nat} {sp : Option Addr} {n cap : Nat} {fs : List FuT} {da vs : Int} {fi : Nat} (hE : DsAt N sp n cap fs da vs fi d) (w : World) {sq : Option Addr} {m cq : Nat} {l : List (StT d)} (hS : RS N w 7 (StM N w d) sq m cq l) (hN : N ≤ w.heap.size) (hF : RS N w 3 (FuM N w) sp n cap fs) (q : Option Nat) (hq : ∀ k, q = some k → k ≤ 4096) (x y : Int) (hx : x = doR q) (hy : y = d) :
    Calls Try.prog 30 #[.agg #[.slice sp n cap, .int .i64 da], .int .i64 (fi : Int), .slice sq m cq, .int .i64 x, .int .i64 y] w (DoP (q.bind (fld (stN ((fs.take fi).map FuT.p) vs d) l)) w) := by
  subst hx hy
  have b0 := ab w (.cells #[.slice sp n cap, .int .i64 da] 24)
  have A := Arr.new w 24 #[.slice sp n cap, .int .i64 da]
  have hlen := hS.len
  have hsm := hS.small
  obtain ⟨r, hr⟩ : ∃ r, r = q.bind (fld (stN ((fs.take fi).map FuT.p) vs d) l) := ⟨_, rfl⟩
  rw [← hr]
  replace hr := hid hr
  have hNU : N ≤ (w.alloc (.cells #[.slice sp n cap, .int .i64 da] 24)).heap.size := by simp; omega
  have hSU := hS.imp (b0.mono hN) (StM.below (b0.mono hN) d)
  have hFU := hF.imp (b0.mono hN) (FuM.below (b0.mono hN))
  clear hS hF
  go_enter Try.func30, Try.ntmps30
  go_upto_region 2 with fail
  generalize hU : w.alloc (.cells #[.slice sp n cap, .int .i64 da] 24) = U at *
  go_loopw [3, 11] (fun a i wr => ∃ (j : Nat), i = .int .i64 (j : Int) ∧ j ≤ m ∧ ((∃ q : Nat, q ≤ 4096 ∧ a = .int .i64 (q : Int) ∧ Hid (r = fld (stN ((fs.take fi).map FuT.p) vs d) (l.drop j) q)) ∨ (a = .int .i64 (-1) ∧ Hid (r = none))) ∧ Below U.heap.size U wr)
    (fun _ i _ => m - (intOf i).toNat)
  case atStart =>
    refine ⟨0, rfl, by omega, ?_, Below.refl _ _⟩
    cases q with
    | none => exact .inr ⟨rfl, hr⟩
    | some k => exact .inl ⟨k, hq k rfl, rfl, hid (by rw [List.drop_zero]; exact hr.out)⟩
  case round =>
    obtain ⟨j, rfl, hj, hqq, hb⟩ := hrel
    have B2 := b0.trans (hb.mono b0.size)
    rcases hqq with ⟨q, hq, rfl, hf⟩ | ⟨rfl, hf⟩
    · have hq0 : (0 : Int) ≤ q := by omega
      by_cases hlt : j < m
      · obtain ⟨t, ht⟩ : ∃ t, l[j]? = some t := ⟨l[j]'(by rw [← hlen.out]; exact hlt), List.getElem?_eq_getElem _⟩
        obtain ⟨g, off, rfl, hg, hR⟩ := hSU.at0 (by omega)
        obtain ⟨cs, hrg, hM⟩ := hR j t ht
        have hrg2 := rb hrg hb (by omega)
        have hM2 := StM.below (hb.mono hNU) d cs t hM
        have hF2 := hFU.imp (hb.mono hNU) (FuM.below (hb.mono hNU))
        obtain ⟨xk, xv, xf, xt, xa, ya, za, xb, yb, zb, xc, yc, zc, rfl⟩ := hM.cells
        have c0 := hrg2 0 _ rfl
        have c1 := hrg2 1 _ rfl
        have c2 := hrg2 2 _ rfl
        have c3 := hrg2 3 _ rfl
        have c4 := hrg2 4 _ rfl
        have c5 := hrg2 5 _ rfl
        have c6 := hrg2 6 _ rfl
        simp only [Nat.add_zero] at c0
        have a0 := (A.bl hb).cell 0
        have a1 := (A.bl hb).cell 1
        have hlt' : (j : Int) < m := by omega
        have h0 : (0 : Int) ≤ j := by omega
        have hfd := fld_drop (f := stN ((fs.take fi).map FuT.p) vs d) ht q
        have bd : Below wr.heap.size wr wr.drew := dw1 (Below.refl _ _)
        have hcc := hE wr.drew _ t q hq (by have := hb.size; show N ≤ wr.heap.size; omega) (hF2.imp (bd.mono (by have := hb.size; omega)) (FuM.below (bd.mono (by have := hb.size; omega)))) (StM.below (bd.mono (by have := hb.size; omega)) d _ t hM2)
        unfold DoP at hcc
        clear hSU hR hrg hrg2 hM hM2 hlen ht hE A hFU hF2 hr
        cases hx : stN ((fs.take fi).map FuT.p) vs d t q with
        | none =>
          rw [hx] at hcc hfd
          have hrn : Hid (r = none) := hid (hf.out.trans hfd)
          clear hx hfd hf
          unfold stC at *
          go_upto_region 4 with fail
          go_region_with (go_at_call 38; go_must (refine hcc.mono ?_; rintro e w1 ⟨rfl, hb1⟩))
          all_goals
            go_wp2_with fail
            go_roundw
            case rel => exact ⟨j + 1, by go_num, by omega, .inr ⟨rfl, hrn⟩, hb.trans ((bd.trans hb1).mono hb.size)⟩
            case measure => simp [intOf]; omega
        | some q' =>
          have hq' := stN_le d t q q' hx
          rw [hx] at hcc hfd
          have hrn : Hid (r = fld (stN ((fs.take fi).map FuT.p) vs d) (l.drop (j + 1)) q') := hid (hf.out.trans hfd)
          clear hx hfd hf
          unfold stC at *
          go_upto_region 4 with fail
          go_region_with (go_at_call 38; go_must (refine hcc.mono ?_; rintro e w1 ⟨rfl, hb1⟩))
          all_goals
            go_wp2_with fail
            go_roundw
            case rel => exact ⟨j + 1, by go_num, by omega, .inl ⟨q', by omega, rfl, hrn⟩, hb.trans ((bd.trans hb1).mono hb.size)⟩
            case measure => simp [intOf]; omega
      · obtain rfl : j = m := by omega
        have hrn : Hid (r = some q) := hid (by rw [hf.out, hlen.out, List.drop_length]; rfl)
        have hlt' : ¬ (j : Int) < j := by omega
        clear hSU hf hlen hE hFU hr
        go_wp2_with fail
        go_ret
        rw [hrn.out]
        exact ⟨rfl, B2⟩
    · clear hSU hlen hE hFU hr
      by_cases hlt : j < m
      · have hlt' : (j : Int) < m := by omega
        go_wp2_with fail
        go_ret
        rw [hf.out]
        exact ⟨rfl, B2⟩
      · have hlt' : ¬ (j : Int) < m := by omega
        go_wp2_with fail
        go_ret
        rw [hf.out]
        exact ⟨rfl, B2⟩
end Go.Proofs.Ytmljihggooaboaa
