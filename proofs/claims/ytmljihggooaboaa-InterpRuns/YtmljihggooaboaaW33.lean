/- Layer interp: is a preimage asked for? -/
import Derived.Test.YtmljihggooaboaaW32
import Derived.Test.YtmljihggooaboaaW08
import Derived.Handy
import Derived.BigQuiet
import Derived.BigRegion
namespace Go.Proofs.Ytmljihggooaboaa
open Go.RowKit
set_option maxRecDepth 100000
set_option linter.unusedVariables false
set_option linter.unusedSimpArgs false

/-- Does a statement ask for a preimage? -/
def prT : (d : Nat) → StT d → Bool
  | 0, _ => false
  | d + 1, t => decide (t.nd.k = 8) || decide (t.nd.k = 9) || t.nd.th.any (prT d) || t.nd.el.any (prT d)
theorem any_no {α : Type} {f : α → Bool} {l : List α} (h : l.any f = false) {a : α} (ha : a ∈ l) : f a = false := by
  cases h2 : f a with
  | false => rfl
  | true => rw [List.any_eq_true.2 ⟨a, ha, h2⟩] at h; cases h
/-- Where nothing is asked for, what is known does not matter. -/
theorem stm_na {fs : List FuT} {es es' : List En} (hfs : ∀ f ∈ fs, f.b.any (prT 8) = false) (hfo : ∀ f ∈ fs, ∀ b ∈ f.b, ∃ ps vs, okS ps vs 8 b) : ∀ (G d : Nat) (t : StT d) (s : SS) (ps : List Int) (vs : Int), okS ps vs d t → prT d t = false → stm (EV fs es) G d t s = stm (EV fs es') G d t s
  | 0, d, t, s, _, _, _, _ => rfl
  | G + 1, 0, t, s, _, _, _, _ => rfl
  | G + 1, d + 1, t, ⟨W, V, 0⟩, _, _, _, _ => by rw [stm_sp t _ rfl, stm_sp t _ rfl]
  | G + 1, d + 1, t, ⟨W, V, k + 1⟩, ps, vs, hok, h => by
    obtain ⟨hmy, hoa, hob, hoe⟩ := okS_s hok
    have h' := h
    simp only [prT, Bool.or_eq_false_iff, decide_eq_false_iff_not] at h'
    obtain ⟨⟨⟨h8, h9⟩, hth⟩, hel⟩ := h'
    cases hev : evs W V 8 t.nd.a with
    | none => rw [stm_tr hev, stm_tr hev]
    | some L =>
      rw [stm_on hev, stm_on hev]
      have hR : ∀ {d' : Nat} (l : List (StT d')) (s : SS), (∀ a ∈ l, ∃ ps vs, okS ps vs d' a) → l.any (prT d') = false → runL (stm (EV fs es) G d') l s = runL (stm (EV fs es') G d') l s := fun {d'} l s ho hl => by
        induction l generalizing s with
        | nil => rfl
        | cons a r ih =>
          obtain ⟨ps', vs', ho1⟩ := ho a (by simp)
          have ha := stm_na hfs hfo (es := es) (es' := es') G d' a s ps' vs' ho1 (any_no hl (by simp))
          have hr : r.any (prT d') = false := by simp only [List.any_cons, Bool.or_eq_false_iff] at hl; exact hl.2
          show (if _ then _ else _) = (if _ then _ else _)
          rw [ha, ih _ (fun b hb => ho b (by simp [hb])) hr]
      have hC : runL (stm (EV fs es) G 8) ((fs[t.nd.f.toNat]?).elim [] FuT.b) = runL (stm (EV fs es') G 8) ((fs[t.nd.f.toNat]?).elim [] FuT.b) := by
        funext s
        cases hf : fs[t.nd.f.toNat]? with
        | none => rfl
        | some f => exact hR f.b s (hfo f (List.mem_of_getElem? hf)) (hfs f (List.mem_of_getElem? hf))
      unfold one
      by_cases h1 : t.nd.k = 1
      · rw [if_pos h1, if_pos h1]
      rw [if_neg h1, if_neg h1]
      by_cases h2 : t.nd.k = 2
      · rw [if_pos h2, if_pos h2]
      rw [if_neg h2, if_neg h2]
      by_cases h3 : t.nd.k = 3
      · rw [if_pos h3, if_pos h3]
        split
        · exact hR _ _ (fun a ha => ⟨_, _, hoe a ha⟩) hel
        · exact hR _ _ (fun a ha => ⟨_, _, hob a ha⟩) hth
      rw [if_neg h3, if_neg h3]
      by_cases h4 : t.nd.k = 4
      · rw [if_pos h4, if_pos h4, hR _ _ (fun a ha => ⟨_, _, hob a ha⟩) hth]
        split
        · rfl
        · split
          · exact stm_na hfs hfo G (d + 1) t _ ps vs hok h
          · rfl
      rw [if_neg h4, if_neg h4]
      by_cases h5 : t.nd.k = 5
      · rw [if_pos h5, if_pos h5]
      rw [if_neg h5, if_neg h5]
      by_cases h6 : t.nd.k = 6
      · rw [if_pos h6, if_pos h6]
        show back _ _ (runL (stm (EV fs es) G 8) ((fs[t.nd.f.toNat]?).elim [] FuT.b) _) = back _ _ (runL (stm (EV fs es') G 8) ((fs[t.nd.f.toNat]?).elim [] FuT.b) _)
        rw [hC]
        rfl
      rw [if_neg h6, if_neg h6]
      by_cases h7 : t.nd.k = 7
      · rw [if_pos h7, if_pos h7]
        rfl
      rw [if_neg h7, if_neg h7, if_neg h8, if_neg h8]
      exfalso
      unfold mayS at hmy
      rw [if_neg (by omega), if_neg h2, if_neg h3, if_neg h4, if_neg h5, if_neg h6, if_neg h7, if_neg h8] at hmy
      cases hmy
set_option maxHeartbeats 1000000 in
theorem pre_any : ∀ (d : Nat) {N : Nat} {sp : Option Addr} {m cap : Nat} {l : List (StT d)} {ps : List Int} {vs : Int} (w : World) (hN : N ≤ w.heap.size) (hS : RS N w 7 (StM N w d) sp m cap l) (hok : ∀ a ∈ l, okS ps vs d a), Calls Try.prog 14 #[.slice sp m cap] w (BoP (l.any (prT d)) w)
  | 0, N, sp, m, cap, l, ps, vs, w, hN, hS, hok => by
    obtain rfl : l = [] := by
      cases l with
      | nil => rfl
      | cons a r => obtain ⟨_, _, h⟩ := hok a (by simp); cases h
    obtain rfl : m = 0 := hS.len.out
    go_enter Try.func14, Try.ntmps14
    go_upto_region 2 with fail
    go_loopw [3] (fun q wr => q = .int .i64 0 ∧ wr = w) (fun _ _ => 0)
    case atStart => exact ⟨rfl, rfl⟩
    case round =>
      obtain ⟨rfl, rfl⟩ := hrel
      go_wp2_with fail
      go_ret
      exact ⟨rfl, Below.refl _ _⟩
  | d + 1, N, sp, m, cap, l, ps, vs, w, hN, hS, hok => by
    have hlen := hS.len
    have hsm := hS.small
    obtain ⟨R, hR0⟩ : ∃ R, l.any (prT (d + 1)) = R := ⟨_, rfl⟩
    rw [hR0]
    go_enter Try.func14, Try.ntmps14
    go_upto_region 2 with fail
    go_loopw [3] (fun q wr => ∃ (j : Nat), q = .int .i64 (j : Int) ∧ j ≤ m ∧ Below w.heap.size w wr ∧ Hid ((l.drop j).any (prT (d + 1)) = R)) (fun q _ => m - (intOf q).toNat)
    case atStart => exact ⟨0, rfl, by omega, Below.refl _ _, hid hR0⟩
    case round =>
      obtain ⟨j, rfl, hj, hbl, han⟩ := hrel
      by_cases hlt : j < m
      · have hlt' : (j : Int) < m := by omega
        obtain ⟨t, ht⟩ : ∃ t, l[j]? = some t := ⟨l[j]'(by rw [← hlen.out]; exact hlt), List.getElem?_eq_getElem _⟩
        have hts := okS_s (hok t (List.mem_of_getElem? ht))
        obtain ⟨g, off, rfl, hg, hR⟩ := hS.at0 (by omega)
        obtain ⟨cs, hrg, hM⟩ := hR j t ht
        have hbN := hbl.mono hN
        have hrg2 := rb hrg hbN hg
        obtain ⟨sa, na, ca, sb, nb, cb, sc, nc, cc, rfl, hk0, hSa, hSb, hSc⟩ := StM.below hbN (d + 1) cs t hM
        have hdr : (l.drop j).any (prT (d + 1)) = (prT (d + 1) t || (l.drop (j + 1)).any (prT (d + 1))) := by
          obtain ⟨hj2, rfl⟩ := List.getElem?_eq_some_iff.1 ht
          rw [List.drop_eq_getElem_cons hj2, List.any_cons]
        have c0 : wr.cell? ⟨g, off + j * 7, none⟩ = some (.int .u8 t.nd.k) := by simpa using hrg2 0 _ rfl
        have c5 : wr.cell? ⟨g, off + j * 7 + 5, none⟩ = some (.slice sb nb cb) := hrg2 5 _ rfl
        have c6 : wr.cell? ⟨g, off + j * 7 + 6, none⟩ = some (.slice sc nc cc) := hrg2 6 _ rfl
        have hsz := hbl.size
        have hT := hid (pre_any d wr (by omega) hSb hts.2.2.1)
        have hE := hid fun (u : World) (hb : Below wr.heap.size wr u) => pre_any d u (by have := hb.size; omega) (hSc.imp (hb.mono (by omega)) (StM.below (hb.mono (by omega)) d)) hts.2.2.2
        have hpt : prT (d + 1) t = (decide (t.nd.k = 8) || decide (t.nd.k = 9) || t.nd.th.any (prT d) || t.nd.el.any (prT d)) := rfl
        have hn := han.out
        rw [hdr, hpt] at hn
        replace hg := hid hg
        clear hR0 hS hR hrg hrg2 hM hSa hSb hSc hok hts hdr hpt han ht hbN
        generalize hkk : t.nd.k = kk at *
        by_cases h8 : kk = 8
        · have e8 : (kk == 8) = true := by simpa using h8
          rw [decide_eq_true h8] at hn
          simp only [Bool.true_or] at hn
          replace hn := hid hn
          replace h8 := hid h8
          go_wp2_with fail
          go_ret
          exact ⟨by rw [← hn.out]; rfl, hbl⟩
        have e8 : (kk == 8) = false := by simpa using h8
        rw [decide_eq_false h8] at hn
        by_cases h9 : kk = 9
        · have e9 : (kk == 9) = true := by simpa using h9
          rw [decide_eq_true h9] at hn
          simp only [Bool.true_or, Bool.or_true] at hn
          replace hn := hid hn
          replace h9 := hid h9
          replace h8 := hid h8
          go_wp2_with fail
          go_ret
          exact ⟨by rw [← hn.out]; rfl, hbl⟩
        have e9 : (kk == 9) = false := by simpa using h9
        rw [decide_eq_false h9] at hn
        simp only [Bool.false_or] at hn
        replace h9 := hid h9
        replace h8 := hid h8
        unfold BoP at hT hE
        cases hb1 : t.nd.th.any (prT d) with
        | true =>
          rw [hb1] at hn hT
          simp only [Bool.true_or] at hn
          replace hn := hid hn
          clear hE hb1 hkk
          go_wp2_with (go_at_call 14; go_must (refine hT.out.mono ?_; rintro e w1 ⟨rfl, hw1⟩))
          go_ret
          exact ⟨by rw [← hn.out]; rfl, hbl.trans (hw1.mono hbl.size)⟩
        | false =>
          rw [hb1] at hn hT
          simp only [Bool.false_or] at hn
          cases hb2 : t.nd.el.any (prT d) with
          | true =>
            rw [hb2] at hn hE
            simp only [Bool.true_or] at hn
            replace hn := hid hn
            clear hb1 hb2 hkk
            go_wp2_with (first
              | (go_at_call 14; have hq := hT; clear hT; go_must (refine hq.out.mono ?_; rintro e w1 ⟨rfl, hw1⟩; have d6 := (hw1.cell (p := ⟨g, off + j * 7 + 6, none⟩) (block_lt_of_cell c6)).trans c6))
              | (go_at_call 14; go_must (refine (hE.out _ hw1).mono ?_; rintro e w2 ⟨rfl, hw2⟩)))
            go_ret
            exact ⟨by rw [← hn.out]; rfl, (hbl.trans (hw1.mono hbl.size)).trans (hw2.mono (by have := hw1.size; omega))⟩
          | false =>
            rw [hb2] at hn hE
            simp only [Bool.false_or] at hn
            have hn2 := hid hn
            clear hb1 hb2 hkk hn
            go_wp2_with (first
              | (go_at_call 14; have hq := hT; clear hT; go_must (refine hq.out.mono ?_; rintro e w1 ⟨rfl, hw1⟩; have d6 := (hw1.cell (p := ⟨g, off + j * 7 + 6, none⟩) (block_lt_of_cell c6)).trans c6))
              | (go_at_call 14; go_must (refine (hE.out _ hw1).mono ?_; rintro e w2 ⟨rfl, hw2⟩)))
            go_roundw
            case rel => exact ⟨j + 1, by go_num, by omega, (hbl.trans (hw1.mono hbl.size)).trans (hw2.mono (by have := hw1.size; omega)), hn2⟩
            case measure => simp [intOf]; omega
      · obtain rfl : j = m := by omega
        have hn := han.out
        rw [List.drop_eq_nil_of_le (by rw [hlen.out]; exact Nat.le_refl _)] at hn
        replace hn : Hid (false = R) := hid hn
        clear hS han hlen hok hR0
        go_wp2_with fail
        go_ret
        exact ⟨by rw [← hn.out]; rfl, hbl⟩
end Go.Proofs.Ytmljihggooaboaa
