/- Mx, My, Sr, Pd, Px, Sa, Pe, Ab, Ae, Af, ZVt. -/
import Derived.Test.YtagebcbnenehfaaGreatX13
namespace Go.Proofs.YtagebcbnenehfaaGreat
open Go.RowKit
set_option maxRecDepth 100000
set_option linter.unusedVariables false
set_option linter.unusedSimpArgs false
set_option maxHeartbeats 40000000
section
open Go.RowKit Go.Shelf
set_option maxRecDepth 100000 in
theorem refBad_any (d : Int) (n : Nat) (w : World) : Calls Tryz.prog 143 #[.int .i64 d, .int .i64 n] w fun e w' => e = .returned (.int .i64 (rE d n)) ∧ w' = w := by
 unfold rE
 by_cases h1 : 0 ≤ d
 · by_cases h2 : d ≤ 16
   · rw [if_pos ⟨h1, h2⟩]
     obtain ⟨m, rfl⟩ : ∃ m : Nat, d = m := ⟨d.toNat, by omega⟩
     have hm : m ≤ 16 := by omega
     have hwp := wrap_pow hm
     rw [Int.toNat_natCast]
     obtain ⟨p, hp⟩ : ∃ p : Nat, p = 2 ^ m := ⟨_, rfl⟩
     rw [← hp] at hwp ⊢
     replace hp := Hid.mk' hp
     by_cases h3 : n ≤ p
     · rw [if_pos h3]
       have h4 : ¬ (p : Int) < n := by omega
       go_enter Tryz.func143, Tryz.ntmps143
       go_wp2
       go_ret
       exact ⟨rfl, rfl⟩
     · rw [if_neg h3]
       have h4 : (p : Int) < n := by omega
       go_enter Tryz.func143, Tryz.ntmps143
       go_wp2
       go_ret
       exact ⟨rfl, rfl⟩
   · rw [if_neg (fun h => h2 h.2)]
     go_enter Tryz.func143, Tryz.ntmps143
     go_wp2
     go_ret
     exact ⟨rfl, rfl⟩
 · rw [if_neg (fun h => h1 h.1)]
   go_enter Tryz.func143, Tryz.ntmps143
   go_wp2
   go_ret
   exact ⟨rfl, rfl⟩
theorem HS.fst {N : Nat} {w : World} {sp : Option Addr} {n cap : Nat} {ls : List (List Int)} (h : HS N w sp n cap ls) (p : Nat) (hp : p ≤ n) : HS N w sp p cap (ls.take p) := by
 have hl := h.len.out
 refine ⟨show p = _ by rw [List.length_take]; omega, fun e => ?_, by have := h.le; omega, h.big, by have := h.small; omega, fun h0 => ?_, fun X hX => h.l32 X (List.mem_of_mem_take hX)⟩
 · have := h.nil e; exact ⟨by omega, this.2⟩
 · obtain ⟨g, off, e, hg, hR⟩ := h.at0 (by omega)
   refine ⟨g, off, e, hg, fun i X hX => hR i X ?_⟩
   have hi : i < p := by have := (List.getElem?_eq_some_iff.1 hX).1; rw [List.length_take] at this; omega
   rw [List.getElem?_take_of_lt hi] at hX; exact hX
set_option maxRecDepth 100000 in
theorem refroot_any (d : Nat) : ∀ (N : Nat) (sp : Option Addr) (n cap : Nat) (ls : List (List Int)) (w : World) (x : Int), x = (d : Int) → d ≤ 16 → HS N w sp n cap ls →
   Calls Tryz.prog 144 #[.int .i64 x, .slice sp n cap] w fun e w' => e = .returned (.agg (h8 (tr d ls))) ∧ Below w.heap.size w w' := by
 induction d with
 | zero =>
   intro N sp n cap ls w x hx hd hS
   obtain rfl : x = 0 := hx
   have A0 := Arr.new w 30 (h8 Z32)
   have hb0 := alloc_bel' w (.cells (h8 Z32) 30)
   have hln := hS.len
   have hle := hS.le
   have hsm := hS.small
   by_cases h0 : 0 < n
   · obtain ⟨g, off, rfl, hgN, hR⟩ := (hS.here.below hb0).at0 h0
     have hlen : 0 < ls.length := by rw [← hln.out]; exact h0
     have hX := hR 0 ls[0] (List.getElem?_eq_getElem hlen)
     have hX32 := hS.l32 ls[0] (List.getElem_mem hlen)
     have e0 : tr 0 ls = ls[0] := by cases ls with | nil => simp at hlen | cons a r => rfl
     rw [e0]
     generalize ls[0] = X at *
     rw [Nat.zero_mul, Nat.add_zero] at hX
     have h0I : (0 : Int) < n := by omega
     rw [h8_Z] at hX A0 hb0
     go_enter Tryz.func144, Tryz.ntmps144
     go_wp2_with (first
       | (refine ld24 (by rfl) _ (by rfl) g off (by rfl) X hX32 hX ?_)
       | (refine st24n (by rfl) _ _ (by rfl) w w.heap.size rfl (by rfl) X (by rfl) (by rfl) hX32 ?_))
     exact bodyPost_ret (v := .agg (h8 X)) (res24 Tryz.results144 rfl hX32 (Arr.new w 30 _)) rfl ⟨rfl, alloc_bel' w _⟩
   · obtain rfl : n = 0 := by omega
     obtain rfl : ls = [] := List.eq_nil_of_length_eq_zero hln.out.symm
     have e0 : tr 0 [] = Z32 := rfl
     rw [e0]
     go_enter Tryz.func144, Tryz.ntmps144
     go_wp2_with (first
       | (refine st24n (by rfl) _ _ (by rfl) w w.heap.size rfl (by rfl) Z32 (by rfl) (by rfl) Z32_len ?_))
     exact bodyPost_ret (v := .agg (h8 Z32)) (res24 Tryz.results144 rfl Z32_len (Arr.new w 30 _)) rfl ⟨rfl, alloc_bel' w _⟩
 | succ d ih =>
   intro N sp n cap ls w x hx hd hS
   have hS := hS.here
   have A0 := Arr.new w 30 (h8 Z32)
   have hb0 := alloc_bel' w (.cells (h8 Z32) 30)
   have hln := hS.len
   have hle := hS.le
   have hsm := hS.small
   have hbig := hS.big
   have hx1 : x - 1 = (d : Int) := by omega
   have hx0 : ¬ x = 0 := by omega
   have hxl : 0 < x := by omega
   have hxu : x ≤ 17 := by omega
   have hd16 : d ≤ 16 := by omega
   have hwp := wrap_pow hd16
   have hp16 := pow16 hd16
   have hwd : IntKind.i64.wrap (d : Int) = d := by rw [IntKind.wrap_i64]; omega
   obtain ⟨p, hp⟩ : ∃ p : Nat, p = 2 ^ d := ⟨_, rfl⟩
   have hp0 : 0 < p := by rw [hp]; exact Nat.pow_pos (by omega)
   rw [← hp] at hwp hp16
   have hH0 := hS.below hb0
   have htl : ∀ l : List (List Int), (∀ X ∈ l, X.length = 32) → (tr d l).length = 32 := fun l hl => tr_len d l hl
   have hall := hS.l32
   replace hx := Hid.mk' hx
   by_cases h0 : n = 0
   · have hnil : ls = [] := List.eq_nil_of_length_eq_zero (by rw [← hln.out]; exact h0)
     rw [hnil, tr_nil]
     have hX := htl [] (fun X h => by cases h)
     have ihc := fun w x hx => ih _ none 0 0 [] w x hx hd16 (HS.nil0 w.heap.size w)
     generalize tr d [] = X at *
     have hXX := pr_len X X
     subst h0
     rw [h8_Z] at A0 hb0
     clear hH0
     go_enter Tryz.func144, Tryz.ntmps144
     go_wp2_with (first
       | (go_at_call 130; go_must (refine (refPair_h X X _ hX hX).mono ?_; rintro e w3 ⟨rfl, hb3⟩; have hs3 := hb3.size; simp at hs3; have S3 := A2.below hb3 (by simp; omega); have bw3 := bw2.trans (hb3.mono (by simp; omega))))
       | (go_at_call 144; go_must (refine (ihc _ _ (by first | exact hx1 | rfl | exact hwd)).mono ?_; rintro e w2 ⟨rfl, hb2⟩; have hs2 := hb2.size; simp at hs2; have A2 := (A0.below hb2 (by simp)).alloc (.cells (h8 X) 30); have V2 := Arr.new w2 30 (h8 X); have bw2 := (hb0.trans (hb2.mono (by simp))).alloc (by omega) (.cells (h8 X) 30)))
       | (refine st24 (by rfl) _ _ (by rfl) w.heap.size (pr X X) Z32 (by rfl) (by rfl) hXX Z32_len S3 ?_)
       | (refine st24n (by rfl) _ _ (by rfl) w2 w2.heap.size rfl (by rfl) X (by rfl) (by rfl) hX ?_)
       | (refine ld24 (by rfl) _ (by rfl) w2.heap.size 0 (by rfl) X hX V2.range ?_))
     exact bodyPost_ret (v := .agg (h8 (pr X X))) (res24 Tryz.results144 rfl hXX (S3.setRow _)) rfl ⟨rfl, below_setRow bw3 (Nat.le_refl _) _⟩
   · have h0I : ¬ (n : Int) = 0 := by omega
     by_cases h1 : n ≤ p
     · have h1I : (n : Int) ≤ p := by omega
       have e1 : tr (d + 1) ls = pr (tr d ls) (tr d []) := by rw [tr_succ, List.drop_eq_nil_of_le (by rw [← hln.out, ← hp]; exact h1)]
       rw [e1]
       replace hp := Hid.mk' hp
       have hX := htl [] (fun X h => by cases h)
       have hY := htl ls hall
       have ihc := fun w x hx => ih _ none 0 0 [] w x hx hd16 (HS.nil0 w.heap.size w)
       have ihd := fun N w x hx hS => ih N sp n cap ls w x hx hd16 hS
       generalize tr d [] = X at *
       generalize tr d ls = Y at *
       have hYX := pr_len Y X
       rw [h8_Z] at A0 hb0 hH0
       go_enter Tryz.func144, Tryz.ntmps144
       go_wp2_with (first
         | (go_at_call 130; go_must (refine (refPair_h Y X _ hY hX).mono ?_; rintro e w4 ⟨rfl, hb4⟩; have hs4 := hb4.size; have S4 := A3.below hb4 (by omega); have bw4 := bw3.trans (hb4.mono (by omega))))
         | (go_at_call 144; go_must (first
           | (refine (ihc w2 _ (by first | exact hx1 | rfl | exact hwd)).mono ?_; rintro e w3 ⟨rfl, hb3⟩; have hs3 := hb3.size; have A3 := A2.below hb3 (by omega); have bw3 := bw2.trans (hb3.mono (by omega)))
           | (refine (ihd _ _ _ (by first | exact hx1 | rfl | exact hwd) hH0).mono ?_; rintro e w2 ⟨rfl, hb2⟩; have hs2 := hb2.size; simp at hs2; have A2 := A0.below hb2 (by simp); have bw2 := hb0.trans (hb2.mono (by simp)))))
         | (refine st24 (by rfl) _ _ (by rfl) w.heap.size (pr Y X) Z32 (by rfl) (by rfl) hYX Z32_len S4 ?_))
       exact bodyPost_ret (v := .agg (h8 (pr Y X))) (res24 Tryz.results144 rfl hYX (S4.setRow _)) rfl ⟨rfl, below_setRow bw4 (Nat.le_refl _) _⟩
     · have h1I : ¬ (n : Int) ≤ p := by omega
       obtain ⟨g, off, rfl, hgN, hR⟩ := hS.at0 (by omega)
       have hc1 : ¬ cap = p := by omega
       have hc2 : p ≤ cap := by omega
       have hpn : p ≤ n := by omega
       have e1 : tr (d + 1) ls = pr (tr d (ls.take p)) (tr d (ls.drop p)) := by rw [hp]; rfl
       rw [e1]
       have hX1 := htl (ls.take p) (fun X hX => hall X (List.mem_of_mem_take hX))
       have hX2 := htl (ls.drop p) (fun X hX => hall X (List.mem_of_mem_drop hX))
       have hYX := pr_len (tr d (ls.take p)) (tr d (ls.drop p))
       rw [h8_Z] at A0 hb0 hH0
       have hF0 := hH0.fst p hpn
       have hG0 := hH0.part p (n - p) (cap - p) (by omega) (by omega) (by omega) (by omega)
       rw [List.take_of_length_le (by rw [List.length_drop, ← hln.out]; omega)] at hG0
       replace hp := Hid.mk' hp
       go_enter Tryz.func144, Tryz.ntmps144
       go_upto_region 11 with fail
       try simp only [hx1, hwp, Int.toNat_natCast]
       have hsV : w.heap.size < (w.alloc (.cells (h8 Z32) 30)).heap.size := by simp
       rw [h8_Z] at hsV
       generalize w.alloc (.cells _ 30) = V at *
       have hF1 : HS w.heap.size V.drew (some ⟨g, off, none⟩) p cap (ls.take p) := hF0.below ((Below.refl _ _).drew)
       have hF2 : HS V.heap.size V (some ⟨g, off + p * 32, none⟩) (n - p) (cap - p) (ls.drop p) := hG0.mono (by omega)
       refine rgn (fun _ => True) trivial (fun hHeld => ?_)
       refine tk 0 rfl ?_
       refine tk 1 rfl ?_
       refine tk 2 rfl ?_
       refine tk 3 rfl ?_
       refine tk 4 rfl ?_
       refine tk 6 rfl ?_
       refine tk 7 rfl ?_
       refine tk 8 rfl ?_
       refine tk 9 rfl ?_
       refine tk 10 rfl ?_
       refine rd 5 rfl (fun K hK => ?_)
       go_simp
       refine (ih _ _ p cap (ls.take p) _ _ (by first | exact hx1 | rfl | exact hwd) (by omega) hF1).mono ?_; rintro e u1 ⟨rfl, hu1⟩; have hsu1 := hu1.size; simp at hsu1; have hH1 : Below V.heap.size V u1 := ((Below.refl V.heap.size V).drew).trans (hu1.mono (by simp))
       go_wp2_with fail
       refine ko hK trivial (fun hHeld => ?_)
       clear hK K
       refine rd 11 rfl (fun K hK => ?_)
       go_simp
       refine (ih _ _ (n - p) (cap - p) (ls.drop p) _ _ (by first | exact hx1 | rfl | exact hwd) (by omega) (hF2.below hH1)).mono ?_; rintro e u2 ⟨rfl, hu2⟩; have hsu2 := hu2.size; have hH2 : Below V.heap.size V u2 := hH1.trans (hu2.mono (by omega))
       go_wp2_with fail
       refine ko hK trivial (fun hHeld => ?_)
       clear hK K
       refine rd 12 rfl (fun K hK => ?_)
       go_simp
       refine (refPair_h _ _ _ hX1 hX2).mono ?_; rintro e u3 ⟨rfl, hu3⟩; have hsu3 := hu3.size; have hH3 : Below V.heap.size V u3 := hH2.trans (hu3.mono (by omega)); have S3 := A0.below hH3 (by omega)
       go_wp2_with fail
       refine ko hK trivial (fun hHeld => ?_)
       clear hK K
       refine rd 13 rfl (fun K hK => ?_)
       refine step_want rfl (wp_store_row 30 (.tmp 4) (.tmp 53) rfl w.heap.size (h8 (pr (tr d (ls.take p)) (tr d (ls.drop p)))) rfl rfl 30 _ S3 (s24h8 (pr_len _ _)) (by rw [h8_size, pr_len]; rfl) (h8_one _) ?_)
       refine ko hK trivial (fun hHeld => ?_)
       clear hK K
       refine dn ?_
       go_wp2_with fail
       exact bodyPost_ret (v := .agg (h8 (pr (tr d (ls.take p)) (tr d (ls.drop p))))) (res24 Tryz.results144 rfl hYX (S3.setRow _)) rfl ⟨rfl, below_setRow (hb0.trans (hH3.mono (by omega))) (Nat.le_refl _) _⟩
set_option maxRecDepth 100000 in
theorem refRoot_any (d : Int) (N : Nat) (sp : Option Addr) (n cap : Nat) (ls : List (List Int)) (w : World) (hS : HS N w sp n cap ls) :
   Calls Tryz.prog 83 #[.int .i64 d, .slice sp n cap] w fun e w' => e = .returned (.tuple #[.agg (h8 (rR d ls)), .int .i64 (rE d ls.length)]) ∧ Below w.heap.size w w' := by
 have hln := hS.len
 have hbd := refBad_any d n
 rw [← hln.out]
 have hb0 := alloc_bel' w (.cells (h8 Z32) 30)
 have hH0 := hS.here.below hb0
 have A0 := Arr.new w 30 (h8 Z32)
 have hRL := rR_len (d := d) hS.l32
 by_cases h : rE d n = 0
 · have e1 : rR d ls = tr d.toNat ls := by unfold rR; rw [← hln.out, if_pos h]
   have hd : 0 ≤ d ∧ d ≤ 16 := by
     unfold rE at h
     by_cases h2 : 0 ≤ d ∧ d ≤ 16
     · exact h2
     · rw [if_neg h2] at h; cases h
   have hr := refroot_any d.toNat w.heap.size sp n cap ls (w.alloc (.cells (h8 Z32) 30)) d (by omega) (by omega) hH0
   rw [← e1] at hr
   rw [h] at hbd ⊢
   clear e1 h
   generalize rR d ls = R at *
   rw [h8_Z] at hr hb0 A0
   clear hH0
   replace hr := Hid.mk' hr
   go_enter Tryz.func83, Tryz.ntmps83
   go_wp2_with (first
     | (go_at_call 143; go_must (refine (hbd _).mono ?_; rintro e w1 ⟨rfl, rfl⟩))
     | (go_at_call 144; go_must (refine hr.out.mono ?_; rintro e w2 ⟨rfl, hb2⟩; have S2 := A0.below hb2 (by simp)))
     | (refine st24 (by rfl) _ _ (by rfl) w.heap.size R Z32 (by rfl) (by rfl) hRL Z32_len S2 ?_))
   exact bodyPost_ret (v := .tuple #[.agg (h8 R), .int .i64 0]) (resP Tryz.results83 rfl rfl hRL (S2.setRow _)) rfl ⟨rfl, below_setRow (hb0.trans (hb2.mono (by simp))) (Nat.le_refl _) _⟩
 · have e1 : rR d ls = Z32 := by unfold rR; rw [← hln.out, if_neg h]
   rw [e1]
   generalize rE d n = c at *
   have hc : (c != 0) = true := by simpa using h
   rw [h8_Z] at hb0 A0
   clear hH0
   go_enter Tryz.func83, Tryz.ntmps83
   go_wp2_with (first
     | (go_at_call 143; go_must (refine (hbd _).mono ?_; rintro e w1 ⟨rfl, rfl⟩))
     | (refine st24n (by rfl) _ _ (by rfl) w w.heap.size rfl (by rfl) Z32 (by rfl) (by rfl) Z32_len ?_))
   exact bodyPost_ret (v := .tuple #[.agg (h8 Z32), .int .i64 c]) (resP Tryz.results83 rfl rfl Z32_len (Arr.new w 30 _)) rfl ⟨rfl, alloc_bel' w _⟩
end
section
open Go.RowKit Go.Shelf
theorem grown_below {B : Nat} {a w w' : World} {r : Option Nat} (h : Below B a w) (hg : w.grownBy w' r) (hr : ∀ k, r = some k → B ≤ k) (hB : B ≤ w.heap.size) : Below B a w' :=
 h.trans ⟨hg.os, hg.tape, hg.output, hg.size, fun k hk => hg.block k (by omega) (fun e => by have := hr k e.symm; omega)⟩
end
theorem atA {P : Program} {ops : Array Oper} {rest : List Oper} {a : Act} {w : World} {Q : Exit → Act → World → Prop} (x y : Operand) {t u : TypeId} {d} {ty} {pos} {af} {g} (h : wpList P ops Q (⟨d, .call { callee := .builtin .append, args := #[x, y], argTypes := #[t, u] }, ty, pos, af, g⟩ :: rest) a w) : wpList P ops Q (⟨d, .call { callee := .builtin .append, args := #[x, y], argTypes := #[t, u] }, ty, pos, af, g⟩ :: rest) a w := h
theorem atL {P : Program} {ops : Array Oper} {rest : List Oper} {a : Act} {w : World} {Q : Exit → Act → World → Prop} (t : TypeId) (x : Operand) {d} {ty} {pos} {af} {g} (h : wpList P ops Q (⟨d, .load t x, ty, pos, af, g⟩ :: rest) a w) : wpList P ops Q (⟨d, .load t x, ty, pos, af, g⟩ :: rest) a w := h
theorem atS {P : Program} {ops : Array Oper} {rest : List Oper} {a : Act} {w : World} {Q : Exit → Act → World → Prop} (t : TypeId) (x y : Operand) {d} {ty} {pos} {af} {g} (h : wpList P ops Q (⟨d, .store t x y, ty, pos, af, g⟩ :: rest) a w) : wpList P ops Q (⟨d, .store t x y, ty, pos, af, g⟩ :: rest) a w := h
theorem e8_take {n : Int} {j : Nat} (hj : j < 8) : (e8 n).take (j + 1) = (e8 n).take j ++ [n / 2 ^ (56 - 8 * j) % 256] := by
 rw [List.take_add_one]
 congr 1
 simp [e8, hj]
theorem leaf_any (sp : Option Addr) (n cap : Nat) (L : List Int) (w : World) (hn : n = L.length) (hnil : sp = none → n = 0 ∧ cap = 0) (hS : SlL w sp L) (hb : n ≤ 140737488355000) :
   Calls Tryz.prog 133 #[.slice sp n cap] w fun e w' => e = .returned (.agg (sha (0 :: L))) ∧ Below w.heap.size w w' := by
 obtain ⟨i0, hi, hz0, hz1, hz2⟩ := info_parts info5
 have hnI : (n : Int) ≤ 140737488355000 := by omega
 have hn0 : (0 : Int) ≤ n := by omega
 have HN := Hid.mk' hn
 clear hn
 go_enter Tryz.func133, Tryz.ntmps133
 go_wp2_with (first
   | (at_make; go_must (refine wpList_make_own _ (by rfl) (.const (.int .i64 0)) (.tmp 6) 32 (by rfl) (w.heap.size + 1) 5 i0 (.int .u8 0) 1 Tryz.underlying32 hi hz0 hz1 .i64 .i64 _ (n + 1) (by rfl) (by rfl) (by omega) (by rw [hz2]; omega) (Nat.le_trans (by omega) maxLen_ge) (by simp) ?_; intro w1 hown1 hg1; have hown1 : w1.ownsRow (w.heap.size + 1) 5 1 (.slice (some ⟨w.heap.size + 1, 0, none⟩) 0 (n + 1)) 0 [] := (by simpa using hown1); have hs1 : w.heap.size + 1 ≤ w1.heap.size := (by have := hg1.size; simpa using this); have hZ1 : ∃ Z : Array Value, Z.size = 32 ∧ Arr w1 w.heap.size 30 Z := ⟨_, by rfl, (Arr.new w 30 _).grown hg1 (by simp)⟩; have hS1 : SlL w1 sp L := (Sl.alloc hS _).grown hg1 (fun _ _ _ _ => by simp); have hB1 : Below w.heap.size w w1 := ((Below.refl _ _).alloc (Nat.le_refl _) _).grown hg1 (by simp) (by simp)))
   | (at_builtin; refine append_bytes (by rfl) (.tmp 8) (.tmp 9) (by rfl) (w.heap.size + 1) _ 0 [] (by rfl) (hown1.alloc _) (some ⟨w1.heap.size, 0, none⟩) 1 1 [0] (by rfl) (by rfl) (fun h => by cases h) (Arr.sl (Arr.new w1 5 _)) (by omega) (by simp; omega) ?_; intro v2 w2 hown2 hg2; obtain ⟨Z, hZs, hZ1⟩ := hZ1; have hZ2 := (hZ1.alloc _).grown hg2 (ne_own hown1 (by omega)); have hS2 : SlL w2 sp L := (Sl.alloc hS1 _).grown hg2 (fun b off e h0 => ne_own hown1 (by subst e; have := Sl.lt hS h0; omega)); have hB2 := (hB1.alloc (by omega) _).grown hg2 (by simp; omega) (fun k e => by have := own_ge hown1 k e; omega); have hs2 : w.heap.size + 1 ≤ w2.heap.size := (by have := hg2.size; simp at this; omega))
   | (at_builtin; refine append_bytes (by rfl) (.tmp 11) (.tmp 12) (by rfl) (w.heap.size + 1) _ 1 [0] (by rfl) hown2 sp n cap L (by rfl) HN.out hnil hS2 (by omega) hs2 ?_; intro v3 w3 hown3 hg3; have hZ3 := hZ2.grown hg3 (ne_own hown2 (by omega)); have hB3 := hB2.grown hg3 (by omega) (fun k e => by have := own_ge hown2 k e; omega); obtain ⟨g, cap3, rfl, hn3, hcap3, hg, hBy, -⟩ := own_slice hown3 (by omega))
   | (go_at_call 90; go_must (refine (sum_n g 0 (1 + n) cap3 ([0] ++ L) _ hn3 hBy hcap3 (by omega)).mono ?_; rintro e w4 ⟨rfl, hb4⟩; have hZ4 := hZ3.below hb4 hZ3.lt))
   | (refine wpList_store_arr (by rfl) 30 (.tmp 2) (.tmp 14) (by rfl) w.heap.size (sha ([0] ++ L)) (by rfl) (by rfl) 30 Z hZ4 (s24sha _) (by rw [hZs, sha_size]) (sha_one _) ?_))
 exact bodyPost_ret (v := .agg (sha (0 :: L))) (results_cell_row Tryz.results133 _ _ w.heap.size 30 _ (0, 0) _ rfl (hZ4.setRow _) Tryz.underlying30 rfl (s24sha _)) rfl ⟨rfl, below_setRow (hB3.trans (hb4.mono hB3.size)) (Nat.le_refl _) _⟩
theorem refLeaf_any (sp : Option Addr) (n cap : Nat) (L : List Int) (w : World) (hn : n = L.length) (hnil : sp = none → n = 0 ∧ cap = 0) (hS : SlL w sp L) (hb : n ≤ 140737488354000) :
   Calls Tryz.prog 131 #[.slice sp n cap] w fun e w' => e = .returned (.agg (sha (0 :: L))) ∧ Below w.heap.size w w' := by
 have HN := Hid.mk' hn
 clear hn
 have hlit : ∀ o : Obj, ((w.alloc o).alloc (.cells #[.int .u8 0] 5)).ownsRow (w.heap.size + 1) 5 1 (.slice (some ⟨w.heap.size + 1, 0, none⟩) 1 1) 1 (by8 [0]) := fun o => by
   have h : ((w.alloc o).alloc (.cells #[.int .u8 0] 5)).ownsRow (w.heap.size + 1) 5 1 (.slice (some ⟨(w.alloc o).heap.size, 0, none⟩) 1 1) 1 (by8 [0]) := World.ownsRow_lit _ _ _ (by simp) (by unfold maxLen; omega) rfl
   simpa using h
 go_enter Tryz.func131, Tryz.ntmps131
 go_wp2_with (first
   | (at_builtin; go_must (refine append_bytes (by rfl) (.tmp 3) (.tmp 4) (by rfl) (w.heap.size + 1) _ 1 [0] (by rfl) (hlit _) sp n cap L (by rfl) HN.out hnil (Sl.alloc (Sl.alloc hS _) _) (by omega) (by simp) ?_; intro v2 w2 hown2 hg2; obtain ⟨g, c2, rfl, hn2, hc2, hgg, hBy, -⟩ := own_slice hown2 (by omega); have hZ2 : ∃ Z : Array Value, Z.size = 32 ∧ Arr w2 w.heap.size 30 Z := ⟨_, by rfl, ((Arr.new w 30 _).alloc _).grown hg2 (by simp [Value.ownBlock])⟩; have hB2 : Below w.heap.size w w2 := (((Below.refl _ _).alloc (Nat.le_refl _) _).alloc (by simp) _).grown hg2 (by simp; omega) (fun k e => by simp [Value.ownBlock] at e; omega)))
   | (go_at_call 23; go_must (refine (refSum_any (some ⟨g, 0, none⟩) (1 + n) c2 (0 :: L) _ hn2.out (fun h => by cases h) (fun _ => ⟨g, 0, rfl, hBy⟩) (by omega)).mono ?_; rintro e w3 ⟨rfl, hb3⟩; obtain ⟨Z, hZs, hZ2⟩ := hZ2; have hZ3 := hZ2.below hb3 hZ2.lt))
   | (refine wpList_store_arr (by rfl) 30 (.tmp 2) (.tmp 6) (by rfl) w.heap.size (sha (0 :: L)) (by rfl) (by rfl) 30 Z hZ3 (s24sha _) (by rw [hZs, sha_size]) (sha_one _) ?_))
 exact bodyPost_ret (v := .agg (sha (0 :: L))) (results_cell_row Tryz.results131 _ _ w.heap.size 30 _ (0, 0) _ rfl (hZ3.setRow _) Tryz.underlying30 rfl (s24sha _)) rfl ⟨rfl, below_setRow (hB2.trans (hb3.mono hB2.size)) (Nat.le_refl _) _⟩
theorem eight_any (n : Int) (w : World) :
   Calls Tryz.prog 64 #[.int .u64 n] w fun e w' => ∃ v', e = .returned v' ∧ w'.ownsRow w.heap.size 5 1 v' 8 (by8 (e8 n)) ∧ Below w.heap.size w w' := by
 go_enter Tryz.func64, Tryz.ntmps64
 go_wp2_with fail
 go_loopw [3, 4] (fun u q wr => ∃ j : Nat, q = .int .i64 (7 - (j : Int)) ∧ j ≤ 8 ∧ wr.ownsRow w.heap.size 5 1 u j (by8 ((e8 n).take j)) ∧ Below w.heap.size w wr) (fun _ q _ => (intOf q + 1).toNat)
 case atStart => exact ⟨0, rfl, by omega, World.ownsRow_nil _ _ _ _, Below.refl _ _⟩
 case round =>
   obtain ⟨j, rfl, hj, hou, hbl⟩ := hrel
   have hsz := hbl.size
   by_cases hlt : j < 8
   · obtain ⟨i, hi⟩ : ∃ i, i = 7 - j := ⟨_, rfl⟩
     rw [show (7 - (j : Int)) = (i : Int) by omega]
     have hs0 : (0 : Int) ≤ (i : Int) := by omega
     have hs1 : (i : Int) ≤ 7 := by omega
     have hw1 : IntKind.i64.wrap (8 * (i : Int)) = 8 * i := by rw [IntKind.wrap_i64]; omega
     have hw2 : (8 * (i : Int)) % 18446744073709551616 = 8 * i := by omega
     have hw3 : (8 * (i : Int)).toNat = 8 * i := by omega
     have het : Hid ((e8 n).take (j + 1) = (e8 n).take j ++ [n / 2 ^ (8 * i) % 256]) := Hid.mk' (by rw [e8_take hlt, show 56 - 8 * j = 8 * i by omega])
     have hij : Hid ((i : Int) - 1 = 7 - ((j + 1 : Nat) : Int)) := Hid.mk' (by omega)
     clear hi
     go_wp2_with (at_builtin; go_must (refine append_bytes (by rfl) (.tmp 9) (.tmp 16) (by rfl) w.heap.size _ j ((e8 n).take j) (by rfl) (hou.alloc _) (some ⟨wr.heap.size, 0, none⟩) 1 1 [n / 2 ^ (8 * i) % 256] (by rfl) (by rfl) (fun h => by cases h) (Arr.sl (Arr.new wr 5 _)) (by omega) (by simp; omega) ?_; intro v2 w2 hown2 hg2; have hB2 := (hbl.alloc hsz _).grown hg2 (by simp; omega) (fun k e => own_ge hou k e)))
     go_roundw
     case rel => exact ⟨j + 1, congrArg (Value.int .i64) hij.out, by omega, by rw [het.out]; exact hown2, hB2⟩
     case measure => first | (simp [intOf]; omega) | simp [intOf]
   · obtain rfl : j = 8 := by omega
     have e8' : Hid ((e8 n).take 8 = e8 n) := Hid.mk' (List.take_of_length_le (by rw [e8_len]; exact Nat.le_refl _))
     go_wp2_with fail
     go_ret
     exact ⟨_, rfl, by rw [← e8'.out]; exact hou, hbl⟩
theorem refLeaf_bs (sp : Option Addr) (n cap N : Nat) (L : List Int) (w : World) (hS : BS N w sp n cap L) (hn : n ≤ 1000) :
   Calls Tryz.prog 131 #[.slice sp n cap] w fun e w' => e = .returned (.agg (h8 (lf L))) ∧ Below w.heap.size w w' := by
 have h := refLeaf_any sp n cap L w hS.len.out hS.nil hS.sl (by omega)
 rw [sha_h8] at h
 exact h
theorem leaf_bs (sp : Option Addr) (n cap N : Nat) (L : List Int) (w : World) (hS : BS N w sp n cap L) :
   Calls Tryz.prog 133 #[.slice sp n cap] w fun e w' => e = .returned (.agg (h8 (lf L))) ∧ Below w.heap.size w w' := by
 have h := leaf_any sp n cap L w hS.len.out hS.nil hS.sl hS.small
 rw [sha_h8] at h
 exact h
theorem pow12 {d : Nat} (h : d ≤ 12) : 2 ^ d ≤ 4096 := Nat.pow_le_pow_right (n := 2) (by omega) h
theorem len64_any (d : Nat) (hd : d ≤ 12) (w : World) : Calls Tryz.prog 74 #[.int .u64 (2 ^ d : Nat)] w fun e w' => e = .returned (.int .i64 ((d : Int) + 1)) ∧ w' = w := by
 rcases (show d = 0 ∨ d = 1 ∨ d = 2 ∨ d = 3 ∨ d = 4 ∨ d = 5 ∨ d = 6 ∨ d = 7 ∨ d = 8 ∨ d = 9 ∨ d = 10 ∨ d = 11 ∨ d = 12 by omega) with rfl | rfl | rfl | rfl | rfl | rfl | rfl | rfl | rfl | rfl | rfl | rfl | rfl
 all_goals
   simp only [Nat.reducePow]
   go_enter Tryz.func74, Tryz.ntmps74
   go_wp2
   go_ret
   exact ⟨by kernel_rfl, rfl⟩
theorem depthOf_any (d n : Nat) (hd : d ≤ 12) (hn : Hid (n = 2 ^ d)) (w : World) : Calls Tryz.prog 146 #[.int .i64 (n : Int)] w fun e w' => e = .returned (.int .i64 d) ∧ w' = w := by
 have h4 := pow12 hd
 have hl : ∀ w, Calls Tryz.prog 74 #[.int .u64 (n : Int)] w fun e w' => e = .returned (.int .i64 ((d : Int) + 1)) ∧ w' = w := fun w => by rw [hn.out]; exact len64_any d hd w
 rw [← hn.out] at h4
 have hlen : ∀ w, Calls Tryz.prog 30 #[.int .u64 (n : Int)] w fun e w' => e = .returned (.int .i64 ((d : Int) + 1)) ∧ w' = w := fun w => by
   go_enter Tryz.func30, Tryz.ntmps30
   go_wp2_with (go_at_call 74; go_must (refine (hl _).mono ?_; rintro e w1 ⟨rfl, h⟩; replace h := h.symm; subst h))
   go_ret
   exact ⟨rfl, rfl⟩
 have hwd : wrap64 ((d : Int) + 1 - 1) = d := by unfold wrap64; omega
 have hwd2 : (d : Int) + 1 - 1 = d := by omega
 have hun : (n : Int) % 18446744073709551616 = n := by omega
 go_enter Tryz.func146, Tryz.ntmps146
 go_wp2_with (go_at_call 30; go_must (refine (hlen _).mono ?_; rintro e w1 ⟨rfl, h⟩; replace h := h.symm; subst h))
 go_ret
 exact ⟨by first | rfl | (simp only [hwd]; rfl) | (simp only [hwd2]; rfl), rfl⟩
theorem mayDepthM_any (x : Int) (w : World) : Calls Tryz.prog 88 #[.int .i64 x] w fun e w' => e = .returned (.bool (decide (0 ≤ x ∧ x ≤ 12))) ∧ w' = w := by
 have hD : ∀ w, Calls Tryz.prog 146 #[.int .i64 4096] w fun e w' => e = .returned (.int .i64 12) ∧ w' = w := fun w => depthOf_any 12 4096 (by omega) (Hid.mk' (by rfl)) w
 by_cases h1 : 0 ≤ x
 · by_cases h2 : x ≤ 12
   · rw [decide_eq_true ⟨h1, h2⟩]
     go_enter Tryz.func88, Tryz.ntmps88
     go_wp2_with (go_at_call 146; go_must (refine (hD _).mono ?_; rintro e w1 ⟨rfl, h⟩; replace h := h.symm; subst h))
     go_ret
     exact ⟨rfl, rfl⟩
   · rw [decide_eq_false (fun h => h2 h.2)]
     go_enter Tryz.func88, Tryz.ntmps88
     go_wp2_with (go_at_call 146; go_must (refine (hD _).mono ?_; rintro e w1 ⟨rfl, h⟩; replace h := h.symm; subst h))
     go_ret
     exact ⟨by first | rfl | simp [h2], rfl⟩
 · rw [decide_eq_false (fun h => h1 h.1)]
   go_enter Tryz.func88, Tryz.ntmps88
   go_wp2_with (go_at_call 146; go_must (refine (hD _).mono ?_; rintro e w1 ⟨rfl, h⟩; replace h := h.symm; subst h))
   go_ret
   exact ⟨rfl, rfl⟩
theorem zmc_ok (L : List Int) (hU : ∀ k, U64 (L.getD k 0)) : (⟨0, List.replicate 16 0, 0, L⟩ : Mc).ok := by
 refine ⟨by simp [U64], by simp, fun k => ?_, ⟨Int.le_refl 0, show (0 : Int) < 256 by decide⟩, hU⟩
 show U64 ((List.replicate 16 (0 : Int)).getD k 0)
 have : (List.replicate 16 (0 : Int)).getD k 0 = 0 := by
   rw [List.getD_eq_getElem?_getD]
   by_cases hk : k < 16
   · rw [List.getElem?_replicate_of_lt hk]; rfl
   · rw [List.getElem?_eq_none (by rw [List.length_replicate]; omega)]; rfl
 rw [this]
 simp [U64]
theorem mayBe_any (sp : Option Addr) (n cap : Nat) (L : List Int) (N : Nat) (w : World) (hM : MS N w sp n cap L) (hU : ∀ k, U64 (L.getD k 0)) :
   Calls Tryz.prog 68 #[.slice sp n cap] w fun e w' => e = .returned (.bool (szB L.length)) ∧ Below w.heap.size w w' := by
 have hm := fun w => may_anyV ⟨0, List.replicate 16 0, 0, L⟩ sp n cap w (zmc_ok L hU) hM.len hM.small
 have hb : mayM ⟨0, List.replicate 16 0, 0, L⟩ = szB L.length := by simp [mayM]
 rw [hb] at hm
 generalize szB L.length = b at *
 have hC : mcA ⟨0, List.replicate 16 0, 0, L⟩ sp n cap = #[.int .u64 0, .int .u64 0, .int .u64 0, .int .u64 0, .int .u64 0, .int .u64 0, .int .u64 0, .int .u64 0, .int .u64 0, .int .u64 0, .int .u64 0, .int .u64 0, .int .u64 0, .int .u64 0, .int .u64 0, .int .u64 0, .int .u64 0, .int .u8 0, .slice sp n cap] := rfl
 rw [hC] at hm
 clear hM hC hb
 go_enter Tryz.func68, Tryz.ntmps68
 go_wp2_with (go_at_call 26; go_must (refine (hm _).mono ?_; rintro e w1 ⟨rfl, hb1⟩))
 go_ret
 exact ⟨rfl, hb1⟩
theorem appW_any (base m : Nat) (v : Value) (L : List Int) (n : Int) (w : World) (hown : w.ownsRow base 5 1 v m (by8 L)) (hbase : base ≤ w.heap.size) (hm : m ≤ 1000) :
   Calls Tryz.prog 89 #[v, .int .u64 n] w fun e w' => ∃ v', e = .returned v' ∧ w'.ownsRow base 5 1 v' (m + 8) (by8 (L ++ e8 n)) ∧ Below base w w' := by
 go_enter Tryz.func89, Tryz.ntmps89
 go_wp2_with fail
 go_loopw [0, 5] (fun u q wr => ∃ j : Nat, q = .int .i64 (56 - 8 * (j : Int)) ∧ j ≤ 8 ∧ wr.ownsRow base 5 1 u (m + j) (by8 (L ++ (e8 n).take j)) ∧ Below base w wr ∧ base ≤ wr.heap.size) (fun _ q _ => (intOf q + 8).toNat)
 case atStart => exact ⟨0, rfl, by omega, by simpa using hown, Below.refl _ _, hbase⟩
 case round =>
   obtain ⟨j, rfl, hj, hou, hbl, hsz⟩ := hrel
   clear hown
   by_cases hlt : j < 8
   · have hs0 : (0 : Int) ≤ 56 - 8 * (j : Int) := by omega
     have het : Hid ((e8 n).take (j + 1) = (e8 n).take j ++ [n / 2 ^ (56 - 8 * j) % 256]) := Hid.mk' (e8_take hlt)
     go_wp2_with (at_builtin; go_must (refine append_bytes (by rfl) (.tmp 10) (.tmp 15) (by rfl) base _ (m + j) (L ++ (e8 n).take j) (by rfl) (hou.alloc _) (some ⟨wr.heap.size, 0, none⟩) 1 1 [n / 2 ^ (56 - 8 * j) % 256] (by rfl) (by rfl) (fun h => by cases h) (Arr.sl (Arr.new wr 5 _)) (by omega) (by simp; omega) ?_; intro v2 w2 hown2 hg2; have hB2 := (hbl.alloc hsz _).grown hg2 (by simp; omega) (fun k e => own_ge hou k e); have hs2 : base ≤ w2.heap.size := (by have := hg2.size; simp at this; omega)))
     go_roundw
     case rel => exact ⟨j + 1, by go_num, by omega, by rw [het.out, ← List.append_assoc]; exact hown2, hB2, hs2⟩
     case measure => simp [intOf]; omega
   · obtain rfl : j = 8 := by omega
     have e8' : Hid ((e8 n).take 8 = e8 n) := Hid.mk' (List.take_of_length_le (by rw [e8_len]; exact Nat.le_refl _))
     go_wp2_with fail
     go_ret
     exact ⟨_, rfl, by rw [← e8'.out]; exact hou, hbl⟩
theorem e8_bts (n : Int) : Bts (e8 n) := by
 intro x hx
 simp only [e8, List.mem_map] at hx
 obtain ⟨j, -, rfl⟩ := hx
 omega
theorem leafOf_any (x : Int) (w : World) : Calls Tryz.prog 71 #[.int .u64 x] w fun e w' => e = .returned (.agg (h8 (lw x))) ∧ Below w.heap.size w w' := by
 obtain ⟨i0, hi, hz0, hz1, hz2⟩ := info_parts info5
 have A0 := Arr.new w 30 (h8 Z32)
 have hb0 := alloc_bel' w (.cells (h8 Z32) 30)
 have hlf := lw_len x
 have hleaf := fun (s : Option Addr) (k c : Nat) (U : World) (h : BS U.heap.size U s k c (e8 x)) => leaf_bs s k c U.heap.size (e8 x) U h
 rw [show lf (e8 x) = lw x from rfl] at hleaf
 generalize lw x = Y at *
 rw [h8_Z] at A0 hb0
 go_enter Tryz.func71, Tryz.ntmps71
 go_wp2_with (first
   | (at_make; go_must (refine wpList_make_own _ (by rfl) (.const (.int .i64 0)) (.const (.int .i64 8)) 32 (by rfl) (w.heap.size + 1) 5 i0 (.int .u8 0) 1 Tryz.underlying32 hi hz0 hz1 .i64 .i64 _ 8 (by rfl) (by rfl) (by omega) (by rw [hz2]; omega) (Nat.le_trans (by omega) maxLen_ge) (by simp) ?_; intro w1 hown1 hg1; have hown1 : w1.ownsRow (w.heap.size + 1) 5 1 (.slice (some ⟨w.heap.size + 1, 0, none⟩) 0 8) 0 (by8 []) := (by simpa [by8] using hown1); have hs1 : w.heap.size + 1 ≤ w1.heap.size := (by have := hg1.size; simpa using this); have A1 : Arr w1 w.heap.size 30 _ := (hg1.block w.heap.size (by simp) (by simp)).trans A0; have hB1 : Below w.heap.size w w1 := hb0.grown hg1 (by simp) (by simp)))
   | (go_at_call 89; go_must (refine (appW_any (w.heap.size + 1) 0 _ [] x _ hown1 hs1 (by omega)).mono ?_; rintro e w2 ⟨v2, rfl, hown2, hb2⟩; obtain ⟨s2, c2, rfl, hS2, hsp2⟩ := own_bs hown2 (by simpa using e8_bts x) (by omega); have A2 := A1.below hb2 (by omega); have hB2 := hB1.trans (hb2.mono (by omega)); have hS2 := hS2.here))
   | (go_at_call 133; go_must (refine (hleaf _ _ _ _ (by simpa using hS2)).mono ?_; rintro e w3 ⟨rfl, hb3⟩; have A3 := A2.below hb3 A2.lt; have hB3 := hB2.trans (hb3.mono (by have := A2.lt; omega))))
   | (refine st24 (by rfl) _ _ (by rfl) w.heap.size Y Z32 (by rfl) (by rfl) hlf Z32_len A3 ?_))
 exact bodyPost_ret (v := .agg (h8 Y)) (res24 Tryz.results71 rfl hlf (A3.setRow _)) rfl ⟨rfl, below_setRow hB3 (Nat.le_refl _) _⟩
theorem refLeafW_any (x : Int) (w : World) : Calls Tryz.prog 66 #[.int .u64 x] w fun e w' => e = .returned (.agg (h8 (lw x))) ∧ Below w.heap.size w w' := by
 have A0 := Arr.new w 30 (h8 Z32)
 have hb0 := alloc_bel' w (.cells (h8 Z32) 30)
 have hlf := lw_len x
 have hleaf := fun (s : Option Addr) (c : Nat) (U : World) (h : BS U.heap.size U s 8 c (e8 x)) => refLeaf_bs s 8 c U.heap.size (e8 x) U h (by omega)
 rw [show lf (e8 x) = lw x from rfl] at hleaf
 generalize lw x = Y at *
 rw [h8_Z] at A0 hb0
 go_enter Tryz.func66, Tryz.ntmps66
 go_wp2_with (first
   | (go_at_call 64; go_must (refine (eight_any x _).mono ?_; rintro e w2 ⟨v2, rfl, hown2, hb2⟩; obtain ⟨s2, c2, rfl, hS2, hsp2⟩ := own_bs hown2 (e8_bts x) (by omega); have A2 := A0.below hb2 (by simp); have hB2 := hb0.trans (hb2.mono (by simp)); have hS2 := hS2.here))
   | (go_at_call 131; go_must (refine (hleaf _ _ _ hS2).mono ?_; rintro e w3 ⟨rfl, hb3⟩; have A3 := A2.below hb3 A2.lt; have hB3 := hB2.trans (hb3.mono (by have := A2.lt; omega))))
   | (refine st24 (by rfl) _ _ (by rfl) w.heap.size Y Z32 (by rfl) (by rfl) hlf Z32_len A3 ?_))
 exact bodyPost_ret (v := .agg (h8 Y)) (res24 Tryz.results66 rfl hlf (A3.setRow _)) rfl ⟨rfl, below_setRow hB3 (Nat.le_refl _) _⟩
theorem wp_ag43 {o : Oper} {a : Act} {w : World} {K : Act → World → Prop} {Q : Exit → Act → World → Prop} (s x : Operand) (ho : o.op = .call { callee := .builtin .append, args := #[s, x], argTypes := #[81, 81] })
   (base k : Nat) (v : Value) (ls : List (List Int)) (X : List Int) (hs : a.eval s = v) (hown : w.ownsRow base 30 32 v k (flat32 ls))
   (gx c : Nat) (hx : a.eval x = .slice (some ⟨gx, 0, none⟩) 1 c) (hA : Arr w gx 30 (h8 X)) (hX : X.length = 32) (hk : k ≤ 100000) (hbase : base ≤ w.heap.size)
   (h : ∀ v' w', w'.ownsRow base 30 32 v' (k + 1) (flat32 (ls ++ [X])) → w.grownBy w' v.ownBlock → K (a.put o.dst v') w') : o.wp Tryz.prog a w K Q := by
 obtain ⟨i0, hi0, hz0, hz1, hz2⟩ := info_parts info24
 refine wp_append_own w s x 81 ho base 30 i0 (.agg (h8 Z32)) 32 32 Tryz.underlying81 hi0 hz0 hz1 hz2 (by show (h8 Z32).size = 32; rw [h8_size, Z32_len]) (by omega) v k _ hs hown ⟨gx, 0, none⟩ 1 c (by8 X) hx (by rw [by8_len, hX]) (fun j u hj => by
   rw [Addr.add_mid]; exact hA.range j u hj) (by8_one X) (by unfold maxLen; omega) (by omega) hbase (fun v' w' h1 h2 _ => h v' w' (by rw [flat32_app]; exact h1) h2)
theorem ag43 {ops : Array Oper} {rest : List Oper} {o : Oper} {a : Act} {w : World} {Q : Exit → Act → World → Prop} (hgd : o.guard = none) (s x : Operand) (ho : o.op = .call { callee := .builtin .append, args := #[s, x], argTypes := #[81, 81] })
   (base k : Nat) (v : Value) (ls : List (List Int)) (X : List Int) (hs : a.eval s = v) (hown : w.ownsRow base 30 32 v k (flat32 ls))
   (gx c : Nat) (hx : a.eval x = .slice (some ⟨gx, 0, none⟩) 1 c) (hA : Arr w gx 30 (h8 X)) (hX : X.length = 32) (hk : k ≤ 100000) (hbase : base ≤ w.heap.size)
   (h : ∀ v' w', w'.ownsRow base 30 32 v' (k + 1) (flat32 (ls ++ [X])) → w.grownBy w' v.ownBlock → wpList Tryz.prog ops Q rest (a.put o.dst v') w') : wpList Tryz.prog ops Q (o :: rest) a w :=
 wpList_plain hgd fun _ hK => wp_ag43 s x ho base k v ls X hs hown gx c hx hA hX hk hbase (fun v' w' h1 h2 => hK _ _ (h v' w' h1 h2))
theorem b43 {ops : Array Oper} {rest : List Oper} {o : Oper} {a : Act} {w : World} {Q : Exit → Act → World → Prop} (hgd : o.guard = none) (x : Operand) (ho : o.op = .buildSlice 81 1 #[(0, x)]) (X : List Int) (hx : a.eval x = .agg (h8 X)) (hX : X.length = 32)
   (h : wpList Tryz.prog ops Q rest (a.put o.dst (.slice (some ⟨w.heap.size, 0, none⟩) 1 1)) (w.alloc (.cells (h8 X) 30))) : wpList Tryz.prog ops Q (o :: rest) a w :=
 wpList_plain hgd fun _ hK => wp_bld1 x ho X hx hX (hK _ _ h)
theorem path_any (g d n m i : Nat) (L : List Int) (T : List (List Int)) (gt ct gl cl : Nat) (w : World) (hM : MF w g n m L T gt ct gl cl) (hTI : Hid (TI n (lvs L) T (fun _ => True))) (hd : d ≤ 12) (hn : Hid (n = 2 ^ d)) (hi : i < n) :
   Calls Tryz.prog 235 #[.pointer (some ⟨g, 0, none⟩), .int .i64 (i : Int)] w fun e w' => ∃ v, e = .returned v ∧ w'.ownsRow w.heap.size 30 32 v d (flat32 (pf d (lvs L) i)) ∧ Below w.heap.size w w' := by
 obtain ⟨i0, hi0, hz0, hz1, hz2⟩ := info_parts info24
 have c1 := hM.c1
 have hn0 := hM.n0
 have hn4 := hM.n4
 have hct := hM.ct1
 have hdep := fun w => depthOf_any d n hd hn w
 obtain ⟨t, ht⟩ : ∃ t, m = t + 1 := ⟨m - 1, by have := hM.hm.out; omega⟩
 replace ht := Hid.mk' ht
 have hmn : Hid (m + 1 = 2 * n) := hM.hm
 have hm10 : m ≤ 10000 := by have := hM.hm.out; omega
 have hwy0 : Hid ((i : Int) = ((wy d i 0 : Nat) : Int)) := Hid.mk' (by rw [wy_zero])
 have hzz : Hid (pf 0 (lvs L) i = []) := Hid.mk' (by simp [pf])
 go_enter Tryz.func235, Tryz.ntmps235
 go_upto_region 3 with (first
   | (go_at_call 146; go_must (refine (hdep _).mono ?_; rintro e w1 ⟨rfl, h⟩; replace h := h.symm; subst h))
   | (at_make; go_must (refine wpList_make_own _ (by rfl) (.const (.int .i64 0)) (.tmp 12) 81 (by rfl) w.heap.size 30 i0 (.agg (h8 Z32)) 32 Tryz.underlying81 hi0 hz0 hz1 .i64 .i64 _ d (by rfl) (by rfl) (by omega) (by rw [hz2]; omega) (by unfold maxLen; omega) (Nat.le_refl _) ?_; intro w3 hown3 hg3)))
 have hB3 := (Below.refl w.heap.size w).grown hg3 (Nat.le_refl _) (by simp)
 have hown3' : w3.ownsRow w.heap.size 30 32 (.slice (some ⟨w.heap.size, 0, none⟩) 0 d) 0 (flat32 []) := hown3
 clear hown3 hg3
 go_loopw [5, 6] (fun q1 q2 wr => ∃ (v : Value) (k a : Nat), q1 = v ∧ q2 = .int .i64 (a : Int) ∧ k ≤ d ∧ Hid (a = wy d i k) ∧ wr.ownsRow w.heap.size 30 32 v k (flat32 (pf k (lvs L) i)) ∧ Below w.heap.size w wr) (fun _ q _ => t - (intOf q).toNat)
 case atStart => exact ⟨_, 0, i, rfl, rfl, by omega, Hid.mk' (wy_zero d i).symm, by rw [hzz.out]; exact hown3', hB3⟩
 case round =>
   clear hown3' hB3 hzz hwy0 hi0 hz0 hz1 hz2 i0 c1
   obtain ⟨v, k, a, rfl, rfl, hk, hak, hown, hbl⟩ := hrel
   have hsz := hbl.size
   have hMr := hM.keep hbl
   have c1 := hMr.c1
   have c2 := hMr.c2
   have htop := top_any g m cl gl t wr c2 hm10 ht
   by_cases hlt : k < d
   · have hnn := hn.out
     have hlt1 := wy_lt (d := d) (i := i) (k := k) (by rw [← hnn]; exact hi) hlt
     rw [← hnn, ← hak.out] at hlt1
     have hat : (a : Int) < t := by have := ht.out; have := hmn.out; omega
     have hatN : a < t := by omega
     have ha10 : a ≤ 10000 := by have := ht.out; omega
     obtain ⟨b, hb⟩ : ∃ b, b = n + a / 2 := ⟨_, rfl⟩
     have hbk : Hid (b = wy d i (k + 1)) := Hid.mk' (by rw [wy_succ hk, ← hak.out, ← hnn, hb])
     have hba : Hid (a < b) := Hid.mk' (by have := hmn.out; have := ht.out; omega)
     replace hb := Hid.mk' hb
     have hab := fun w c1 => above_any g n ct gt a b w c1 (by omega) ha10 hb
     have hbs := (TI.beside (d := d) (i := i) (k := k) (l := lvs L) (T := T) (by rw [← hnn]; exact hTI.out) (by rw [hM.hT.out, ← hnn]; have := hmn.out; omega) (by rw [lvs_len, hM.hL.out, hnn]) (by rw [← hnn]; exact hi) hlt)
     rw [← hak.out, hM.hT.out] at hbs
     obtain ⟨hpf, hsm⟩ := hbs
     have hxor := i64_xor1 a (by omega)
     obtain ⟨s, hs⟩ : ∃ s, s = sib a := ⟨_, rfl⟩
     rw [← hs] at hpf hsm hxor
     have hX := hMr.sums.at (i := s) (by rw [hMr.hT.out]; exact hsm)
     have hX32 := tat_l32 hMr.sums.l32 (i := s) (by rw [hMr.hT.out]; exact hsm)
     generalize tat T s = X at *
     clear hs hlt1 hnn hdep
     have hsI : (s : Int) < m := by omega
     have hscl : s < cl := by have := hMr.cl1; omega
     have hk1 : k ≤ 100000 := by omega
     replace hpf := Hid.mk' hpf
     go_upto_region 4 with (first
       | (go_at_call 76; go_must (refine htop.mono ?_; rintro e w2 ⟨rfl, h⟩; replace h := h.symm; subst h))
       | (refine atL 30 (.tmp 29) ?_; go_must (refine ld24 (by rfl) (.tmp 29) (by rfl) gl (s * 32) (by rfl) X hX32 hX ?_))
       | (refine atA (.tmp 22) (.tmp 31) ?_; go_must (refine ag43 (by rfl) (.tmp 22) (.tmp 31) (by rfl) w.heap.size k _ (pf k (lvs L) i) X (by rfl) (hown.alloc _) wr.heap.size 1 (by rfl) (Arr.new wr 30 (h8 X)) hX32 hk1 (by simp; omega) ?_; intro v' w4 hown4 hg4))
       | (refine b43 (by rfl) (.tmp 30) (by rfl) X (by rfl) hX32 ?_))
     have hB4 : Below w.heap.size w w4 := grown_below (hbl.alloc (by omega) _) hg4 (fun k hk => (hown.lt k hk).1) (by simp; omega)
     have hM4 := hM.keep hB4
     have hab := hab w4 hM4.c1
     go_wp2_with (go_at_call 237; go_must (refine hab.mono ?_; rintro e w2 ⟨rfl, h⟩; replace h := h.symm; subst h))
     go_roundw
     case rel => exact ⟨_, k + 1, b, rfl, rfl, by omega, hbk, by rw [hpf.out]; exact hown4, hB4⟩
     case measure => have := hba.out; simp [intOf]; omega
   · obtain rfl : k = d := by omega
     have hend := wy_end (d := k) (i := i) (by rw [← hn.out]; exact hi)
     rw [← hak.out, ← hn.out] at hend
     have hat : ¬ (a : Int) < t := by have := ht.out; have := hmn.out; omega
     clear hend
     go_wp2_with (go_at_call 76; go_must (refine htop.mono ?_; rintro e w2 ⟨rfl, h⟩; replace h := h.symm; subst h))
     go_ret
     exact ⟨_, rfl, hown, hbl⟩
def GS (gt gl : Nat) : Nat → Prop := fun k => k = gt ∨ k = gl
theorem put_anyM (g n m i : Nat) (x : Int) (L : List Int) (T : List (List Int)) (gt ct gl cl : Nat) (w : World) (hM : MF w g n m L T gt ct gl cl) (hTI : Hid (TI n (lvs L) T (fun _ => True))) (hi : i < n) :
   Calls Tryz.prog 236 #[.pointer (some ⟨g, 0, none⟩), .int .i64 (i : Int), .int .u64 x] w fun e w' => (∃ v, e = .returned v) ∧ (∃ T', MF w' g n m (L.set i x) T' gt ct gl cl ∧ TI n (lvs (L.set i x)) T' (fun _ => True)) ∧ Chg (GS gt gl) w w' := by
 have c1 := hM.c1
 have hct := hM.ct1
 have hn4 := hM.n4
 have hnm : n ≤ m := by have := hM.hm.out; have := hM.n0; omega
 have hm10 : m ≤ 10000 := by have := hM.hm.out; omega
 have hcl := hM.cl1
 have hiI : (i : Int) < n := by omega
 have hict : i < ct := by omega
 have hcell := hM.words.cell (t := i) (by rw [hM.hL.out]; exact hi)
 have hfrz := hM.words.frz (i := i)
 have hM1 := hM.setWord hi x
 have hC1 : Chg (GS gt gl) w (w.setCell ⟨gt, i, none⟩ (.int .u64 x)) := (Chg.refl _ w).setCell' (.inl rfl) _
 have him : i < m := by omega
 have himI : (i : Int) < m := by omega
 have hicl : i < cl := by omega
 have hlen := lw_len x
 have hTL : n ≤ T.length := by rw [hM.hT.out]; exact hnm
 have hTI1 : Hid (TI n (lvs (L.set i x)) (T.set i (lw x)) (fun k => k ≠ i / 2)) := Hid.mk' (by rw [lvs_set]; exact hTI.out.setLeaf hi hTL (by rw [lvs_len, hM.hL.out]; exact Nat.le_refl _) hlen)
 have hleaf := fun w => leafOf_any x w
 have hmn : Hid (m + 1 = 2 * n) := hM.hm
 obtain ⟨t, ht⟩ : ∃ t, m = t + 1 := ⟨m - 1, by have := hM.hm.out; omega⟩
 replace ht := Hid.mk' ht
 generalize L.set i x = L1 at *
 generalize lw x = X at *
 go_enter Tryz.func236, Tryz.ntmps236
 go_upto_region 1 with fail
 generalize w.setCell ⟨gt, i, none⟩ (.int .u64 x) = V at *
 clear c1 hcell hfrz hM hTI
 have c0 := hM1.c0
 have c2 := hM1.c2
 refine rgn (fun u => u.cell? ⟨g, 0, none⟩ = some fL ∧ u.cell? ⟨g, 2, none⟩ = some (.slice (some ⟨gl, 0, none⟩) m cl)) ⟨c0, c2⟩ (fun hHeld => ?_)
 refine tk 0 rfl ?_
 refine tk 1 rfl ?_
 refine tk 2 rfl ?_
 refine tk 3 rfl (hy := by (intro u hSw; obtain ⟨-, hc⟩ := hSw; go_simp; try (with_reducible rfl))) ?_
 refine tk 4 rfl ?_
 refine tk 5 rfl ?_
 refine tk 6 rfl ?_
 refine tk 7 rfl ?_
 refine tk 8 rfl (hy := by (intro u hSw; obtain ⟨hc, -⟩ := hSw; unfold fL at hc; go_simp; try (with_reducible rfl))) ?_
 refine tk 9 rfl ?_
 refine rd 10 rfl (fun K hK => ?_)
 go_simp
 refine (hleaf _).mono ?_; rintro e u1 ⟨rfl, hb1⟩; have hM2 := (hM1.block (w' := V.drew) (fun _ _ => rfl)).keep hb1
 go_wp2_with fail
 refine ko hK ⟨hM2.c0, hM2.c2⟩ (fun hHeld => ?_)
 clear hK K
 refine tk 11 rfl ?_
 refine rd 12 rfl (fun K hK => ?_)
 refine step_want rfl (wp_store_mid 30 (.tmp 25) (.tmp 24) rfl gl (i * 32) (h8 X) rfl rfl (by rw [h8_size, hlen]; exact hM2.sums.there (by rw [hM2.hT.out]; exact him)) (s24h8 hlen) (h8_one X) ?_)
 have hM3 := hM2.setSum him hlen
 have hC3 : Chg (GS gt gl) w (u1.setCells gl (i * 32) (by8 X)) := ((hC1.trans (Chg.of_below ((Below.refl _ _).drew))).belowS hb1).setCells' (.inr rfl) _ _
 rw [h8_list]
 refine ko hK ⟨hM3.c0, hM3.c2⟩ (fun hHeld => ?_)
 clear hK K
 refine dn ?_
 generalize u1.setCells gl (i * 32) (by8 X) = V3 at *
 clear hM2 hM1 c0 c2 hC1 hHeld hb1 hleaf
 go_wp2_with fail
 go_loopw [6] (fun q wr => ∃ (a : Nat) (T' : List (List Int)), q = .int .i64 (a : Int) ∧ a ≤ t ∧ MF wr g n m L1 T' gt ct gl cl ∧ Hid (TI n (lvs L1) T' (fun k => k ≠ a / 2)) ∧ Chg (GS gt gl) w wr) (fun q _ => t - (intOf q).toNat)
 case atStart => exact ⟨i, _, rfl, by have := ht.out; omega, hM3, hTI1, hC3⟩
 case round =>
   clear hM3 hTI1 hC3
   obtain ⟨a, T', rfl, hat, hMr, hTr, hCr⟩ := hrel
   have c1 := hMr.c1
   have c2 := hMr.c2
   have htop := top_any g m cl gl t wr c2 hm10 ht
   by_cases hlt : a < t
   · have hltI : (a : Int) < t := by omega
     have ha10 : a ≤ 10000 := by have := ht.out; omega
     obtain ⟨b, hb⟩ : ∃ b, b = n + a / 2 := ⟨_, rfl⟩
     obtain ⟨q, hq⟩ : ∃ q, q = a / 2 := ⟨_, rfl⟩
     have hqn : q + 1 < n := by have := hmn.out; have := ht.out; omega
     have hbm : b < m := by have := hmn.out; omega
     have hbt : b ≤ t := by have := ht.out; omega
     have hab1 : Hid (a < b) := Hid.mk' (by have := hmn.out; have := ht.out; omega)
     have hTn : Hid (TI n (lvs L1) (T'.set b (pr (tat T' (2 * q)) (tat T' (2 * q + 1)))) (fun k => k ≠ b / 2)) := Hid.mk' (by
       rw [hb, hq]
       exact hTr.out.setNode (by omega) (by rw [hMr.hT.out]; have := hmn.out; omega) rfl)
     replace hb := Hid.mk' hb
     replace hq := Hid.mk' hq
     have hqm : 2 * q + 1 < m := by have := hmn.out; omega
     have hab := above_any g n ct gt a b wr.drew c1 (by omega) ha10 hb
     have hpair := fun w c2 hs => pair_anyM g m cl gl a q T' w c2 hs hMr.hT hm10 hcl hq hqm ha10
     have hR32 := pr_len (tat T' (2 * q)) (tat T' (2 * q + 1))
     generalize pr (tat T' (2 * q)) (tat T' (2 * q + 1)) = R at *
     have hbI : (b : Int) < m := by omega
     have hbcl : b < cl := by omega
     clear hqm
     go_upto_region 5 with (go_at_call 76; go_must (refine htop.mono ?_; rintro e w2 ⟨rfl, h⟩; replace h := h.symm; subst h))
     refine rgn (fun u => u.cell? ⟨g, 2, none⟩ = some (.slice (some ⟨gl, 0, none⟩) m cl)) c2 (fun hHeld => ?_)
     refine tk 0 rfl ?_
     refine tk 1 rfl ?_
     refine tk 2 rfl ?_
     refine tk 3 rfl (hy := by (intro u hSw; have hc := hSw; go_simp; try (with_reducible rfl))) ?_
     refine tk 4 rfl ?_
     refine tk 5 rfl ?_
     refine tk 7 rfl ?_
     refine tk 8 rfl ?_
     refine rd 6 rfl (fun K hK => ?_)
     go_simp
     refine hab.mono ?_; rintro e u0 ⟨rfl, h⟩; replace h := h.symm; subst h
     go_wp2_with fail
     refine ko hK c2 (fun hHeld => ?_)
     clear hK K
     refine rd 9 rfl (fun K hK => ?_)
     go_simp
     refine (hpair wr.drew c2 (hMr.sums.block rfl)).mono ?_; rintro e u1 ⟨rfl, hb1⟩; have hM2 := (hMr.block (w' := wr.drew) (fun _ _ => rfl)).keep hb1
     go_wp2_with fail
     refine ko hK hM2.c2 (fun hHeld => ?_)
     clear hK K
     refine tk 10 rfl ?_
     refine rd 11 rfl (fun K hK => ?_)
     refine step_want rfl (wp_store_mid 30 (.tmp 44) (.tmp 43) rfl gl (b * 32) (h8 R) rfl rfl (by rw [h8_size, hR32]; exact hM2.sums.there (by rw [hM2.hT.out]; exact hbm)) (s24h8 hR32) (h8_one R) ?_)
     have hM3 := hM2.setSum hbm hR32
     have hC3 : Chg (GS gt gl) w (u1.setCells gl (b * 32) (by8 R)) := ((hCr.trans (Chg.of_below ((Below.refl _ _).drew))).belowS hb1).setCells' (.inr rfl) _ _
     rw [h8_list]
     refine ko hK hM3.c2 (fun hHeld => ?_)
     clear hK K
     refine dn ?_
     generalize u1.setCells gl (b * 32) (by8 R) = V5 at *
     have hab5 := above_any g n ct gt a b V5 hM3.c1 (by omega) ha10 hb
     clear c1 c2 hM2 hHeld hb1
     go_wp2_with (go_at_call 237; go_must (refine hab5.mono ?_; rintro e w2 ⟨rfl, h⟩; replace h := h.symm; subst h))
     go_roundw
     case rel => exact ⟨b, _, rfl, hbt, hM3, hTn, hC3⟩
     case measure => have := hab1.out; simp [intOf]; omega
   · have hltI : ¬ (a : Int) < t := by omega
     have hTd := hTr.out.done (by have := hmn.out; have := ht.out; omega) (by rw [hMr.hT.out]; have := hmn.out; omega)
     go_wp2_with (go_at_call 76; go_must (refine htop.mono ?_; rintro e w2 ⟨rfl, h⟩; replace h := h.symm; subst h))
     go_end0
     exact ⟨⟨_, rfl⟩, ⟨T', hMr, hTd⟩, hCr⟩
theorem info26 : (Tryz.prog.info? 22).map (fun i => (i.zero, i.size, i.bytes)) = some (some (.int .u64 0), 1, 8) := by kernel_rfl
theorem by64_one (L : List Int) : ∀ v ∈ by64 L, v.oneCell' = true := by
 intro v hv
 simp only [by64, List.mem_map] at hv
 obtain ⟨x, -, rfl⟩ := hv
 rfl
theorem append_words {N : Nat} {ops : Array Oper} {rest : List Oper} {o : Oper} {a : Act} {w : World} {Q : Exit → Act → World → Prop} (hgd : Region.wanted o (yielded ops a.tmps) = true) (s x : Operand)
   (ho : o.op = .call { callee := .builtin .append, args := #[s, x], argTypes := #[25, 25] })
   (base : Nat) (v : Value) (hs : a.eval s = v) (hown : w.ownsRow base 22 1 v 0 (by64 []))
   (sp : Option Addr) (n c : Nat) (L : List Int) (hx : a.eval x = .slice sp n c) (hS : MS N w sp n c L) (hbase : base ≤ w.heap.size)
   (h : ∀ v' w', w'.ownsRow base 22 1 v' n (by64 L) → w.grownBy w' v.ownBlock → wpList Tryz.prog ops Q rest (a.put o.dst v') w') : wpList Tryz.prog ops Q (o :: rest) a w := by
 obtain ⟨i0, hi, hz0, hz1, hz2⟩ := info_parts info26
 refine wpList_want hgd fun K hK => ?_
 have hl := hS.len.out
 cases sp with
 | none =>
   obtain ⟨rfl, rfl⟩ := hS.nil rfl
   obtain rfl : L = [] := List.eq_nil_of_length_eq_zero hl.symm
   have hrun := run_append_owned_none (P := Tryz.prog) (w := w) base 25 o.type 22 i0 1 Tryz.underlying25 hi v 0 _ hown
   unfold Oper.wp
   simp [execOp, ho, resolve, invoke, builtin, hs, hx, hrun, Result.andThen]
   exact hK _ _ (h v w hown ⟨rfl, rfl, rfl, Nat.le_refl _, fun _ _ _ => rfl⟩)
 | some ad =>
   have hsm := hS.small
   refine wp_append_own w s x 25 ho base 22 i0 (.int .u64 0) 1 8 Tryz.underlying25 hi hz0 hz1 hz2 rfl (by omega) v 0 _ hs hown ad n c (by64 L) hx (by rw [by64_len]; omega) ?_ (by64_one L) (by unfold maxLen; omega) (by omega) hbase ?_
   · intro j u hj
     have hjl : j < L.length := by have := (List.getElem?_eq_some_iff.1 hj).1; rwa [by64_len] at this
     obtain ⟨b, off, e, -, hB⟩ := hS.at0 (by omega)
     obtain rfl := Option.some.inj e
     rw [by64_get hjl] at hj
     rw [Addr.add_mid, hB j (by omega)]; exact hj
   · intro v' w' h1 h2 _
     exact hK _ _ (h v' w' (by simpa [by64] using h1) h2)
theorem own64 {w : World} {base n : Nat} {v : Value} {L : List Int} (h : w.ownsRow base 22 1 v n (by64 L)) (h0 : 0 < n) :
   ∃ gm cap, v = .slice (some ⟨gm, 0, none⟩) n cap ∧ n = L.length ∧ base ≤ gm ∧ n ≤ cap ∧ cap ≤ 9223372036854775807 ∧ MW w gm L := by
 obtain ⟨hl, h | ⟨g, cap, cur, rfl, hg, hh, hn, hm, hc, ht⟩⟩ := h
 · omega
 · rw [by64_len, Nat.mul_one] at hl
   subst hl
   refine ⟨g, cap, rfl, rfl, hg, hn, by unfold maxLen at hm; omega, cur, hh, fun t htl => ?_⟩
   rw [← Array.getElem?_toList, ← List.getElem?_take_of_lt (show t < L.length * 1 by omega), ht, by64_get htl]
theorem clone64_any (sp : Option Addr) (n cap : Nat) (L : List Int) (N : Nat) (w : World) (hS : MS N w sp n cap L) (h0 : 0 < n) :
   Calls Tryz.prog 70 #[.slice sp n cap] w fun e w' => ∃ gm cap', e = .returned (.slice (some ⟨gm, 0, none⟩) n cap') ∧ w.heap.size ≤ gm ∧ n ≤ cap' ∧ cap' ≤ 9223372036854775807 ∧ MW w' gm L ∧ Below w.heap.size w w' := by
 have q22 : ∀ (w : World) (a : Option Addr) (n c n' c' : Nat), (binOp .eql 25 (.slice a n c) (.slice none n' c')).run Tryz.prog w = .ok (.bool a.isNone) w := fun w a n c n' c' => Lib.run_eql_slice_nil w _ _ a n c n' c' Tryz.underlying25
 obtain ⟨g, off, rfl, -⟩ := hS.at0 h0
 have hlit : (w.alloc (.cells #[] 22)).ownsRow w.heap.size 22 1 (.slice (some ⟨w.heap.size, 0, none⟩) 0 0) 0 (by64 []) := World.ownsRow_lit _ _ _ (Nat.le_refl _) (by unfold maxLen; omega) rfl
 have hS' := hS.here.below (alloc_bel' w (.cells #[] 22))
 go_enter Tryz.func70, Tryz.ntmps70
 go_wp2_with (at_builtin; go_must (refine append_words (by rfl) (.tmp 5) (.tmp 6) (by rfl) w.heap.size _ (by rfl) hlit (some ⟨g, off, none⟩) n cap L (by rfl) hS' (by simp) ?_; intro v1 w1 hown1 hg1))
 obtain ⟨gm, cap', rfl, -, hb, hc1, hc2, hM⟩ := own64 hown1 h0
 go_ret
 exact ⟨gm, cap', rfl, hb, hc1, hc2, hM, ((Below.refl _ _).alloc (Nat.le_refl _) _).grown hg1 (by simp) (fun k e => by simp [Value.ownBlock] at e; omega)⟩
end Go.Proofs.YtagebcbnenehfaaGreat
