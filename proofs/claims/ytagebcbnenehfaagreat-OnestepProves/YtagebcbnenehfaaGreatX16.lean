/- Ai, Aj, QVi, QVj, QVk, QVl, ZWd. -/
import Derived.Test.YtagebcbnenehfaaGreatX15
namespace Go.Proofs.YtagebcbnenehfaaGreat
open Go.RowKit
set_option maxRecDepth 100000
set_option linter.unusedVariables false
set_option linter.unusedSimpArgs false
set_option maxHeartbeats 40000000
theorem tA_eq (v u : Value) : tA v u = #[.func (Fn.func 71) #[] #[], v, u] := rfl
def NwPost (d n m : Nat) (L : List Int) (w : World) (e : Ending) (w' : World) : Prop := ∃ g gt ct gl cl, e = .returned (.tuple #[.pointer (some ⟨g, 0, none⟩), .int .i64 0]) ∧ ME w' g d n m L gt ct gl cl ∧ w.heap.size ≤ g ∧ w.heap.size ≤ gt ∧ w.heap.size ≤ gl ∧ Below w.heap.size w w'
theorem new_ok (sp : Option Addr) (n cap d m : Nat) (L : List Int) (N : Nat) (w : World) (hM : MS N w sp n cap L) (hU : ∀ k, U64 (L.getD k 0)) (hd : d ≤ 12) (hn : Hid (n = 2 ^ d)) (hm : Hid (m + 1 = 2 * n)) :
   Calls Tryz.prog 27 #[.slice sp n cap] w (NwPost d n m L w) := by
 have hsz : szB L.length = true := by rw [← hM.len.out, hn.out]; exact pow_szB hd
 have hmb := fun w hM => mayBe_any sp n cap L w.heap.size w hM hU
 rw [hsz] at hmb
 clear hsz
 have hn4 : n ≤ 4096 := by rw [hn.out]; exact pow12 hd
 have hn0 : 0 < n := by rw [hn.out]; exact Nat.pow_pos (by omega)
 have hMh := hM.here
 have hlen : Hid (L.length = n) := Hid.mk' hM.len.out.symm
 obtain ⟨p, hp⟩ : ∃ p, n = p + 1 := ⟨n - 1, by omega⟩
 replace hp := Hid.mk' hp
 have hmp : Hid (m = n + p) := Hid.mk' (by have := hp.out; have := hm.out; omega)
 clear hM
 have hcl := fun w hM => clone64_any sp n cap L w.heap.size w hM hn0
 have hgr := fun gt ct w hW hct => grow_any gt ct n m p L w hW hlen hp hmp hn4 hct
 unfold fL at hgr
 go_enter Tryz.func27, Tryz.ntmps27
 go_wp2_with (first
   | (go_at_call 68; go_must (refine (hmb _ hMh).mono ?_; rintro e w1 ⟨rfl, hb1⟩; have hM1 := (hMh.below hb1).mono hb1.size))
   | (go_at_call 70; go_must (refine (hcl _ hM1).mono ?_; rintro e w2 ⟨gt, ct, rfl, hgt, hct1, hct2, hW2, hb2⟩; have hB2 := hb1.trans (hb2.mono hb1.size)))
   | (go_at_call 69; go_must (refine (hgr gt ct w2 hW2 hct1).mono ?_; rintro e w3 ⟨gl, cl, T, rfl, hgl, hcl1, hcl2, hHB, hTl, hTI, hb3⟩; have hB3 := hB2.trans (hb3.mono hB2.size); have hW3 := hW2.below hb3 hW2.lt; rw [tA_eq])))
 have hs1 := hb1.size
 have hs2 := hb2.size
 have hs3 := hb3.size
 have A := Arr.new w3 146 #[.func (Fn.func 71) #[] #[], .slice (some ⟨gt, 0, none⟩) n ct, .slice (some ⟨gl, 0, none⟩) m cl]
 have hgt2 := hW2.lt
 have hgl3 := hHB.lt
 have hME : ME (w3.alloc (.cells #[.func (Fn.func 71) #[] #[], .slice (some ⟨gt, 0, none⟩) n ct, .slice (some ⟨gl, 0, none⟩) m cl] 146)) w3.heap.size d n m L gt ct gl cl :=
   ⟨⟨T, ⟨A.cell 0, A.cell 1, A.cell 2, hW3.below (alloc_bel' w3 _) hW3.lt, hHB.below (alloc_bel' w3 _) hgl3, hlen, Hid.mk' hTl, hm, hn0, hn4, hct1, hct2, hcl1, hcl2, by omega, by omega, by omega⟩, hTI⟩, hd, hn⟩
 go_ret2
 exact ⟨w3.heap.size, gt, ct, gl, cl, rfl, hME, by omega, by omega, by omega, hB3.alloc (by omega) _⟩
theorem isThere_any (g n m : Nat) (L : List Int) (T : List (List Int)) (gt ct gl cl : Nat) (w : World) (hM : MF w g n m L T gt ct gl cl) :
   Calls Tryz.prog 75 #[.pointer (some ⟨g, 0, none⟩)] w fun e w' => e = .returned (.bool true) ∧ w' = w := by
 have c1 := hM.c1
 have hn0 := hM.n0
 have hn0I : (0 : Int) < n := by omega
 have hn4 := hM.n4
 have hq : ∀ w, (binOp .neq 67 (.pointer (some ⟨g, 0, none⟩)) (.pointer none)).run Tryz.prog w = .ok (.bool true) w := fun w => by first | rfl | (go_simp)
 clear hM
 go_enter Tryz.func75, Tryz.ntmps75
 go_wp2
 go_ret
 exact ⟨rfl, rfl⟩
def aE (x : Int) (n : Nat) : Int := if x < n then 0 else 2
theorem find_any (g n m : Nat) (L : List Int) (T : List (List Int)) (gt ct gl cl : Nat) (x : Int) (hx : U64 x) (w : World) (hM : MF w g n m L T gt ct gl cl) :
   Calls Tryz.prog 234 #[.pointer (some ⟨g, 0, none⟩), .int .u64 x] w fun e w' => e = .returned (.int .i64 (aE x n)) ∧ w' = w := by
 have c1 := hM.c1
 have hn4 := hM.n4
 have hth := isThere_any g n m L T gt ct gl cl w hM
 have hnn : (n : Int) % 18446744073709551616 = n := by omega
 unfold aE
 clear hM
 by_cases h : x < n
 · rw [if_pos h]
   have h' : ¬ (n : Int) ≤ x := by omega
   go_enter Tryz.func234, Tryz.ntmps234
   go_wp2_with (go_at_call 75; go_must (refine hth.mono ?_; rintro e w1 ⟨rfl, h⟩; replace h := h.symm; subst h))
   go_ret
   exact ⟨rfl, rfl⟩
 · rw [if_neg h]
   have h' : (n : Int) ≤ x := by omega
   go_enter Tryz.func234, Tryz.ntmps234
   go_wp2_with (go_at_call 75; go_must (refine hth.mono ?_; rintro e w1 ⟨rfl, h⟩; replace h := h.symm; subst h))
   go_ret
   exact ⟨rfl, rfl⟩
theorem getD_none {L : List Int} {k : Nat} (h : L.length ≤ k) : L.getD k 0 = 0 := by rw [List.getD_eq_getElem?_getD, List.getElem?_eq_none h]; rfl
theorem get_any (g d n m : Nat) (L : List Int) (gt ct gl cl : Nat) (x : Int) (hx : U64 x) (w : World) (hE : ME w g d n m L gt ct gl cl) :
   Calls Tryz.prog 230 #[.pointer (some ⟨g, 0, none⟩), .int .u64 x] w fun e w' => e = .returned (.tuple #[.int .u64 (L.getD x.toNat 0), .int .i64 (aE x n)]) ∧ w' = w := by
 obtain ⟨T, hM, -⟩ := hE.ex
 have hf := find_any g n m L T gt ct gl cl x hx w hM
 have c1 := hM.c1
 have hn4 := hM.n4
 have hct := hM.ct1
 have hx0 := hx.1
 unfold aE at hf ⊢
 by_cases h : x < n
 · rw [if_pos h] at hf ⊢
   obtain ⟨k, rfl⟩ : ∃ k : Nat, x = k := ⟨x.toNat, by omega⟩
   have hk : k < n := by omega
   have hc := hM.words.cell (t := k) (by rw [hM.hL.out]; exact hk)
   rw [Int.toNat_natCast]
   generalize L.getD k 0 = y at *
   have hkc : k < ct := by omega
   clear hM hE
   go_enter Tryz.func230, Tryz.ntmps230
   go_wp2_with (go_at_call 234; go_must (refine hf.mono ?_; rintro e w1 ⟨rfl, h⟩; replace h := h.symm; subst h))
   go_ret2
   exact ⟨rfl, rfl⟩
 · rw [if_neg h] at hf ⊢
   rw [getD_none (by rw [hM.hL.out]; omega)]
   clear hM hE
   go_enter Tryz.func230, Tryz.ntmps230
   go_wp2_with (go_at_call 234; go_must (refine hf.mono ?_; rintro e w1 ⟨rfl, h⟩; replace h := h.symm; subst h))
   go_ret2
   exact ⟨rfl, rfl⟩
theorem set_any (g d n m : Nat) (L : List Int) (gt ct gl cl : Nat) (x y : Int) (hx : U64 x) (w : World) (hE : ME w g d n m L gt ct gl cl) :
   Calls Tryz.prog 233 #[.pointer (some ⟨g, 0, none⟩), .int .u64 x, .int .u64 y] w fun e w' => e = .returned (.int .i64 (aE x n)) ∧ ME w' g d n m (L.set x.toNat y) gt ct gl cl ∧ Chg (GS gt gl) w w' := by
 obtain ⟨T, hM, hTI⟩ := hE.ex
 have hf := find_any g n m L T gt ct gl cl x hx w hM
 have hx0 := hx.1
 have hn4 := hM.n4
 unfold aE at hf ⊢
 by_cases h : x < n
 · rw [if_pos h] at hf ⊢
   obtain ⟨k, rfl⟩ : ∃ k : Nat, x = k := ⟨x.toNat, by omega⟩
   have hk : k < n := by omega
   rw [Int.toNat_natCast]
   have hput := put_anyM g n m k y L T gt ct gl cl w hM (Hid.mk' hTI) hk
   have hd := hE.hd
   have hn := hE.hn
   have hkI : IntKind.i64.wrap (k : Int) = k := by rw [IntKind.wrap_i64]; omega
   clear hM hE hTI
   go_enter Tryz.func233, Tryz.ntmps233
   go_wp2_with (first
     | (go_at_call 234; go_must (refine hf.mono ?_; rintro e w1 ⟨rfl, h⟩; replace h := h.symm; subst h))
     | (go_at_call 236; go_must (refine hput.mono ?_; rintro e w2 ⟨⟨v2, rfl⟩, hT', hC⟩)))
   go_ret
   exact ⟨rfl, ⟨hT', hd, hn⟩, hC⟩
 · rw [if_neg h] at hf ⊢
   rw [List.set_eq_of_length_le (by rw [hM.hL.out]; omega)]
   clear hM hTI
   go_enter Tryz.func233, Tryz.ntmps233
   go_wp2_with (go_at_call 234; go_must (refine hf.mono ?_; rintro e w1 ⟨rfl, h⟩; replace h := h.symm; subst h))
   go_ret
   exact ⟨rfl, hE, Chg.refl _ _⟩
def pv (d : Nat) (L : List Int) (x : Int) : List (List Int) := if x < L.length then pf d (lvs L) x.toNat else []
theorem pv_l32 (d : Nat) (L : List Int) (x : Int) : ∀ z ∈ pv d L x, z.length = 32 := by
 intro z hz
 unfold pv at hz
 split at hz
 · unfold pf at hz
   obtain ⟨k, -, rfl⟩ := List.mem_map.1 hz
   exact tr_len _ _ (fun y hy => lvs_l32 L y (List.mem_of_mem_drop hy))
 · cases hz
theorem pv_len (d : Nat) (L : List Int) (x : Int) : (pv d L x).length ≤ d := by
 unfold pv; split
 · rw [pf_len]; exact Nat.le_refl _
 · exact Nat.zero_le _
def PvPost (d : Nat) (L : List Int) (x : Int) (w : World) (e : Ending) (w' : World) : Prop :=
 ∃ sp k cap, e = .returned (.tuple #[.slice sp k cap, .int .i64 (aE x L.length)]) ∧ k = (pv d L x).length ∧ HS w'.heap.size w' sp k cap (pv d L x) ∧ w'.ownsRow w.heap.size 30 32 (.slice sp k cap) k (flat32 (pv d L x)) ∧ Below w.heap.size w w'
theorem pvPost_of {d : Nat} {L : List Int} {x : Int} {w w' : World} {v : Value} (hd : d ≤ 12) (hown : w'.ownsRow w.heap.size 30 32 v (pv d L x).length (flat32 (pv d L x))) (hb : Below w.heap.size w w') : PvPost d L x w (.returned (.tuple #[v, .int .i64 (aE x L.length)])) w' := by
 obtain ⟨sp, cap, rfl, hH, -⟩ := own_hs hown (pv_l32 d L x) rfl (by have := pv_len d L x; omega)
 exact ⟨sp, _, cap, rfl, rfl, hH, hown, hb⟩
theorem prove_any (g d n m : Nat) (L : List Int) (gt ct gl cl : Nat) (x : Int) (hx : U64 x) (w : World) (hE : ME w g d n m L gt ct gl cl) :
   Calls Tryz.prog 231 #[.pointer (some ⟨g, 0, none⟩), .int .u64 x] w (PvPost d L x w) := by
 obtain ⟨T, hM, hTI⟩ := hE.ex
 have hf := find_any g n m L T gt ct gl cl x hx w hM
 have hx0 := hx.1
 have hn4 := hM.n4
 have hL := hM.hL
 have hd := hE.hd
 by_cases h : x < n
 · have e1 : aE x n = 0 := if_pos h
   rw [e1] at hf
   obtain ⟨k, rfl⟩ : ∃ k : Nat, x = k := ⟨x.toNat, by omega⟩
   have hk : k < n := by omega
   have hp := path_any g d n m k L T gt ct gl cl w hM (Hid.mk' hTI) hd hE.hn hk
   have e2 : pv d L (k : Int) = pf d (lvs L) k := by unfold pv; rw [if_pos (by rw [hL.out]; exact h), Int.toNat_natCast]
   have hkI : IntKind.i64.wrap (k : Int) = k := by rw [IntKind.wrap_i64]; omega
   have e3 : Hid (aE (k : Int) L.length = 0) := Hid.mk' (by rw [hL.out]; exact e1)
   replace e2 := Hid.mk' e2
   clear hM hE hTI e1
   go_enter Tryz.func231, Tryz.ntmps231
   go_wp2_with (first
     | (go_at_call 234; go_must (refine hf.mono ?_; rintro e w1 ⟨rfl, h⟩; replace h := h.symm; subst h))
     | (go_at_call 235; go_must (refine hp.mono ?_; rintro e w2 ⟨v2, rfl, hown, hb⟩)))
   have hP := pvPost_of (v := v2) (d := d) (L := L) (x := (k : Int)) hd (by rw [e2.out, pf_len]; exact hown) hb
   rw [e3.out] at hP
   go_ret2
   exact hP
 · have e1 : aE x n = 2 := if_neg h
   rw [e1] at hf
   have e2 : pv d L x = [] := by unfold pv; rw [if_neg (by rw [hL.out]; exact h)]
   have e3 : Hid (aE x L.length = 2) := Hid.mk' (by rw [hL.out]; exact e1)
   have hP := pvPost_of (v := .slice none 0 0) (d := d) (L := L) (x := x) (w := w) (w' := w) hd (by rw [e2]; exact World.ownsRow_nil _ _ _ _) (Below.refl _ _)
   rw [e3.out] at hP
   clear hM hE hTI e1
   go_enter Tryz.func231, Tryz.ntmps231
   go_wp2_with (go_at_call 234; go_must (refine hf.mono ?_; rintro e w1 ⟨rfl, h⟩; replace h := h.symm; subst h))
   go_ret2
   exact hP
theorem mroot_any (g d n m : Nat) (L : List Int) (gt ct gl cl : Nat) (w : World) (hE : ME w g d n m L gt ct gl cl) :
   Calls Tryz.prog 31 #[.pointer (some ⟨g, 0, none⟩)] w fun e w' => e = .returned (.agg (h8 (rW L))) ∧ Below w.heap.size w w' := by
 obtain ⟨T, hM, hTI⟩ := hE.ex
 have hlt := hM.lt
 have hm10 : m ≤ 10000 := by have := hM.hm.out; have := hM.n4; omega
 obtain ⟨t, ht⟩ : ∃ t, m = t + 1 := ⟨m - 1, by have := hM.hm.out; have := hM.n0; omega⟩
 have htop : rW L = tat T t := by
   rw [(rW_pow (d := d) hE.hd (by rw [hM.hL.out]; exact hE.hn.out)).1, ← TI.top (d := d) (by rw [← hE.hn.out]; exact hTI) (by rw [hM.hT.out, ← hE.hn.out]; have := hM.hm.out; omega) (by rw [lvs_len, hM.hL.out]; exact hE.hn.out)]
   congr 1
   rw [← hE.hn.out]
   have := hM.hm.out
   omega
 have hX := hM.sums.at (i := t) (by rw [hM.hT.out]; omega)
 have hX32 := tat_l32 hM.sums.l32 (i := t) (by rw [hM.hT.out]; omega)
 rw [htop]
 generalize tat T t = X at *
 clear htop hTI
 have htI : (t : Int) < m := by omega
 have htc : t < cl := by have := hM.cl1; omega
 replace ht := Hid.mk' ht
 have A0 := Arr.new w 30 (h8 Z32)
 have hb0 := alloc_bel' w (.cells (h8 Z32) 30)
 have hMV := hM.keep hb0
 rw [h8_Z] at A0 hb0 hMV
 have hth := fun V hM => isThere_any g n m L T gt ct gl cl V hM
 have htp := fun V c2 => top_any g m cl gl t V c2 hm10 ht
 have c2 := hMV.c2
 have hXV := range_below hX hb0 hlt.2.2
 clear hX hE
 go_enter Tryz.func31, Tryz.ntmps31
 go_upto_region 3 with (go_at_call 75; go_must (refine (hth _ hMV).mono ?_; rintro e w1 ⟨rfl, h⟩; replace h := h.symm; subst h))
 generalize hV : w.alloc (.cells _ 30) = V at *
 clear hV hth
 refine rgn (fun u => Below w.heap.size V u) ((Below.refl _ _).drew) (fun hHeld => ?_)
 refine tk 0 rfl ?_
 refine tk 1 rfl ?_
 refine tk 2 rfl ?_
 refine tk 3 rfl ?_
 refine tk 4 rfl (hy := by (intro u hSw; have hc := (hSw.cell (p := ⟨g, 2, none⟩) hlt.1).trans c2; go_simp; try (with_reducible rfl))) ?_
 refine tk 5 rfl ?_
 refine tk 6 rfl ?_
 refine tk 7 rfl ?_
 refine rd 8 rfl (fun K hK => ?_)
 go_simp
 refine (htp V.drew c2).mono ?_; rintro e u1 ⟨rfl, h⟩; replace h := h.symm; subst h
 go_wp2_with fail
 refine ko hK ((Below.refl _ _).drew) (fun hHeld => ?_)
 clear hK K
 refine tk 9 rfl ?_
 refine tl 10 rfl (y24 (by rfl) (.tmp 16) rfl (gl) (t * 32) rfl X hX32 (fun u hu => range_below hXV hu hlt.2.2)) ?_
 refine rd 11 rfl (fun K hK => ?_)
 refine step_want rfl (wp_store_row 30 (.tmp 2) (.tmp 17) rfl w.heap.size (h8 X) rfl rfl 30 _ A0.drew (s24h8 hX32) (by rw [h8_size, hX32]; rfl) (h8_one X) ?_)
 refine ko hK (below_setRow ((Below.refl _ _).drew) (Nat.le_refl _) _) (fun hHeld => ?_)
 clear hK K
 refine dn ?_
 go_wp2_with fail
 exact bodyPost_ret (v := .agg (h8 X)) (res24 Tryz.results31 rfl hX32 (A0.drew.setRow _)) rfl ⟨rfl, hb0.trans (below_setRow ((Below.refl _ _).drew) (Nat.le_refl _) _)⟩
theorem own_mono {w : World} {b b' e s n : Nat} {v : Value} {xs : List Value} (h : w.ownsRow b e s v n xs) (hb : b' ≤ b) : w.ownsRow b' e s v n xs := by
 obtain ⟨hl, h' | ⟨g, cap, cur, e1, hg, r⟩⟩ := h
 · exact ⟨hl, .inl h'⟩
 · exact ⟨hl, .inr ⟨g, cap, cur, e1, by omega, r⟩⟩
def FIV (es : List En) (f : List Int → Option Int) : Prop := ∀ X i, X.length = 32 → f X = some i → ∃ (j : Nat) (e : En), i = j ∧ Fst es X j e ∧ shl e.bs = X
theorem FIV.nil (es : List En) : FIV es (fun _ => none) := fun X i _ h => by cases h
def PrPost (es : List En) (X : List Int) (w : World) (r : Ending) (w' : World) : Prop := Below w.heap.size w w' ∧
 ((∃ e v, pre es X = some e ∧ r = .returned (.tuple #[v, .bool true]) ∧ w'.ownsRow w.heap.size 5 1 v e.n (by8 e.bs)) ∨ (pre es X = none ∧ r = .returned (.tuple #[.slice none 0 0, .bool false])))
theorem preimage_any (sp : Option Addr) (n cap : Nat) (es : List En) (X : List Int) (N : Nat) (w : World) (hS : ES N w sp n cap es) (hX : X.length = 32) :
   Calls Tryz.prog 232 #[.slice sp n cap, .agg (h8 X)] w (PrPost es X w) := by
 have hl := hS.len
 have hS0 := hS.here
 have hS := hS0.below (alloc_bel' w (.cells (h8 X) 30))
 have hr := (Arr.new w 30 (h8 X)).range
 go_enter Tryz.func232, Tryz.ntmps232
 go_upto_region 2 with (first
   | (refine ld24 (by rfl) (.tmp 3) (by rfl) w.heap.size 0 (by rfl) X hX hr ?_)
   | (go_at_call 208; go_must (refine (place_any sp n cap es X _ _ hS hX).mono ?_; rintro r w1 ⟨hb1, ⟨i, e, hF, rfl⟩ | ⟨hno, rfl⟩⟩)))
 · have hb := (alloc_bel' w (.cells (h8 X) 30)).trans (hb1.mono (by simp))
   have hp := hF.pre
   have hi : i < n := by rw [hl.out]; exact (List.getElem?_eq_some_iff.1 hF.here).1
   have hI : (i : Int) < n := by omega
   have hS1 := hS0.below hb
   obtain ⟨g, off, rfl, hgN, hR⟩ := hS1.at0 (by omega)
   have c0 := range_c0 (hR i e hF.here)
   have hB := (hS1.ok e (List.mem_of_getElem? hF.here)).body
   by_cases hq : shl e.bs = X
   · rw [if_pos hq] at hp
     have hd : decide (shl e.bs = X) = true := by simpa using hq
     rw [hd]
     clear hd hq hF hR hS1 hS hS0
     replace hp := Hid.mk' hp
     go_wp2_with (go_at_call 182; go_must (refine (clone_any e.sp e.n e.cap e.bs _ _ hB).mono ?_; rintro r w2 ⟨v, rfl, ho, hb2⟩))
     go_ret2
     exact ⟨hb.trans (hb2.mono hb.size), .inl ⟨e, v, hp.out, rfl, own_mono ho hb.size⟩⟩
   · rw [if_neg hq] at hp
     have hd : decide (shl e.bs = X) = false := by simpa using hq
     rw [hd]
     clear hd hq hF hR hS1 hS hS0
     replace hp := Hid.mk' hp
     go_wp2_with fail
     go_ret2
     exact ⟨hb, .inr ⟨hp.out, rfl⟩⟩
 · have hb := (alloc_bel' w (.cells (h8 X) 30)).trans (hb1.mono (by simp))
   have hp := Hid.mk' (pre_none hno)
   clear hno
   go_wp2_with fail
   go_ret2
   exact ⟨hb, .inr ⟨hp.out, rfl⟩⟩
def ShPost (es : List En) (X : List Int) (N gp : Nat) (w : World) (r : Ending) (w' : World) : Prop :=
 (∃ f, MapH w' gp f ∧ FIV es f) ∧ w.heap.size ≤ w'.heap.size ∧ w'.os = w.os ∧ w'.tape = w.tape ∧ w'.output = w.output ∧ (∀ b, b < w.heap.size → b ≠ gp → w'.heap[b]? = w.heap[b]?) ∧
 ((∃ e, pre es X = some e ∧ e ∈ es ∧ r = .returned (.slice e.sp e.n e.cap)) ∨ (pre es X = none ∧ r = .panicked trapV))
theorem shP {es : List En} {X : List Int} {N gp : Nat} {w w' : World} {r : Ending} (hM : ∃ f, MapH w' gp f ∧ FIV es f) (hb : Below w.heap.size w w')
   (h : (∃ e, pre es X = some e ∧ e ∈ es ∧ r = .returned (.slice e.sp e.n e.cap)) ∨ (pre es X = none ∧ r = .panicked trapV)) : ShPost es X N gp w r w' :=
 ⟨hM, hb.size, hb.os, hb.tape, hb.output, fun b hlt _ => hb.block b hlt, h⟩
theorem shelf_any (sp : Option Addr) (n cap : Nat) (es : List En) (X : List Int) (N gp : Nat) (w : World) (hS : ES N w sp n cap es) (hN : N ≤ gp) (hX : X.length = 32) {f : List Int → Option Int} (hM : MapH w gp f) (hf : FIV es f) :
   Calls Tryz.prog 200 #[.agg #[.slice sp n cap, .map (some gp)], .agg (h8 X)] w (ShPost es X N gp w) := by
 have hl := hS.len
 have hgl := hM.lt
 have b1 := alloc_bel' w (.cells #[.slice sp n cap, .map (some gp)] 245)
 have b2 := b1.trans ((alloc_bel' (w.alloc (.cells #[.slice sp n cap, .map (some gp)] 245)) (.cells (h8 X) 30)).mono (by simp))
 have hS2 := hS.here.below b2
 have hM2 := hM.same (b2.block gp hgl)
 have A0 := (Arr.new w 245 #[.slice sp n cap, .map (some gp)]).alloc (.cells (h8 X) 30)
 have A1 := Arr.new (w.alloc (.cells #[.slice sp n cap, .map (some gp)] 245)) 30 (h8 X)
 simp only [World.size_alloc] at A1
 have hr := A1.range
 have hlk := run_lookupH hM2 X hX
 cases hq : f X with
 | some i0 =>
   obtain ⟨i, e, rfl, hF, hsh⟩ := hf X i0 hX hq
   rw [hq] at hlk
   simp only [Option.getD_some, Option.isSome_some] at hlk
   have hp := hF.pre
   rw [if_pos hsh] at hp
   have hi : i < n := by rw [hl.out]; exact (List.getElem?_eq_some_iff.1 hF.here).1
   have hI : (i : Int) < n := by omega
   obtain ⟨g, off, rfl, hgN, hR⟩ := hS2.at0 (by omega)
   have c0 := range_c0 (hR i e hF.here)
   have hfin := Hid.mk' (shP (N := N) (r := .returned (.slice e.sp e.n e.cap)) ⟨f, hM2, hf⟩ b2 (.inl ⟨e, hp, List.mem_of_getElem? hF.here, rfl⟩))
   clear hq hF hR hS2 hS hp hsh hf hM2 hM A1
   go_enter Tryz.func200, Tryz.ntmps200
   go_wp2_with (refine ld24 (by rfl) _ (by rfl) (w.heap.size + 1) 0 (by rfl) X hX hr ?_)
   go_ret
   exact hfin.out
 | none =>
   rw [hq] at hlk
   simp only [Option.getD_none, Option.isSome_none] at hlk
   go_enter Tryz.func200, Tryz.ntmps200
   go_upto_region 4 with (first
     | (refine ld24 (by rfl) (.tmp 3) (by rfl) (w.heap.size + 1) 0 (by rfl) X hX hr ?_)
     | (go_at_call 208; go_must (refine (place_any sp n cap es X _ _ hS2 hX).mono ?_; rintro r w1 ⟨hb1, ⟨i, e, hF, rfl⟩ | ⟨hno, rfl⟩⟩)))
   · have hb := b2.trans (hb1.mono (by simp; omega))
     have hp := hF.pre
     have hi : i < n := by rw [hl.out]; exact (List.getElem?_eq_some_iff.1 hF.here).1
     have hI : (i : Int) < n := by omega
     have hS3 := hS.here.below hb
     have hM3 := hM.same (hb.block gp hgl)
     have A03 := A0.below hb1 (by simp; omega)
     have A13 := A1.below hb1 (by simp)
     have hr3 := A13.range
     by_cases hqq : shl e.bs = X
     · rw [if_pos hqq] at hp
       have hd : decide (shl e.bs = X) = true := by simpa using hqq
       rw [hd]
       obtain ⟨o, hup, hM4⟩ := run_updateH hM3 X hX (i : Int) hq
       have A04 : Arr (w1.putObj gp o) w.heap.size 245 #[.slice sp n cap, .map (some gp)] := by
         have : (w1.putObj gp o).heap[w.heap.size]? = w1.heap[w.heap.size]? := by simp [World.putObj, Array.getElem?_setIfInBounds, show gp ≠ w.heap.size by omega]
         exact this.trans A03
       obtain ⟨g, off, rfl, hgN, hR⟩ := hS3.at0 (by omega)
       have c0' := range_c0 (hR i e hF.here)
       have hgb : g ≠ gp := by
         obtain ⟨g', off', e', hg', -⟩ := hS.at0 (by omega)
         cases e'
         omega
       have c0 : (w1.putObj gp o).cell? ⟨g, off + i * 33, none⟩ = some (.slice e.sp e.n e.cap) := by
         rw [World.cell?_of_block (w := w1) (a := ⟨g, off + i * 33, none⟩) (by simp [World.putObj, Array.getElem?_setIfInBounds, Ne.symm hgb])]
         exact c0'
       have hfin : Hid (ShPost es X N gp w (.returned (.slice e.sp e.n e.cap)) (w1.putObj gp o)) := Hid.mk' ⟨⟨_, hM4, fun Y j hY hj => by
           by_cases hYX : Y = X
           · subst hYX
             simp at hj
             exact ⟨i, e, hj.symm, hF, hqq⟩
           · simp [hYX] at hj
             exact hf Y j hY hj⟩, by simpa [World.putObj] using hb.size, hb.os, hb.tape, hb.output, fun b hlt hne => by
           have : (w1.putObj gp o).heap[b]? = w1.heap[b]? := by simp [World.putObj, Array.getElem?_setIfInBounds, Ne.symm hne]
           exact this.trans (hb.block b hlt), .inl ⟨e, hp, List.mem_of_getElem? hF.here, rfl⟩⟩
       have d0 := A03.cell 0
       have d1 := A03.cell 1
       have e0 := A04.cell 0
       have e1 := A04.cell 1
       simp at d0 d1 e0 e1
       clear hd hqq hF hR hS2 hS3 hS hp hf hM2 hM hM3 hM4 A1 A0 A03 A04 A13 hlk c0' hq
       go_wp2_with (refine ld24 (by rfl) (.tmp 3) (by rfl) (w.heap.size + 1) 0 (by rfl) X hX hr3 ?_)
       go_ret
       exact hfin.out
     · rw [if_neg hqq] at hp
       have hd : decide (shl e.bs = X) = false := by simpa using hqq
       rw [hd]
       have hfin := Hid.mk' (shP (N := N) (r := .panicked trapV) ⟨f, hM3, hf⟩ hb (.inr ⟨hp, rfl⟩))
       clear hd hqq hF hS2 hS3 hS hp hf hM2 hM hM3 A1 A0 A03 A13 hlk hq
       go_wp2_with fail
       exact ⟨rfl, hfin.out⟩
   · have hb := b2.trans (hb1.mono (by simp; omega))
     have hM3 := hM.same (hb.block gp hgl)
     have hfin := Hid.mk' (shP (N := N) (r := .panicked trapV) ⟨f, hM3, hf⟩ hb (.inr ⟨pre_none hno, rfl⟩))
     clear hno hS2 hS hf hM2 hM hM3 A1 A0 hlk hq
     go_wp2_with fail
     exact ⟨rfl, hfin.out⟩
def mkL (i : Int) : Option (List Int) := if i = 0 then some [] else if 256 ≤ i ∧ i ≤ 511 then some [i - 256] else none
theorem mark_ok {i : Int} {L : List Int} (w : World) (hi : 0 ≤ i ∧ i < 4294967296) (hL : mkL i = some L) :
   Calls Tryz.prog 206 #[.int .u32 i] w fun e w' => ∃ v, e = .returned v ∧ w'.ownsRow w.heap.size 5 1 v L.length (by8 L) ∧ Below w.heap.size w w' := by
 unfold mkL at hL
 by_cases h0 : i = 0
 · rw [if_pos h0] at hL
   cases hL
   subst h0
   go_enter Tryz.func206, Tryz.ntmps206
   go_wp2
   go_ret
   exact ⟨_, rfl, World.ownsRow_nil _ _ _ _, Below.refl _ _⟩
 · rw [if_neg h0] at hL
   by_cases h1 : 256 ≤ i ∧ i ≤ 511
   · rw [if_pos h1] at hL
     cases hL
     have a1 : (i == 0) = false := by simpa using h0
     have a2 : ¬ i < 256 := by omega
     have a3 : ¬ 511 < i := by omega
     have a4 : IntKind.u8.wrap (i - 256) = i - 256 := wrap8_of (by omega) (by omega)
     have a5 : IntKind.u32.wrap (i - 256) = i - 256 := by rw [w32]; omega
     clear h1 h0 hi
     have hlit : (w.alloc (.cells #[.int .u8 (i - 256)] 5)).ownsRow w.heap.size 5 1 (.slice (some ⟨w.heap.size, 0, none⟩) 1 1) 1 (by8 [i - 256]) := World.ownsRow_lit _ _ _ (Nat.le_refl _) (by unfold maxLen; omega) rfl
     go_enter Tryz.func206, Tryz.ntmps206
     go_wp2
     go_ret
     exact ⟨_, rfl, hlit, alloc_bel' _ _⟩
   · rw [if_neg h1] at hL
     cases hL
theorem mark_no {i : Int} (w : World) (hi : 0 ≤ i ∧ i < 4294967296) (hL : mkL i = none) :
   Calls Tryz.prog 206 #[.int .u32 i] w fun e w' => e = .panicked trapV ∧ w' = w := by
 unfold mkL at hL
 by_cases h0 : i = 0
 · rw [if_pos h0] at hL
   cases hL
 · rw [if_neg h0] at hL
   by_cases h1 : 256 ≤ i ∧ i ≤ 511
   · rw [if_pos h1] at hL
     cases hL
   · have a1 : (i == 0) = false := by simpa using h0
     by_cases h2 : i < 256
     · go_enter Tryz.func206, Tryz.ntmps206
       go_wp2
       exact ⟨rfl, rfl, rfl⟩
     · have h3 : 511 < i := by omega
       go_enter Tryz.func206, Tryz.ntmps206
       go_wp2
       exact ⟨rfl, rfl, rfl⟩
def fbL (W : Nat → Int) (s : Nat) : List Int := (List.range s).map (fromB W)
theorem fbL_len (W : Nat → Int) (s : Nat) : (fbL W s).length = s := by simp [fbL]
theorem fbL_succ (W : Nat → Int) (s : Nat) : fbL W s ++ [fromB W s] = fbL W (s + 1) := by simp [fbL, List.range_succ]
theorem fbL_bts (W : Nat → Int) (s : Nat) : Bts (fbL W s) := by
 intro x hx
 simp only [fbL, List.mem_map] at hx
 obtain ⟨t, -, rfl⟩ := hx
 unfold fromB
 omega
theorem firstBytes_any {sp : Option Addr} {c cap s : Nat} {y : Int} {W : Nat → Int} (w : World) (hy : y = (s : Int)) (hs : s ≤ 128) (hW : ∀ t, U64 (W t)) (hc : s ≤ 8 * c) (hcc : c ≤ cap) (hb : c ≤ 4096)
   (hw : 0 < c → ∃ gm k, sp = some ⟨gm, k, none⟩ ∧ gm < w.heap.size ∧ ∀ t, t < c → w.cell? ⟨gm, k + t, none⟩ = some (.int .u64 (W t))) :
   Calls Tryz.prog 207 #[.slice sp c cap, .int .u64 y] w fun e w' => ∃ v, e = .returned v ∧ w'.ownsRow w.heap.size 5 1 v s (by8 (fbL W s)) ∧ Below w.heap.size w w' := by
 subst hy
 obtain ⟨i0, hi, hz0, hz1, hz2⟩ := info_parts info5
 go_enter Tryz.func207, Tryz.ntmps207
 go_wp2_with (at_make; go_must (refine wpList_make_own _ (by rfl) (.const (.int .i64 0)) (.tmp 7) 32 (by rfl) w.heap.size 5 i0 (.int .u8 0) 1 Tryz.underlying32 hi hz0 hz1 .i64 .u64 _ s (by rfl) (by rfl) (by omega) (by rw [hz2]; omega) (Nat.le_trans (by omega) maxLen_ge) (Nat.le_refl _) ?_; intro w1 hown1 hg1))
 have hB1 : Below w.heap.size w w1 := (Below.refl _ _).grown hg1 (Nat.le_refl _) (fun k e => by cases e)
 go_loopw [5, 10] (fun v q wr => ∃ (k : Nat), q = .int .u64 (k : Int) ∧ k ≤ s ∧ wr.ownsRow w.heap.size 5 1 v k (by8 (fbL W k)) ∧ Below w.heap.size w wr)
   (fun _ q _ => s - (intOf q).toNat)
 case atStart => exact ⟨0, rfl, by omega, hown1, hB1⟩
 case round =>
   clear hown1 hB1 hg1
   obtain ⟨k, rfl, hk, hown, hbl⟩ := hrel
   by_cases hlt : k < s
   · have hI : (k : Int) < s := by omega
     obtain ⟨gm, o, rfl, hgl, hcell⟩ := hw (by omega)
     have hcl : wr.cell? ⟨gm, o + k / 8, none⟩ = some (.int .u64 (W (k / 8))) := (hbl.cell (p := ⟨gm, o + k / 8, none⟩) hgl).trans (hcell (k / 8) (by omega))
     have hki : ((k : Int) / 8) < c := by omega
     have hkn : ((k : Int) / 8).toNat = k / 8 := by omega
     have hU := hW (k / 8)
     have hU1 := hU.1
     have hU2 := hU.2
     have m8 : (k : Int) % 8 < 8 := by omega
     have m0 : 0 ≤ (k : Int) % 8 := by omega
     have e2 : (56 - 8 * ((k : Int) % 8)).toNat = 56 - 8 * (k % 8) := by omega
     go_upto_region 6 with (at_builtin; go_must (refine append_bytes (by rfl) (.tmp 13) (.tmp 25) (by rfl) w.heap.size _ k (fbL W k) (by rfl) (hown.alloc _) (some ⟨wr.heap.size, 0, none⟩) 1 1 [fromB W k] (by rfl) (by rfl) (fun h => by cases h) (Arr.sl (Arr.new wr 5 _)) (by omega) (by have := hbl.size; simp; omega) ?_; intro v3 w3 hown3 hg3))
     have hB3 : Below w.heap.size w w3 := (hbl.alloc hbl.size _).grown hg3 (by have := hbl.size; simp; omega) (fun k e => own_ge hown k e)
     go_wp2_with fail
     go_roundw
     case rel => exact ⟨k + 1, by go_num, by omega, by rw [← fbL_succ]; exact hown3, hB3⟩
     case measure => simp [intOf]; omega
   · obtain rfl : k = s := by omega
     go_wp2_with fail
     go_ret
     exact ⟨_, rfl, hown, hbl⟩
def pcN (bs : List Int) (p : Nat) : Nat → Int
 | 0 => 0
 | k + 1 => pcN bs p k * 256 + bat bs (p + k)
theorem bat_rg {bs : List Int} (h : Bts bs) (t : Nat) : 0 ≤ bat bs t ∧ bat bs t ≤ 255 := by
 unfold bat
 by_cases ht : t < bs.length
 · rw [List.getD_eq_getElem?_getD, List.getElem?_eq_getElem ht]
   exact h _ (List.getElem_mem ht)
 · rw [List.getD_eq_getElem?_getD, List.getElem?_eq_none (by omega)]
   simp
theorem pcN_rg {bs : List Int} (h : Bts bs) (p : Nat) : ∀ k, 0 ≤ pcN bs p k ∧ pcN bs p k < 256 ^ k
 | 0 => by simp [pcN]
 | k + 1 => by
   have ih := pcN_rg h p k
   have hb := bat_rg h (p + k)
   have e : (256 : Int) ^ (k + 1) = 256 ^ k * 256 := by rw [Int.pow_succ]
   simp only [pcN, e]; omega
theorem pow256 {k : Nat} (h : k < 8) : (256 : Int) ^ k ≤ 72057594037927936 := by
 match k, h with
 | 0, _ => decide
 | 1, _ => decide
 | 2, _ => decide
 | 3, _ => decide
 | 4, _ => decide
 | 5, _ => decide
 | 6, _ => decide
 | 7, _ => decide
theorem pcN_u {bs : List Int} (h : Bts bs) (p : Nat) : U64 (pcN bs p 8) := by
 have := pcN_rg h p 8
 unfold U64
 have e : (256 : Int) ^ 8 = 18446744073709551616 := by decide
 rw [e] at this
 exact this
theorem pcN_step {bs : List Int} (h : Bts bs) (p : Nat) {k : Nat} (hk : k < 8) : bits .or .u64 (IntKind.u64.wrap (pcN bs p k * 256)) (IntKind.u64.wrap (bat bs (p + k))) = pcN bs p (k + 1) := by
 have h1 := pcN_rg h p k
 have h2 := pow256 hk
 have hb := bat_rg h (p + k)
 rw [wrap64_of (by omega) (by omega), wrap64_of (by omega) (by omega), or8 _ _ (by omega) (by omega) hb.1 hb.2]
 rfl
theorem size119 : (Tryz.prog.info? 249).map (·.size) = some 8 := by kernel_rfl
theorem index119 (C : Array Value) (f : Nat → Int) (h : ∀ t, t < 8 → C[t]? = some (.int .u8 (f t))) (k : Nat) (hk : k < 8) (w : World) : (Instr.index 249 (.agg C) (.int .i64 (k : Int))).run Tryz.prog w = .ok (.int .u8 (f k)) w := by
 have e : C[k]? = some (.int .u8 (f k)) := h k hk
 simp [Instr.index, asIntOf, run_underlying Tryz.underlying249, Tryz.sizeOf5, part, Tryz.isAgg5, hk, e]
def pcL (bs : List Int) (p : Nat) : List Int := (bs.drop p).take 8
def zero8 : List Value := [.int .u8 0, .int .u8 0, .int .u8 0, .int .u8 0, .int .u8 0, .int .u8 0, .int .u8 0, .int .u8 0]
theorem pcL_row (bs : List Int) (p : Nat) : ∀ t, t < 8 → (splice zero8 0 (by8 (pcL bs p))).toArray[t]? = some (.int .u8 (bat bs (p + t))) := by
 intro t ht
 have hl : (by8 (pcL bs p)).length = min 8 (bs.length - p) := by rw [by8_len, pcL, List.length_take, List.length_drop]
 rw [List.getElem?_toArray, splice]
 simp only [List.take_zero, List.nil_append, Nat.zero_add]
 by_cases h : t < min 8 (bs.length - p)
 · rw [List.getElem?_append_left (by rw [hl]; exact h), by8_get (by rw [← by8_len, hl]; exact h)]
   congr 2
   simp only [bat, pcL, List.getD_eq_getElem?_getD, List.getElem?_take_of_lt ht, List.getElem?_drop]
 · rw [List.getElem?_append_right (by rw [hl]; omega), List.getElem?_drop, hl]
   have e : min 8 (bs.length - p) + (t - min 8 (bs.length - p)) = t := by omega
   rw [e]
   have : bat bs (p + t) = 0 := by
     simp only [bat, List.getD_eq_getElem?_getD]
     rw [List.getElem?_eq_none (by omega)]
     rfl
   rw [this]
   match t, ht with
   | 0, _ => rfl
   | 1, _ => rfl
   | 2, _ => rfl
   | 3, _ => rfl
   | 4, _ => rfl
   | 5, _ => rfl
   | 6, _ => rfl
   | 7, _ => rfl
theorem pcL_len (bs : List Int) (p : Nat) : (by8 (pcL bs p)).length = min (bs.length - p) 8 := by rw [by8_len, pcL, List.length_take, List.length_drop, Nat.min_comm]
theorem piece_in {N g off n cap p : Nat} {bs : List Int} {x : Int} (w : World) (hB : BS N w (some ⟨g, off, none⟩) n cap bs) (hx : x = (p : Int)) (hp : p < n) :
   Calls Tryz.prog 199 #[.slice (some ⟨g, off, none⟩) n cap, .int .u64 x] w fun e w' => e = .returned (.int .u64 (pcN bs p 8)) ∧ Below w.heap.size w w' := by
 subst hx
 have hl := hB.len
 have hle := hB.le
 have hsm := hB.small
 have hbig := hB.big
 have a1 : (p : Int) < n := by omega
 have a2 : ¬ cap = p := by omega
 have a3 : (p : Int) ≤ n := by omega
 have a4 : ¬ (n : Int) < p := by omega
 have a5 : IntKind.u64.wrap (n : Int) = n := wrap64_of (by omega) (by omega)
 have hsl := hB.here.below (alloc_bel' w (.cells zero8.toArray 249))
 obtain ⟨b, o, e, -, hby⟩ := hsl.at0 (by omega)
 cases e
 have hsrc : ∀ j v, (by8 (pcL bs p))[j]? = some v → (w.alloc (.cells zero8.toArray 249)).drew.cell? ((⟨g, off + p, none⟩ : Addr).add j) = some v := fun j v hv => by
   have hj : j < (pcL bs p).length := by have := (List.getElem?_eq_some_iff.1 hv).1; rwa [by8_len] at this
   rw [by8_get hj] at hv
   have hj2 : j < min (bs.length - p) 8 := by rw [← pcL_len, by8_len]; exact hj
   have hn := hl.out
   rw [Addr.add_mid, Nat.add_assoc]
   have := hby (p + j) (by omega)
   rw [← hv]
   refine Eq.trans this ?_
   congr 2
   simp only [bat, pcL, List.getD_eq_getElem?_getD]
   rw [List.getElem?_take_of_lt (by omega), List.getElem?_drop]
 clear hby hsl
 replace hsrc := Hid.mk' hsrc
 go_enter Tryz.func199, Tryz.ntmps199
 go_upto_region 2 with fail
 refine rgn (fun _ => True) (trivial) (fun hHeld => ?_)
 refine tk 0 rfl ?_
 refine tk 1 rfl ?_
 refine tk 2 rfl ?_
 refine tk 3 rfl ?_
 refine tk 4 rfl ?_
 refine tk 5 rfl ?_
 refine tk 6 rfl ?_
 refine tk 7 rfl ?_
 refine rd 8 rfl (fun K hK => ?_)
 refine step_copy_splice rfl (.tmp 9) (.tmp 16) 32 32 rfl 5 Tryz.underlying32 size5 _ _ 8 8 (n - p) _ (by rfl) (by rfl) w.heap.size 0 zero8 249 (Arr.new w 249 _) (by8 (pcL bs p)) (by rw [pcL_len, ← hl.out]) (fun _ => ⟨rfl, _, rfl, hsrc.out⟩) (by rw [pcL_len, Nat.zero_add]; exact Nat.min_le_right _ _) (by8_one _) w.heap.size w ((alloc_bel' w _).drew) (Nat.le_refl _) ?_
 intro w1 H1 hb1
 refine ko hK trivial (fun hHeld => ?_)
 clear hK K
 refine dn ?_
 have A1 : Arr w1 w.heap.size 249 (splice zero8 0 (by8 (pcL bs p))).toArray := H1.out
 have hix := index119 _ _ (pcL_row bs p)
 have hs8 : (splice zero8 0 (by8 (pcL bs p))).toArray.size = 8 := by simp only [List.size_toArray]; rw [length_splice _ _ _ (by rw [pcL_len, Nat.zero_add]; exact Nat.min_le_right _ _)]; rfl
 generalize (splice zero8 0 (by8 (pcL bs p))).toArray = C at A1 hix hs8
 clear H1 hHeld
 go_wp2_with (refine wpList_load_row (by rfl) 249 (.tmp 5) (by rfl) w.heap.size (by rfl) 249 C (0, 0) _ A1 Tryz.underlying249 rfl (by rw [hs8]; exact size119) ?_)
 go_loopw [6, 19] (fun v q wr => wr = w1 ∧ ∃ (k : Nat), q = .int .i64 (k : Int) ∧ k ≤ 8 ∧ v = .int .u64 (pcN bs p k))
   (fun _ q _ => 8 - (intOf q).toNat)
 case atStart => exact ⟨rfl, 0, rfl, by omega, rfl⟩
 case round =>
   obtain ⟨rfl, k, rfl, hk, rfl⟩ := hrel
   by_cases hlt : k < 8
   · have hI : (k : Int) < 8 := by omega
     have hx := hix k hlt
     have hst := pcN_step hB.bts p hlt
     go_wp2_with fail
     go_roundw
     case rel => exact ⟨by trivial, k + 1, by go_num, by omega, by first | rfl | (rw [← hst]) | (simp only [pcN])⟩
     case measure => simp [intOf]; omega
   · obtain rfl : k = 8 := by omega
     go_wp2_with fail
     go_ret
     exact ⟨rfl, hb1⟩
theorem piece_o1 {N n cap : Nat} {ad : Addr} {bs : List Int} {x : Int} (w : World) (hB : BS N w (some ad) n cap bs) (hx : U64 x) (hp : (n : Int) ≤ x) (hc : ¬ cap = n) :
   Calls Tryz.prog 199 #[.slice (some ad) n cap, .int .u64 x] w fun e w' => e = .returned (.int .u64 (pcN bs x.toNat 8)) ∧ Below w.heap.size w w' := by
 have hl := hB.len
 have hle := hB.le
 have hsm := hB.small
 have hbig := hB.big
 have hx1 := hx.1
 have hx2 := hx.2
 obtain ⟨p, hpp⟩ : ∃ p, p = x.toNat := ⟨_, rfl⟩
 rw [← hpp]
 have hz : by8 (pcL bs p) = [] := by
   have := hl.out
   apply List.eq_nil_of_length_eq_zero
   rw [pcL_len]; omega
 replace hz := Hid.mk' hz
 clear hpp
 have a5 : IntKind.u64.wrap (n : Int) = n := wrap64_of (by omega) (by omega)
 have a6 : (if (n : Int) < x then (n : Int) else x) = n := by split <;> omega
 go_enter Tryz.func199, Tryz.ntmps199
 go_upto_region 2 with fail
 refine rgn (fun _ => True) (trivial) (fun hHeld => ?_)
 refine tk 0 rfl ?_
 refine tk 1 rfl ?_
 refine tk 2 rfl ?_
 refine tk 3 rfl ?_
 refine tk 4 rfl ?_
 refine tk 5 rfl ?_
 refine tk 6 rfl ?_
 refine tk 7 rfl ?_
 refine rd 8 rfl (fun K hK => ?_)
 refine step_copy_splice rfl (.tmp 9) (.tmp 16) 32 32 rfl 5 Tryz.underlying32 size5 _ _ 8 8 0 _ (by rfl) (by rfl) w.heap.size 0 zero8 249 (Arr.new w 249 _) (by8 (pcL bs p)) (by rw [hz.out]; simp) (fun h0 => absurd h0 (by rw [hz.out]; simp)) (by rw [pcL_len, Nat.zero_add]; exact Nat.min_le_right _ _) (by8_one _) w.heap.size w ((alloc_bel' w _).drew) (Nat.le_refl _) ?_
 intro w1 H1 hb1
 refine ko hK trivial (fun hHeld => ?_)
 clear hK K
 refine dn ?_
 have A1 : Arr w1 w.heap.size 249 (splice zero8 0 (by8 (pcL bs p))).toArray := H1.out
 have hix := index119 _ _ (pcL_row bs p)
 have hs8 : (splice zero8 0 (by8 (pcL bs p))).toArray.size = 8 := by simp only [List.size_toArray]; rw [length_splice _ _ _ (by rw [pcL_len, Nat.zero_add]; exact Nat.min_le_right _ _)]; rfl
 generalize (splice zero8 0 (by8 (pcL bs p))).toArray = C at A1 hix hs8
 clear H1 hHeld
 go_wp2_with (refine wpList_load_row (by rfl) 249 (.tmp 5) (by rfl) w.heap.size (by rfl) 249 C (0, 0) _ A1 Tryz.underlying249 rfl (by rw [hs8]; exact size119) ?_)
 go_loopw [6, 19] (fun v q wr => wr = w1 ∧ ∃ (k : Nat), q = .int .i64 (k : Int) ∧ k ≤ 8 ∧ v = .int .u64 (pcN bs p k))
   (fun _ q _ => 8 - (intOf q).toNat)
 case atStart => exact ⟨rfl, 0, rfl, by omega, rfl⟩
 case round =>
   obtain ⟨rfl, k, rfl, hk, rfl⟩ := hrel
   by_cases hlt : k < 8
   · have hI : (k : Int) < 8 := by omega
     have hx := hix k hlt
     have hst := pcN_step hB.bts p hlt
     go_wp2_with fail
     go_roundw
     case rel => exact ⟨by trivial, k + 1, by go_num, by omega, by first | rfl | (rw [← hst]) | (simp only [pcN])⟩
     case measure => simp [intOf]; omega
   · obtain rfl : k = 8 := by omega
     go_wp2_with fail
     go_ret
     exact ⟨rfl, hb1⟩
theorem piece_o2 {N n : Nat} {ad : Addr} {bs : List Int} {x : Int} (w : World) (hB : BS N w (some ad) n n bs) (hx : U64 x) (hp : (n : Int) ≤ x) :
   Calls Tryz.prog 199 #[.slice (some ad) n n, .int .u64 x] w fun e w' => e = .returned (.int .u64 (pcN bs x.toNat 8)) ∧ Below w.heap.size w w' := by
 have hl := hB.len
 have hle := hB.le
 have hsm := hB.small
 have hbig := hB.big
 have hx1 := hx.1
 have hx2 := hx.2
 obtain ⟨p, hpp⟩ : ∃ p, p = x.toNat := ⟨_, rfl⟩
 rw [← hpp]
 have hz : by8 (pcL bs p) = [] := by
   have := hl.out
   apply List.eq_nil_of_length_eq_zero
   rw [pcL_len]; omega
 replace hz := Hid.mk' hz
 clear hpp
 have a5 : IntKind.u64.wrap (n : Int) = n := wrap64_of (by omega) (by omega)
 have a6 : (if (n : Int) < x then (n : Int) else x) = n := by split <;> omega
 go_enter Tryz.func199, Tryz.ntmps199
 go_upto_region 2 with fail
 refine rgn (fun _ => True) (trivial) (fun hHeld => ?_)
 refine tk 0 rfl ?_
 refine tk 1 rfl ?_
 refine tk 2 rfl ?_
 refine tk 3 rfl ?_
 refine tk 4 rfl ?_
 refine tk 5 rfl ?_
 refine tk 6 rfl ?_
 refine tk 7 rfl ?_
 refine rd 8 rfl (fun K hK => ?_)
 refine step_copy_splice rfl (.tmp 9) (.tmp 16) 32 32 rfl 5 Tryz.underlying32 size5 _ _ 8 8 0 _ (by rfl) (by rfl) w.heap.size 0 zero8 249 (Arr.new w 249 _) (by8 (pcL bs p)) (by rw [hz.out]; simp) (fun h0 => absurd h0 (by rw [hz.out]; simp)) (by rw [pcL_len, Nat.zero_add]; exact Nat.min_le_right _ _) (by8_one _) w.heap.size w ((alloc_bel' w _).drew) (Nat.le_refl _) ?_
 intro w1 H1 hb1
 refine ko hK trivial (fun hHeld => ?_)
 clear hK K
 refine dn ?_
 have A1 : Arr w1 w.heap.size 249 (splice zero8 0 (by8 (pcL bs p))).toArray := H1.out
 have hix := index119 _ _ (pcL_row bs p)
 have hs8 : (splice zero8 0 (by8 (pcL bs p))).toArray.size = 8 := by simp only [List.size_toArray]; rw [length_splice _ _ _ (by rw [pcL_len, Nat.zero_add]; exact Nat.min_le_right _ _)]; rfl
 generalize (splice zero8 0 (by8 (pcL bs p))).toArray = C at A1 hix hs8
 clear H1 hHeld
 go_wp2_with (refine wpList_load_row (by rfl) 249 (.tmp 5) (by rfl) w.heap.size (by rfl) 249 C (0, 0) _ A1 Tryz.underlying249 rfl (by rw [hs8]; exact size119) ?_)
 go_loopw [6, 19] (fun v q wr => wr = w1 ∧ ∃ (k : Nat), q = .int .i64 (k : Int) ∧ k ≤ 8 ∧ v = .int .u64 (pcN bs p k))
   (fun _ q _ => 8 - (intOf q).toNat)
 case atStart => exact ⟨rfl, 0, rfl, by omega, rfl⟩
 case round =>
   obtain ⟨rfl, k, rfl, hk, rfl⟩ := hrel
   by_cases hlt : k < 8
   · have hI : (k : Int) < 8 := by omega
     have hx := hix k hlt
     have hst := pcN_step hB.bts p hlt
     go_wp2_with fail
     go_roundw
     case rel => exact ⟨by trivial, k + 1, by go_num, by omega, by first | rfl | (rw [← hst]) | (simp only [pcN])⟩
     case measure => simp [intOf]; omega
   · obtain rfl : k = 8 := by omega
     go_wp2_with fail
     go_ret
     exact ⟨rfl, hb1⟩
theorem piece_o3 {N n : Nat} {ad : Addr} {bs : List Int} {x : Int} (w : World) (hB : BS N w none n n bs) (hx : U64 x) (hp : (n : Int) ≤ x) :
   Calls Tryz.prog 199 #[.slice none n n, .int .u64 x] w fun e w' => e = .returned (.int .u64 (pcN bs x.toNat 8)) ∧ Below w.heap.size w w' := by
 have hl := hB.len
 have hle := hB.le
 have hsm := hB.small
 have hbig := hB.big
 have hx1 := hx.1
 have hx2 := hx.2
 obtain ⟨p, hpp⟩ : ∃ p, p = x.toNat := ⟨_, rfl⟩
 rw [← hpp]
 have hz : by8 (pcL bs p) = [] := by
   have := hl.out
   apply List.eq_nil_of_length_eq_zero
   rw [pcL_len]; omega
 replace hz := Hid.mk' hz
 clear hpp
 have a5 : IntKind.u64.wrap (n : Int) = n := wrap64_of (by omega) (by omega)
 have a6 : (if (n : Int) < x then (n : Int) else x) = n := by split <;> omega
 obtain ⟨rfl, -⟩ := hB.nil rfl
 have a7 : (if IntKind.u64.wrap 0 < x then IntKind.u64.wrap 0 else x) = 0 := by rw [wrap_mod]; split <;> omega
 go_enter Tryz.func199, Tryz.ntmps199
 go_upto_region 2 with fail
 refine rgn (fun _ => True) (trivial) (fun hHeld => ?_)
 refine tk 0 rfl ?_
 refine tk 1 rfl ?_
 refine tk 2 rfl ?_
 refine tk 3 rfl ?_
 refine tk 4 rfl ?_
 refine tk 5 rfl ?_
 refine tk 6 rfl ?_
 refine tk 7 rfl ?_
 refine rd 8 rfl (fun K hK => ?_)
 refine step_copy_splice rfl (.tmp 9) (.tmp 16) 32 32 rfl 5 Tryz.underlying32 size5 _ _ 8 8 0 _ (by rfl) (by rfl) w.heap.size 0 zero8 249 (Arr.new w 249 _) (by8 (pcL bs p)) (by rw [hz.out]; simp) (fun h0 => absurd h0 (by rw [hz.out]; simp)) (by rw [pcL_len, Nat.zero_add]; exact Nat.min_le_right _ _) (by8_one _) w.heap.size w ((alloc_bel' w _).drew) (Nat.le_refl _) ?_
 intro w1 H1 hb1
 refine ko hK trivial (fun hHeld => ?_)
 clear hK K
 refine dn ?_
 have A1 : Arr w1 w.heap.size 249 (splice zero8 0 (by8 (pcL bs p))).toArray := H1.out
 have hix := index119 _ _ (pcL_row bs p)
 have hs8 : (splice zero8 0 (by8 (pcL bs p))).toArray.size = 8 := by simp only [List.size_toArray]; rw [length_splice _ _ _ (by rw [pcL_len, Nat.zero_add]; exact Nat.min_le_right _ _)]; rfl
 generalize (splice zero8 0 (by8 (pcL bs p))).toArray = C at A1 hix hs8
 clear H1 hHeld
 go_wp2_with (refine wpList_load_row (by rfl) 249 (.tmp 5) (by rfl) w.heap.size (by rfl) 249 C (0, 0) _ A1 Tryz.underlying249 rfl (by rw [hs8]; exact size119) ?_)
 go_loopw [6, 19] (fun v q wr => wr = w1 ∧ ∃ (k : Nat), q = .int .i64 (k : Int) ∧ k ≤ 8 ∧ v = .int .u64 (pcN bs p k))
   (fun _ q _ => 8 - (intOf q).toNat)
 case atStart => exact ⟨rfl, 0, rfl, by omega, rfl⟩
 case round =>
   obtain ⟨rfl, k, rfl, hk, rfl⟩ := hrel
   by_cases hlt : k < 8
   · have hI : (k : Int) < 8 := by omega
     have hx := hix k hlt
     have hst := pcN_step hB.bts p hlt
     go_wp2_with fail
     go_roundw
     case rel => exact ⟨by trivial, k + 1, by go_num, by omega, by first | rfl | (rw [← hst]) | (simp only [pcN])⟩
     case measure => simp [intOf]; omega
   · obtain rfl : k = 8 := by omega
     go_wp2_with fail
     go_ret
     exact ⟨rfl, hb1⟩
theorem piece_any {N n cap : Nat} {sp : Option Addr} {bs : List Int} {x : Int} (w : World) (hB : BS N w sp n cap bs) (hx : U64 x) :
   Calls Tryz.prog 199 #[.slice sp n cap, .int .u64 x] w fun e w' => e = .returned (.int .u64 (pcN bs x.toNat 8)) ∧ Below w.heap.size w w' := by
 have h1 := hx.1
 by_cases hp : x < n
 · obtain ⟨g, off, rfl, -⟩ := hB.at0 (by omega)
   exact piece_in w hB (by omega) (by omega)
 · cases sp with
   | none =>
     obtain ⟨rfl, rfl⟩ := hB.nil rfl
     exact piece_o3 (ad := ⟨0, 0, none⟩) w hB hx (by omega)
   | some a =>
     by_cases hc : cap = n
     · subst hc; exact piece_o2 w hB hx (by omega)
     · exact piece_o1 w hB hx (by omega) hc
def Mc.nxt (m : Mc) : Mc := { m with pc := IntKind.u64.wrap (m.pc + 1) }
def Mc.put (m : Mc) (a : Nat) (x : Int) : Mc := { m with rg := m.rg.set a x, pc := IntKind.u64.wrap (m.pc + 1) }
def Mc.wds (m : Mc) (b : Nat) (t : Nat) : Int := m.me.getD (b + t) 0
def wsu (L : List Int) (j : Nat) : Int := wacc (shaB (bat L) L.length) j 8
def put4 (L : List Int) (a : Nat) (W : Nat → Int) : List Int := (((L.set a (W 0)).set (a + 1) (W 1)).set (a + 2) (W 2)).set (a + 3) (W 3)
def hs (m : Mc) (i ra rb rc : Int) : Option Mc :=
 if 128 < rc then none else if ¬ ra + 4 ≤ m.me.length then none else if ¬ (rc = 0 ∨ rb + (rc + 7) / 8 ≤ m.me.length) then none else
 match mkL i with
 | none => none
 | some P => some { m.nxt with me := put4 m.me ra.toNat (wsu (P ++ fbL (m.wds rb.toNat) rc.toNat)) }
def prm (es : List En) (m : Mc) (rb : Int) : Option En := if rb + 4 ≤ m.me.length then pre es (fmL (m.wds rb.toNat)) else none
def ex (es : List En) (m : Mc) (o : Int) (a b c : Nat) (i : Int) : Option Mc :=
 if o = 1 then some { m with st := 1 }
 else if o = 2 then some (m.put a i)
 else if o = 3 then some (m.put a (bits .or .u64 (IntKind.u64.wrap (m.get a * 4294967296)) i))
 else if o = 4 then some (m.put a (m.get b))
 else if o = 17 then (if IntKind.u64.wrap (m.get b + i) < m.me.length then some (m.put a (m.me.getD (IntKind.u64.wrap (m.get b + i)).toNat 0)) else none)
 else if o = 18 then (if IntKind.u64.wrap (m.get b + i) < m.me.length then some { m.nxt with me := m.me.set (IntKind.u64.wrap (m.get b + i)).toNat (m.get a) } else none)
 else if o = 19 then some { m with pc := i }
 else if o = 20 then (if m.get a = 0 then some { m with pc := i } else some m.nxt)
 else if o = 21 then (if m.get a = 0 then some m.nxt else some { m with pc := i })
 else if o = 22 then some { m with pc := m.get a }
 else if o = 23 then hs m i (m.get a) (m.get b) (m.get c)
 else if o = 24 then (prm es m (m.get b)).map (fun e => m.put a (pcN e.bs (m.get c).toNat 8))
 else if o = 25 then (prm es m (m.get b)).map (fun e => m.put a e.n)
 else (rk o (m.get b) (m.get c)).map (m.put a)
def stp (es : List En) (m : Mc) : Option Mc :=
 if m.pc < m.me.length then (if dOk (m.me.getD m.pc.toNat 0) = true then ex es m (dOp (m.me.getD m.pc.toNat 0)) (dA (m.me.getD m.pc.toNat 0)).toNat (dB (m.me.getD m.pc.toNat 0)).toNat (dC (m.me.getD m.pc.toNat 0)).toNat (dI (m.me.getD m.pc.toNat 0)) else none) else none
def tick (es : List En) (m : Mc) : Mc := (stp es m).getD { m with st := 2 }
def rn (es : List En) : Nat → Mc → Mc × Nat
 | 0, m => (m, 0)
 | k + 1, m => if m.st = 0 then ((rn es k (tick es m)).1, (rn es k (tick es m)).2 + 1) else (m, 0)
theorem Chg.drew {S : Nat → Prop} {a b : World} (h : Chg S a b) : Chg S a b.drew := ⟨h.os, h.tape, h.output, h.size, h.block⟩
theorem Chg.monoV {S S' : Nat → Prop} {a b : World} (h : Chg S a b) (hs : ∀ k, S k → S' k) : Chg S' a b := ⟨h.os, h.tape, h.output, h.size, fun i hi hn => h.block i hi (fun e => hn (hs i e))⟩
theorem refSize_any (x : Int) (w : World) (hx : -9223372036854775808 ≤ x ∧ x ≤ 9223372036854775807) : Calls Tryz.prog 82 #[.int .i64 x] w fun e w' => e = .returned (.bool (szI x)) ∧ w' = w := by
 go_enter Tryz.func82, Tryz.ntmps82
 go_wp2_with fail
 go_loopw [3] (fun q wr => wr = w ∧ ∃ (k : Nat), q = .int .i64 (k : Int) ∧ k ≤ 13 ∧ Hid (∀ j, j < k → x ≠ ((2 ^ j : Nat) : Int)))
   (fun q _ => 13 - (intOf q).toNat)
 case atStart => exact ⟨rfl, 0, rfl, by omega, Hid.mk' (fun j hj => by omega)⟩
 case round =>
   obtain ⟨rfl, k, rfl, hk, hno⟩ := hrel
   by_cases hlt : k ≤ 12
   · have hI : (k : Int) ≤ 12 := by omega
     have hk0 : (0 : Int) ≤ k := by omega
     obtain ⟨p, hp0⟩ : ∃ p : Int, p = ((2 ^ k : Nat) : Int) := ⟨_, rfl⟩
     have hw1 : wrap64 ((2 : Int) ^ k) = p := by rw [wrap_pow (by omega), hp0]
     replace hp0 := Hid.mk' hp0
     have hw3 : IntKind.u64.wrap (k : Int) = k := wrap64_of (by omega) (by omega)
     by_cases he : x = p
     · have he' : (x == p) = true := by simpa using he
       have hf : Hid (szI x = true) := Hid.mk' (by rw [he, hp0.out, szI_nat]; unfold szB; rw [List.any_eq_true]; exact ⟨k, by simp; omega, by simp⟩)
       replace he := Hid.mk' he
       go_wp2_with fail
       go_ret
       exact ⟨by rw [hf.out]; rfl, rfl⟩
     · have he' : (x == p) = false := by simpa using he
       have hn2 : Hid (∀ j, j < k + 1 → x ≠ ((2 ^ j : Nat) : Int)) := Hid.mk' (fun j hj => by
         by_cases e : j = k
         · subst e; rw [← hp0.out]; exact he
         · exact hno.out j (by omega))
       replace he := Hid.mk' he
       go_wp2_with fail
       go_roundw
       case rel => exact ⟨by trivial, k + 1, by go_num, by omega, hn2⟩
       case measure => simp [intOf]; omega
   · obtain rfl : k = 13 := by omega
     have hf : Hid (szI x = false) := Hid.mk' (by
       cases h : szI x with
       | false => rfl
       | true =>
         unfold szI szB at h
         rw [Bool.and_eq_true, List.any_eq_true] at h
         obtain ⟨h0, j, hj, e⟩ := h
         have h0 := of_decide_eq_true h0
         simp at hj e
         exact absurd (show x = ((2 ^ j : Nat) : Int) by omega) (hno.out j hj))
     go_wp2_with fail
     go_ret
     exact ⟨by rw [hf.out]; rfl, rfl⟩
theorem refMay_anyV (m : Mc) (sp : Option Addr) (n cap : Nat) (w : World) (hok : m.ok) (hl : Hid (n = m.me.length)) (hn : n ≤ 17592186044416) :
   Calls Tryz.prog 33 #[.agg (mcA m sp n cap)] w fun e w' => e = .returned (.bool (mayM m)) ∧ Below w.heap.size w w' := by
 have A0 := Arr.new w 27 (mcA m sp n cap)
 have c17 := (A0.cell 17).trans (mcA_17 hok.r16 sp n cap)
 have c18 := (A0.cell 18).trans (mcA_18 hok.r16 sp n cap)
 have hz : szI (n : Int) = szB m.me.length := by rw [szI_nat, hl.out]
 have hz := Hid.mk' hz
 unfold mayM
 generalize szB m.me.length = b at *
 generalize mcA m sp n cap = C at *
 cases b
 · go_enter Tryz.func33, Tryz.ntmps33
   go_wp2_with (go_at_call 82; go_must (refine (refSize_any _ _ (by omega)).mono ?_; rintro e w1 ⟨rfl, h⟩; subst h; rw [hz.out]))
   go_ret
   exact ⟨rfl, alloc_bel' _ _⟩
 · go_enter Tryz.func33, Tryz.ntmps33
   go_wp2_with (go_at_call 82; go_must (refine (refSize_any _ _ (by omega)).mono ?_; rintro e w1 ⟨rfl, h⟩; subst h; rw [hz.out]))
   go_ret
   exact ⟨rfl, alloc_bel' _ _⟩
end Go.Proofs.YtagebcbnenehfaaGreat
