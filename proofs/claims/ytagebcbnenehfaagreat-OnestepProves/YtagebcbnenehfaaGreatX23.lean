/- QVs1. -/
import Derived.Test.YtagebcbnenehfaaGreatX21
import Derived.Test.YtagebcbnenehfaaGreatX22
namespace Go.Proofs.YtagebcbnenehfaaGreat
open Go.RowKit
set_option maxRecDepth 100000
set_option linter.unusedVariables false
set_option linter.unusedSimpArgs false
set_option maxHeartbeats 40000000
theorem EN.set1 {w : World} {g gm n cap : Nat} {ty : TypeId} {X : List Value} {m : Mc} (h : EN w g ty X gm n cap m) {a : Nat} (ha : a < 16) (v : Value) : (w.setCell ⟨g, 1 + a, none⟩ v).cell? ⟨g, 1 + a, none⟩ = some v :=
 ((h.eng.set (1 + a) v).cell _).trans (by rw [Array.getElem?_setIfInBounds_self_of_lt (by rw [List.size_toArray, List.length_append, mcL_len h.ok.r16]; omega)])
theorem EN.set2 {w : World} {g gm n cap : Nat} {ty : TypeId} {X : List Value} {m : Mc} (h : EN w g ty X gm n cap m) {a : Nat} (ha : a < 16) (u v : Value) : ((w.setCell ⟨g, 1 + a, none⟩ u).setCell ⟨g, 1 + a, none⟩ v).cell? ⟨g, 1 + a, none⟩ = some v :=
 (((h.eng.set (1 + a) u).set (1 + a) v).cell _).trans (by rw [Array.getElem?_setIfInBounds_self_of_lt (by rw [Array.size_setIfInBounds, List.size_toArray, List.length_append, mcL_len h.ok.r16]; omega)])
theorem or0 {i : Int} (h : U64 i) : bits .or .u64 0 i = i := by
 have e : (BitVec.ofInt 64 0).toNat = 0 := by decide
 show IntKind.u64.wrap ((BitVec.ofInt 64 0 ||| BitVec.ofInt 64 i).toNat : Int) = i
 rw [BitVec.toNat_or, e, Nat.zero_or, toNat64 h, Int.toNat_of_nonneg h.1, wrap_u64 h]
theorem keepS {N : Nat} {es : List En} {w w' : World} {g gm gp n cap G : Nat} {sp : Option Addr} {nk ck : Nat} {m' : Mc} {c : Int} (h : w.cell? ⟨G, 3, none⟩ = some (.int .u8 c)) (hG : G ≠ gp) (hb : ∀ b, b < w.heap.size → b ≠ gp → w'.heap[b]? = w.heap[b]?) (hV : VM N es w' g gm gp n cap sp nk ck m') :
   w'.cell? ⟨G, 3, none⟩ = some (.int .u8 c) ∧ w'.cell? ⟨g, 19, none⟩ = some (.slice sp nk ck) ∧ w'.cell? ⟨g, 20, none⟩ = some (.map (some gp)) :=
 ⟨(World.cell?_of_block (w := w) (a := ⟨G, 3, none⟩) (hb G (World.block_lt_of_cell? w _ h) hG)).trans h, hV.en.cx 0, hV.en.cx 1⟩
theorem keepS3 {N : Nat} {es : List En} {w w' : World} {g gm gp n cap G : Nat} {sp : Option Addr} {nk ck : Nat} {m' : Mc} {c : Int} (h : w.cell? ⟨G, 3, none⟩ = some (.int .u8 c)) (hG : G ≠ gp) (hb : ∀ b, b < w.heap.size → b ≠ gp → w'.heap[b]? = w.heap[b]?) (hV : VM N es w' g gm gp n cap sp nk ck m') :
   w'.cell? ⟨G, 3, none⟩ = some (.int .u8 c) ∧ w'.cell? ⟨g, 19, none⟩ = some (.slice sp nk ck) ∧ w'.cell? ⟨g, 20, none⟩ = some (.map (some gp)) :=
 ⟨(World.cell?_of_block (w := w) (a := ⟨G, 3, none⟩) (hb G (World.block_lt_of_cell? w _ h) hG)).trans h, hV.en.cx 0, hV.en.cx 1⟩
theorem step_S1 {N : Nat} {es : List En} {g gm gp n cap pN : Nat} {sp : Option Addr} {nk ck : Nat} {m : Mc} {x i : Int} {a b c : Nat} {o : Int} (hol : o = 1 ∨ o = 2 ∨ o = 3 ∨ o = 4 ∨ o = 22) (w : World) (hV : VM N es w g gm gp n cap sp nk ck m) (hp : m.pc = (pN : Int)) (hpn : pN < n) (hx : m.me.getD pN 0 = x) (hd : dOk x = true) (ho : dOp x = o) (ha : dA x = (a : Nat)) (hb : dB x = (b : Nat)) (hc : dC x = (c : Nat)) (hi : dI x = i) :
   Calls Tryz.prog 188 #[.pointer (some ⟨g, 0, none⟩)] w (StPost N es g gm gp n cap sp nk ck m (ex es m o a b c i) w) := by
 replace hol := Hid.mk' hol
 have hE := hV.en
 have hok := hE.ok
 have hU : U64 x := by rw [← hx]; exact hok.me _
 have hR := dRg hU
 rw [ha, hb, hc, hi] at hR
 obtain ⟨-, ha2, hb2, hc2, hi2⟩ := hR
 have haI : (a : Int) < 16 := ha2.2
 have hbI : (b : Int) < 16 := hb2.2
 have hcI : (c : Int) < 16 := hc2.2
 have ha16 : a < 16 := by omega
 have hb16 : b < 16 := by omega
 have hc16 : c < 16 := by omega
 have hi0 : 0 ≤ i := hi2.1
 have hi1 : i < 4294967296 := hi2.2
 have hUi : U64 i := by unfold U64; omega
 have hwi : IntKind.u64.wrap i = i := wrap_u64 hUi
 have hUa : U64 (m.get a) := hok.rg a
 have hUb : U64 (m.get b) := hok.rg b
 have hUc : U64 (m.get c) := hok.rg c
 have hv := dV_yes hd
 rw [ho, ha, hb, hc, hi] at hv
 have c0 := hE.c0
 have c18 := hE.c18
 have hn := hE.small
 have cx := hE.cm hpn
 rw [hx] at cx
 have hlen := hE.len
 replace hv := Hid.mk' hv
 replace hd := Hid.mk' hd
 replace hp := Hid.mk' hp
 clear ho ha hb hc hi ha2 hb2 hc2 hi2 hx hE
 go_enter Tryz.func188, Tryz.ntmps188
 go_upto_region 3 with (first
   | (go_at_call 197; go_must (refine (word_ok w c18 hn hp.out hpn).mono ?_; rintro e w1 ⟨rfl, h⟩; replace h := h.symm; subst h))
   | (go_at_call 135; go_must (refine (decode_any w hU).mono ?_; rintro e w2 ⟨rfl, hb2⟩; rw [hv.out, hd.out]; have A0 := Arr.new w2 88 (cdA o a b c i); have hB0 := hb2.alloc hb2.size (.cells (cdA o a b c i) 88); have hV2 := hV.bel hB0; have rb0 := hV2.en.cr hb16; have q1 : (w2.alloc (.cells (cdA o a b c i) 88)).cell? ⟨w2.heap.size, 1, none⟩ = some (.int .u8 (a : Int)) := A0.cell 1; have q2 : (w2.alloc (.cells (cdA o a b c i) 88)).cell? ⟨w2.heap.size, 2, none⟩ = some (.int .u8 (b : Int)) := A0.cell 2; have q4 : (w2.alloc (.cells (cdA o a b c i) 88)).cell? ⟨w2.heap.size, 4, none⟩ = some (.int .u32 i) := A0.cell 4; change _ = some (Value.int IntKind.u64 (m.get b)) at rb0; generalize hcd : cdA o a b c i = CD at A0 hB0 hV2 rb0 q1 q2 q4 ⊢))
   | (refine wpList_store_new w2 _ 88 (by rfl) 88 (.tmp 2) (.tmp 18) (by rfl) CD (by rfl) (by rfl) (by rw [← hcd]; exact size25) (by rw [← hcd]; rfl) (by rw [← hcd]; exact one25 _ _ _ _ _) ?_))
 refine rgn (fun u => u = (w2.alloc (.cells CD 88)).drew) (rfl) (fun hHeld => ?_)
 refine tk 0 rfl ?_
 refine tk 1 rfl ?_
 refine tks 2 rfl ?_
 refine tk 3 rfl ?_
 refine tk 4 rfl ?_
 refine tk 5 rfl ?_
 refine tk 6 rfl ?_
 refine tk 7 rfl ?_
 refine tk 8 rfl ?_
 refine tks 9 rfl ?_
 refine tk 10 rfl ?_
 refine tk 11 rfl ?_
 refine tk 12 rfl ?_
 refine tk 13 rfl ?_
 refine tks 14 rfl ?_
 refine tk 15 rfl ?_
 refine tks 16 rfl ?_
 refine tk 17 rfl ?_
 refine tk 18 rfl ?_
 refine tk 19 rfl ?_
 refine tk 20 rfl ?_
 refine dn ?_
 go_upto_region 4 with fail
 obtain ⟨W, hW⟩ : ∃ W : World, W = (w2.alloc (.cells CD 88)).drew := ⟨_, rfl⟩
 obtain ⟨G, hG⟩ : ∃ G : Nat, G = w2.heap.size := ⟨_, rfl⟩
 have AW : Arr W G 88 CD := by rw [hW, hG]; exact A0
 have hBW : Below w.heap.size w W := by rw [hW]; exact hB0.drew
 have hVW : VM N es W g gm gp n cap sp nk ck m := by rw [hW]; exact hV2.bel ((Below.refl _ _).drew)
 rw [← hW, ← hG]
 clear hW hG A0 hB0 hV2 rb0 q1 q2 q4 hb2 cx c0 c18 hv hd hp
 have hEW := hVW.en
 have c0 := hEW.c0
 have c17 := hEW.c17
 have c18 := hEW.c18
 have x0 : W.cell? ⟨g, 19, none⟩ = some (.slice sp nk ck) := hEW.cx 0
 have x1 : W.cell? ⟨g, 20, none⟩ = some (.map (some gp)) := hEW.cx 1
 have ra := hEW.cr ha16
 have rb := hEW.cr hb16
 have rc := hEW.cr hc16
 change _ = some (Value.int IntKind.u64 (m.get a)) at ra
 change _ = some (Value.int IntKind.u64 (m.get b)) at rb
 change _ = some (Value.int IntKind.u64 (m.get c)) at rc
 have fz := hEW.fz
 have fm := hEW.fm
 have hne := hEW.ne
 have hGg : g ≠ G := fun e => by rw [e] at hEW; have h1 := hEW.eng; rw [Arr, AW] at h1; cases h1
 subst hcd
 have k0 : W.cell? ⟨G, 0, none⟩ = some (.int .u8 o) := AW.cell 0
 have k1 : W.cell? ⟨G, 1, none⟩ = some (.int .u8 (a : Int)) := AW.cell 1
 have k3 : W.cell? ⟨G, 3, none⟩ = some (.int .u8 (c : Int)) := AW.cell 3
 have c0' : ∀ v, (W.setCell ⟨g, 1 + a, none⟩ v).cell? ⟨g, 0, none⟩ = some (.int .u64 m.pc) := fun v => (cell_set_ne v (fun e => by injection e with _ e2 _; omega)).trans c0
 have f' : ∀ v j, (W.setCell ⟨g, 1 + a, none⟩ v).frozen? ⟨g, j, none⟩ = false := fun v j => (hEW.eng.set (1 + a) v).frozen j
 rcases hol.out with rfl | rfl | rfl | rfl | rfl
 · go_wp2_with fail
   exact ⟨rfl, _, results_none Tryz.results188 _ _ _, stYes hBW hV (m' := { m with st := 1 }) (by simp [ex]) (hVW.low _ (Chg.refl _ _) (.inl trivial)) (by simp) (hVW.setSt (by omega))⟩
 · have rs1 : ∀ v, (W.setCell ⟨g, 1 + a, none⟩ v).cell? ⟨g, 1 + a, none⟩ = some v := fun v => hEW.set1 ha16 v
   have rs2 : ∀ u v, ((W.setCell ⟨g, 1 + a, none⟩ u).setCell ⟨g, 1 + a, none⟩ v).cell? ⟨g, 1 + a, none⟩ = some v := fun u v => hEW.set2 ha16 u v
   have c02 : ∀ u v, ((W.setCell ⟨g, 1 + a, none⟩ u).setCell ⟨g, 1 + a, none⟩ v).cell? ⟨g, 0, none⟩ = some (.int .u64 m.pc) := fun u v => (cell_set_ne v (fun e => by injection e with _ e2 _; omega)).trans (c0' u)
   have c03 : ∀ u v t, (((W.setCell ⟨g, 1 + a, none⟩ u).setCell ⟨g, 1 + a, none⟩ v).setCell ⟨g, 1 + a, none⟩ t).cell? ⟨g, 0, none⟩ = some (.int .u64 m.pc) := fun u v t => (cell_set_ne t (fun e => by injection e with _ e2 _; omega)).trans (c02 u v)
   have f2 : ∀ u v j, ((W.setCell ⟨g, 1 + a, none⟩ u).setCell ⟨g, 1 + a, none⟩ v).frozen? ⟨g, j, none⟩ = false := fun u v j => ((hEW.eng.set (1 + a) u).set (1 + a) v).frozen j
   have f3 : ∀ u v t j, (((W.setCell ⟨g, 1 + a, none⟩ u).setCell ⟨g, 1 + a, none⟩ v).setCell ⟨g, 1 + a, none⟩ t).frozen? ⟨g, j, none⟩ = false := fun u v t j => (((hEW.eng.set (1 + a) u).set (1 + a) v).set (1 + a) t).frozen j
   have hz2 : bits .or .u64 0 i = i := or0 hUi
   go_wp2_with fail
   exact ⟨rfl, _, results_none Tryz.results188 _ _ _, stYes hBW hV (m' := m.put a i) (by simp [ex]) (hVW.low _ (hVW.low _ (hVW.low _ (hVW.low _ (Chg.refl _ _) (.inl trivial)) (.inl trivial)) (.inl trivial)) (.inl trivial)) (by simp) (by have h := ((hVW.setReg ha16 (x := 0) (by unfold U64; omega)).setReg ha16 (x := 0) (by unfold U64; omega)).put ha16 hUi; simpa [Mc.put] using h)⟩
 · have rs1 : ∀ v, (W.setCell ⟨g, 1 + a, none⟩ v).cell? ⟨g, 1 + a, none⟩ = some v := fun v => hEW.set1 ha16 v
   have rs2 : ∀ u v, ((W.setCell ⟨g, 1 + a, none⟩ u).setCell ⟨g, 1 + a, none⟩ v).cell? ⟨g, 1 + a, none⟩ = some v := fun u v => hEW.set2 ha16 u v
   have c02 : ∀ u v, ((W.setCell ⟨g, 1 + a, none⟩ u).setCell ⟨g, 1 + a, none⟩ v).cell? ⟨g, 0, none⟩ = some (.int .u64 m.pc) := fun u v => (cell_set_ne v (fun e => by injection e with _ e2 _; omega)).trans (c0' u)
   have c03 : ∀ u v t, (((W.setCell ⟨g, 1 + a, none⟩ u).setCell ⟨g, 1 + a, none⟩ v).setCell ⟨g, 1 + a, none⟩ t).cell? ⟨g, 0, none⟩ = some (.int .u64 m.pc) := fun u v t => (cell_set_ne t (fun e => by injection e with _ e2 _; omega)).trans (c02 u v)
   have f2 : ∀ u v j, ((W.setCell ⟨g, 1 + a, none⟩ u).setCell ⟨g, 1 + a, none⟩ v).frozen? ⟨g, j, none⟩ = false := fun u v j => ((hEW.eng.set (1 + a) u).set (1 + a) v).frozen j
   have f3 : ∀ u v t j, (((W.setCell ⟨g, 1 + a, none⟩ u).setCell ⟨g, 1 + a, none⟩ v).setCell ⟨g, 1 + a, none⟩ t).frozen? ⟨g, j, none⟩ = false := fun u v t j => (((hEW.eng.set (1 + a) u).set (1 + a) v).set (1 + a) t).frozen j
   go_wp2_with fail
   exact ⟨rfl, _, results_none Tryz.results188 _ _ _, stYes hBW hV (m' := m.put a (bits .or .u64 (IntKind.u64.wrap (m.get a * 4294967296)) i)) (by simp [ex]) (hVW.low _ (hVW.low _ (hVW.low _ (Chg.refl _ _) (.inl trivial)) (.inl trivial)) (.inl trivial)) (by simp) (by have h := (hVW.setReg ha16 (x := IntKind.u64.wrap (m.get a * 4294967296)) (U64.wrap _)).put ha16 (x := bits .or .u64 (IntKind.u64.wrap (m.get a * 4294967296)) i) (bits_u64 _ _ _); simpa [Mc.put] using h)⟩
 · go_wp2_with fail
   exact ⟨rfl, _, results_none Tryz.results188 _ _ _, stYes hBW hV (m' := m.put a (m.get b)) (by simp [ex]) (hVW.low _ (hVW.low _ (Chg.refl _ _) (.inl trivial)) (.inl trivial)) (by simp) (hVW.put ha16 hUb)⟩
 · go_wp2_with fail
   exact ⟨rfl, _, results_none Tryz.results188 _ _ _, stYes hBW hV (m' := { m with pc := m.get a }) (by simp [ex]) (hVW.low _ (Chg.refl _ _) (.inl trivial)) (by simp) (hVW.setPc hUa)⟩
end Go.Proofs.YtagebcbnenehfaaGreat
