/- QVe, QVg, QVh, Ad, Md, Ug, Mf. -/
import Derived.Test.YtagebcbnenehfaaGreatX12
namespace Go.Proofs.YtagebcbnenehfaaGreat
open Go.RowKit
set_option maxRecDepth 100000
set_option linter.unusedVariables false
set_option linter.unusedSimpArgs false
set_option maxHeartbeats 40000000
def dV (x : Int) : Array Value := if dOk x = true then cdA (dOp x) (dA x) (dB x) (dC x) (dI x) else cdA 0 0 0 0 0
theorem dV_yes {x : Int} (h : dOk x = true) : dV x = cdA (dOp x) (dA x) (dB x) (dC x) (dI x) := if_pos h
theorem dV_no {x : Int} (h : dOk x = false) : dV x = cdA 0 0 0 0 0 := if_neg (by rw [h]; simp)
theorem dOk_no1 {x : Int} (h : x / 72057594037927936 < 1) : dOk x = false := by
 unfold dOk dOp; simp; omega
theorem dOk_no2 {x : Int} (h : 25 < x / 72057594037927936) : dOk x = false := by
 unfold dOk dOp; simp; omega
theorem dOk_gap {x : Int} (h : ¬ x / 72057594037927936 < 1) (h2 : ¬ 25 < x / 72057594037927936) : dOk x = decide (x / 4294967296 % 4096 = 0) := by
 unfold dOk dOp
 rw [Bool.eq_iff_iff]
 simp
 omega
theorem dRg {x : Int} (hx : U64 x) : (0 ≤ dOp x ∧ dOp x < 256) ∧ (0 ≤ dA x ∧ dA x < 16) ∧ (0 ≤ dB x ∧ dB x < 16) ∧ (0 ≤ dC x ∧ dC x < 16) ∧ (0 ≤ dI x ∧ dI x < 4294967296) := by
 have h1 := hx.1
 have h2 := hx.2
 unfold dOp dA dB dC dI
 omega
def DPost (x : Int) (w : World) (e : Ending) (w' : World) : Prop := e = .returned (.tuple #[.agg (dV x), .bool (dOk x)]) ∧ Below w.heap.size w w'
theorem DPost.mk' {x : Int} {w w' : World} {e : Ending} (b : Bool) (C : Array Value) (hb : dOk x = b) (hC : C = dV x) (he : e = .returned (.tuple #[.agg C, .bool b])) (hl : Below w.heap.size w w') : DPost x w e w' := by
 subst hb hC; exact ⟨he, hl⟩
theorem wrap8_of {x : Int} (h : 0 ≤ x) (h2 : x < 256) : IntKind.u8.wrap x = x := by
 simp only [IntKind.wrap, IntKind.bits, IntKind.signed]; simp; omega
theorem a8 (x : Int) : bits .and .u8 (IntKind.u8.wrap x) 15 = x % 16 := by
 have e : IntKind.u8.wrap x = x % 256 := by simp only [IntKind.wrap, IntKind.bits, IntKind.signed]; simp
 rw [e, and15_8 (by omega)]
 omega
theorem w32 (x : Int) : IntKind.u32.wrap x = x % 4294967296 := by simp only [IntKind.wrap, IntKind.bits, IntKind.signed]; simp
theorem size25 : (Tryz.prog.info? 88).map (·.size) = some 5 := by kernel_rfl
theorem cdA_size (o a b c i : Int) : (cdA o a b c i).size = 5 := rfl
theorem resC {f : Func} {w : World} {tmps : Array Value} {g t k : Nat} {o a b c i : Int} {v : Value} (hf : f.results = #[.cell t 88, .tmp k]) (hp : tmps.getD t undef = .pointer (some ⟨g, 0, none⟩)) (hk : tmps.getD k undef = v) (hA : Arr w g 88 (cdA o a b c i)) :
   (results f tmps).run Tryz.prog w = .ok (.tuple #[.agg (cdA o a b c i), v]) w := by
 have hl := run_loadVar_mid (P := Tryz.prog) w g 0 88 (cdA o a b c i).toList _ (fun j v hv => by rw [Nat.zero_add, hA.cell]; simpa using hv) Tryz.underlying88 rfl size25
 have hp' : tmps[t]?.getD undef = .pointer (some ⟨g, 0, none⟩) := by simpa using hp
 have hk' : tmps[k]?.getD undef = v := by simpa using hk
 simp [results, hf, hp', hk', asAddr, hl]
theorem one25 (o a b c i : Int) : (cdA o a b c i).all (·.oneCell') = true := all_oneCell_toArray (cs := [.int .u8 o, .int .u8 a, .int .u8 b, .int .u8 c, .int .u32 i]) (by simp [Value.oneCell'])
theorem ldA25 {ops : Array Oper} {rest : List Oper} {o : Oper} {a : Act} {w : World} {Q : Exit → Act → World → Prop} (hgd : o.guard = none) (x : Operand) (ho : o.op = .load 88 x)
   (g : Nat) (hx : a.eval x = .pointer (some ⟨g, 0, none⟩)) (C : Array Value) (hC : C.size = 5) (hA : Arr w g 88 C)
   (h : wpList Tryz.prog ops Q rest (a.put o.dst (.agg C)) w) : wpList Tryz.prog ops Q (o :: rest) a w :=
 wpList_load_row hgd 88 x ho g hx 88 C (0, 0) _ hA Tryz.underlying88 rfl (by rw [hC]; exact size25) h
theorem stN25 {ops : Array Oper} {rest : List Oper} {o : Oper} {a : Act} {w : World} {Q : Exit → Act → World → Prop} {p q r s t : Int} (hgd : o.guard = none) (x y : Operand) (ho : o.op = .store 88 x y)
   (g : Nat) (hx : a.eval x = .pointer (some ⟨g, 0, none⟩)) (hy : a.eval y = .agg (cdA p q r s t)) (D : Array Value) (hA : Arr w g 88 D) (hD : D.size = 5)
   (h : wpList Tryz.prog ops Q rest (a.put o.dst undef) (w.setRow g (cdA p q r s t))) : wpList Tryz.prog ops Q (o :: rest) a w :=
 wpList_store_arr hgd 88 x y ho g _ hx hy 88 D hA size25 hD (one25 p q r s t) h
theorem decode_any {x : Int} (w : World) (hx : U64 x) :
   Calls Tryz.prog 135 #[.int .u64 x] w (DPost x w) := by
 have hx1 := hx.1
 have hx2 := hx.2
 by_cases h1 : x / 72057594037927936 < 1
 · have hd := dOk_no1 h1
   have hv := dV_no hd
   replace hd := Hid.mk' hd
   replace hv := Hid.mk' hv
   go_enter Tryz.func135, Tryz.ntmps135
   go_wp2
   exact bodyPost_ret (resC Tryz.results135 rfl rfl (o := 0) (a := 0) (b := 0) (c := 0) (i := 0) (Arr.new _ _ _)) rfl (DPost.mk' false _ hd.out hv.out.symm rfl ((Below.refl _ _).alloc (Nat.le_refl _) _))
 by_cases h2 : 25 < x / 72057594037927936
 · have hd := dOk_no2 h2
   have hv := dV_no hd
   replace hd := Hid.mk' hd
   replace hv := Hid.mk' hv
   go_enter Tryz.func135, Tryz.ntmps135
   go_wp2
   exact bodyPost_ret (resC Tryz.results135 rfl rfl (o := 0) (a := 0) (b := 0) (c := 0) (i := 0) (Arr.new _ _ _)) rfl (DPost.mk' false _ hd.out hv.out.symm rfl ((Below.refl _ _).alloc (Nat.le_refl _) _))
 have hg := and_gap hx
 have hd := dOk_gap h1 h2
 by_cases h3 : x / 4294967296 % 4096 = 0
 · rw [h3] at hg
   simp only [Int.zero_mul] at hg
   replace hd : dOk x = true := by rw [hd, h3]; rfl
   have hv := dV_yes hd
   have hcd : cdA (x / 72057594037927936) (x / 4503599627370496 % 16) (x / 281474976710656 % 16) (x / 17592186044416 % 16) (x % 4294967296) = dV x := by rw [hv]; rfl
   replace hd := Hid.mk' hd
   replace hcd := Hid.mk' hcd
   clear hv
   go_enter Tryz.func135, Tryz.ntmps135
   go_wp2
   exact bodyPost_ret (resC Tryz.results135 rfl rfl (Arr.new _ _ _)) rfl (DPost.mk' true _ hd.out hcd.out rfl ((Below.refl _ _).alloc (Nat.le_refl _) _))
 · have hne : (bits .and .u64 x 17587891077120 != 0) = true := by rw [hg]; simp; omega
   replace hd : dOk x = false := by rw [hd]; simpa using h3
   have hv := dV_no hd
   replace hd := Hid.mk' hd
   replace hv := Hid.mk' hv
   clear hg
   go_enter Tryz.func135, Tryz.ntmps135
   go_wp2
   exact bodyPost_ret (resC Tryz.results135 rfl rfl (o := 0) (a := 0) (b := 0) (c := 0) (i := 0) (Arr.new _ _ _)) rfl (DPost.mk' false _ hd.out hv.out.symm rfl ((Below.refl _ _).alloc (Nat.le_refl _) _))
theorem refdecode_any {x : Int} (w : World) (hx : U64 x) :
   Calls Tryz.prog 37 #[.int .u64 x] w (DPost x w) := by
 have hx1 := hx.1
 have hx2 := hx.2
 have hR := dRg hx
 have e1 : bits .and .u64 (x / 4503599627370496) 15 = dA x := and15_64 (ediv_u hx (by omega))
 have e2 : bits .and .u64 (x / 281474976710656) 15 = dB x := and15_64 (ediv_u hx (by omega))
 have e3 : bits .and .u64 (x / 17592186044416) 15 = dC x := and15_64 (ediv_u hx (by omega))
 have e5 := w32 x
 have f1 := wrap8_of (x := dA x) (by omega) (by omega)
 have f2 := wrap8_of (x := dB x) (by omega) (by omega)
 have f3 := wrap8_of (x := dC x) (by omega) (by omega)
 have hcall : ∀ W, Calls Tryz.prog 86 #[.agg #[.int .u8 (x / 72057594037927936), .int .u8 (dA x), .int .u8 (dB x), .int .u8 (dC x), .int .u32 (x % 4294967296)]] W fun e w' => e = .returned (.int .u64 (wdI (x / 72057594037927936) (dA x) (dB x) (dC x) (x % 4294967296))) ∧ Below W.heap.size W w' := fun W => refWord_any W (by have := hR.1; unfold dOp at this; exact this) (by omega) (by omega) (by omega) (by omega)
 have hww := Hid.mk' (word_dec hx)
 clear hR
 by_cases h1 : x / 72057594037927936 < 1
 · have hd := dOk_no1 h1
   have hv := dV_no hd
   replace hd := Hid.mk' hd
   replace hv := Hid.mk' hv
   go_enter Tryz.func37, Tryz.ntmps37
   go_wp2_with (refine stN25 (by rfl) (.tmp 2) (.tmp 37) (by rfl) w.heap.size (by rfl) (by rfl) _ ((Arr.new w 88 _).alloc _) rfl ?_)
   exact bodyPost_ret (resC Tryz.results37 rfl rfl (o := 0) (a := 0) (b := 0) (c := 0) (i := 0) (((Arr.new w 88 _).alloc _).setRow _)) rfl (DPost.mk' false _ hd.out hv.out.symm rfl (below_setRow (((Below.refl _ _).alloc (Nat.le_refl _) _).alloc (by simp) _) (Nat.le_refl _) _))
 by_cases h2 : 25 < x / 72057594037927936
 · have hd := dOk_no2 h2
   have hv := dV_no hd
   replace hd := Hid.mk' hd
   replace hv := Hid.mk' hv
   go_enter Tryz.func37, Tryz.ntmps37
   go_wp2_with (refine stN25 (by rfl) (.tmp 2) (.tmp 37) (by rfl) w.heap.size (by rfl) (by rfl) _ ((Arr.new w 88 _).alloc _) rfl ?_)
   exact bodyPost_ret (resC Tryz.results37 rfl rfl (o := 0) (a := 0) (b := 0) (c := 0) (i := 0) (((Arr.new w 88 _).alloc _).setRow _)) rfl (DPost.mk' false _ hd.out hv.out.symm rfl (below_setRow (((Below.refl _ _).alloc (Nat.le_refl _) _).alloc (by simp) _) (Nat.le_refl _) _))
 have hd := dOk_gap h1 h2
 by_cases h3 : x / 4294967296 % 4096 = 0
 · replace hd : dOk x = true := by rw [hd, h3]; rfl
   have hv := dV_yes hd
   have hcd : cdA (x / 72057594037927936) (dA x) (dB x) (dC x) (x % 4294967296) = dV x := by rw [hv]; rfl
   clear hv
   replace hd := Hid.mk' hd
   replace hcd := Hid.mk' hcd
   have hq : wdI (x / 72057594037927936) (dA x) (dB x) (dC x) (x % 4294967296) = x := hww.out.2 h3
   replace hq := Hid.mk' hq
   go_enter Tryz.func37, Tryz.ntmps37
   go_wp2_with (first
     | (go_at_call 86; go_must (refine (hcall _).mono ?_; rintro e w1 ⟨rfl, hb1⟩; rw [hq.out]; have A0 := ((Arr.new w 88 #[.int .u8 0, .int .u8 0, .int .u8 0, .int .u8 0, .int .u32 0]).alloc (.cells (cdA (x / 72057594037927936) (dA x) (dB x) (dC x) (x % 4294967296)) 88)).below hb1 (by simp; omega); have A1 := (Arr.new (w.alloc (.cells #[.int .u8 0, .int .u8 0, .int .u8 0, .int .u8 0, .int .u32 0] 88)) 88 (cdA (x / 72057594037927936) (dA x) (dB x) (dC x) (x % 4294967296))).below hb1 (by simp); simp only [World.size_alloc] at A1; have B1 := (((Below.refl w.heap.size w).alloc (Nat.le_refl _) (.cells #[.int .u8 0, .int .u8 0, .int .u8 0, .int .u8 0, .int .u32 0] 88)).alloc (by simp) (.cells (cdA (x / 72057594037927936) (dA x) (dB x) (dC x) (x % 4294967296)) 88)).trans (hb1.mono (by simp; omega)); generalize hcc : cdA (x / 72057594037927936) (dA x) (dB x) (dC x) (x % 4294967296) = CC at A0 A1 B1))
     | (refine ldA25 (by rfl) (.tmp 4) (by rfl) (w.heap.size + 1) (by rfl) CC (by rw [← hcc]; rfl) A1 ?_; go_simp)
     | (refine stN25 (by rfl) (.tmp 2) (.tmp 38) (by rfl) w.heap.size (by rfl) (by rw [← hcc]; rfl) _ A0 rfl ?_))
   subst hcc
   exact bodyPost_ret (resC Tryz.results37 rfl rfl (A0.setRow _)) rfl (DPost.mk' true _ hd.out hcd.out rfl (below_setRow B1 (Nat.le_refl _) _))
 · replace hd : dOk x = false := by rw [hd]; simpa using h3
   have hv := dV_no hd
   replace hd := Hid.mk' hd
   replace hv := Hid.mk' hv
   have hq : (wdI (x / 72057594037927936) (dA x) (dB x) (dC x) (x % 4294967296) != x) = true := by simp only [bne_iff_ne]; exact fun e => h3 (hww.out.1 e)
   go_enter Tryz.func37, Tryz.ntmps37
   go_wp2_with (first
     | (go_at_call 86; go_must (refine (hcall _).mono ?_; rintro e w1 ⟨rfl, hb1⟩; have A0 := ((Arr.new w 88 #[.int .u8 0, .int .u8 0, .int .u8 0, .int .u8 0, .int .u32 0]).alloc (.cells (cdA (x / 72057594037927936) (dA x) (dB x) (dC x) (x % 4294967296)) 88)).below hb1 (by simp; omega); have B1 := (((Below.refl w.heap.size w).alloc (Nat.le_refl _) (.cells #[.int .u8 0, .int .u8 0, .int .u8 0, .int .u8 0, .int .u32 0] 88)).alloc (by simp) (.cells (cdA (x / 72057594037927936) (dA x) (dB x) (dC x) (x % 4294967296)) 88)).trans (hb1.mono (by simp; omega))))
     | (refine stN25 (by rfl) (.tmp 2) (.tmp 37) (by rfl) w.heap.size (by rfl) (by rfl) _ A0 rfl ?_))
   exact bodyPost_ret (resC Tryz.results37 rfl rfl (o := 0) (a := 0) (b := 0) (c := 0) (i := 0) (A0.setRow _)) rfl (DPost.mk' false _ hd.out hv.out.symm rfl (below_setRow B1 (Nat.le_refl _) _))
structure Fst (es : List En) (X : List Int) (i : Nat) (e : En) : Prop where
 here : es[i]? = some e
 sm : e.sm = X
 first : ∀ (j : Nat) (f : En), j < i → es[j]? = some f → f.sm ≠ X
def pre (es : List En) (X : List Int) : Option En := match es.find? (fun e => decide (e.sm = X)) with
 | some e => if shl e.bs = X then some e else none
 | none => none
theorem Fst.find {es : List En} {X : List Int} {i : Nat} {e : En} (h : Fst es X i e) : es.find? (fun e => decide (e.sm = X)) = some e := by
 rw [List.find?_eq_some_iff_getElem]
 obtain ⟨hi, he⟩ := List.getElem?_eq_some_iff.1 h.here
 refine ⟨by simpa using h.sm, i, hi, he, fun j hj => ?_⟩
 have := h.first j _ hj (List.getElem?_eq_getElem (by omega))
 simpa using this
theorem Fst.pre {es : List En} {X : List Int} {i : Nat} {e : En} (h : Fst es X i e) : pre es X = if shl e.bs = X then some e else none := by
 unfold YtagebcbnenehfaaGreat.pre; rw [h.find]
theorem pre_none {es : List En} {X : List Int} (h : ∀ (j : Nat) (f : En), es[j]? = some f → f.sm ≠ X) : pre es X = none := by
 have : es.find? (fun e => decide (e.sm = X)) = none := by
   rw [List.find?_eq_none]
   intro f hf
   obtain ⟨j, hj⟩ := List.getElem?_of_mem hf
   simpa using h j f hj
 unfold pre; rw [this]
def PlPost (es : List En) (X : List Int) (w : World) (r : Ending) (w' : World) : Prop := Below w.heap.size w w' ∧
 ((∃ i e, Fst es X i e ∧ r = .returned (.tuple #[.int .i64 (i : Nat), .bool (decide (shl e.bs = X))])) ∨ ((∀ (j : Nat) (f : En), es[j]? = some f → f.sm ≠ X) ∧ r = .returned (.tuple #[.int .i64 0, .bool false])))
theorem eq_sum (L X : List Int) (hX : X.length = 32) (w : World) : (binOp .eql 30 (.agg (sha L)) (.agg (h8 X))).run Tryz.prog w = .ok (.bool (decide (shl L = X))) w := by
 rw [sha_h8]; exact run_eq24 (shl_len L) hX w
theorem place_any (sp : Option Addr) (n cap : Nat) (es : List En) (X : List Int) (N : Nat) (w : World) (hS : ES N w sp n cap es) (hX : X.length = 32) :
   Calls Tryz.prog 208 #[.slice sp n cap, .agg (h8 X)] w (PlPost es X w) := by
 have hl := hS.len
 have hsm := hS.small
 have hS := hS.here
 go_enter Tryz.func208, Tryz.ntmps208
 go_wp2_with fail
 go_loopw [10] (fun q wr => ∃ (k : Nat), q = .int .i64 (k : Int) ∧ k ≤ n ∧ Below w.heap.size w wr ∧ Arr wr w.heap.size 30 (h8 X) ∧ Hid (∀ (j : Nat) (f : En), j < k → es[j]? = some f → f.sm ≠ X))
   (fun q _ => n - (intOf q).toNat)
 case atStart => exact ⟨0, rfl, by omega, (Below.refl _ _).alloc (Nat.le_refl _) _, Arr.new w 30 _, Hid.mk' (fun j f hj => by omega)⟩
 case round =>
   obtain ⟨k, rfl, hk, hbl, hH, hno⟩ := hrel
   by_cases hlt : k < n
   · have hI : (k : Int) < n := by omega
     have hSr := hS.below hbl
     obtain ⟨g, off, rfl, hgN, hR⟩ := hSr.at0 (by omega)
     obtain ⟨e, he⟩ : ∃ e, es[k]? = some e := ⟨es[k]'(by rw [← hl.out]; exact hlt), List.getElem?_eq_getElem _⟩
     have hok := hSr.ok e (List.mem_of_getElem? he)
     have he32 := hok.s32
     have hRe := hR k e he
     have AE := Arr.new wr 61 e.arr
     have rE := range_sm (rangeE AE)
     have cE := range_c0 (rangeE AE)
     have hbE := alloc_bel' wr (.cells e.arr 61)
     have hbW := hbl.alloc hbl.size (.cells e.arr 61)
     have hH1 := (hH.alloc (.cells e.arr 61)).range
     have q1 := run_eq24 he32 hX
     have hHlt := hH.lt
     replace he := Hid.mk' he
     by_cases hq : e.sm = X
     · have hd : decide (e.sm = X) = true := by simpa using hq
       rw [hd] at q1
       have hfst := Hid.mk' (Fst.mk he.out hq hno.out)
       have hq2 := eq_sum e.bs X hX
       have hbs := hok.body.below (hbE.mono hbl.size)
       replace hq := Hid.mk' hq
       clear hd
       go_upto_region 5 with (first
         | (refine ld54 (by rfl) _ (by rfl) g (off + k * 33) (by rfl) e he32 hRe ?_)
         | (refine st54n (by rfl) _ _ (by rfl) wr wr.heap.size rfl (by rfl) e (by rfl) (by rfl) he32 ?_)
         | (refine ld24 (by rfl) _ (by rfl) wr.heap.size (0 + 1) (by rfl) e.sm he32 rE ?_)
         | (refine ld24 (by rfl) _ (by rfl) w.heap.size 0 (by rfl) X hX hH1 ?_))
       refine rgn (fun u => Below (wr.alloc (.cells e.arr 61)).heap.size (wr.alloc (.cells e.arr 61)) u) ((Below.refl _ _).drew) (fun hHeld => ?_)
       refine tk 0 rfl ?_
       refine tk 1 rfl ?_
       refine tk 2 rfl (hy := by (intro u hSw; have cu := (hSw.cell (p := ⟨wr.heap.size, 0, none⟩) (by simp)).trans cE; go_simp; try (with_reducible rfl))) ?_
       refine tl 4 rfl (y24 (by rfl) (.tmp 3) rfl (w.heap.size) (0) rfl X hX (fun u hu => range_below hH1 hu (by simp; omega))) ?_
       refine rd 3 rfl (fun K hK => ?_)
       go_simp
       refine (sum_sl e.sp e.n e.cap e.bs (wr.alloc (.cells e.arr 61)).drew hbs.len.out hbs.nil hbs.sl hbs.le (by have := hbs.small; omega)).mono ?_
       rintro r u ⟨rfl, hu⟩
       have hHu := ((Below.refl (wr.alloc (.cells e.arr 61)).heap.size (wr.alloc (.cells e.arr 61))).drew).trans (hu.mono (by simp))
       go_wp2_with fail
       refine ko hK hHu (fun hHeld => ?_)
       clear hK K
       refine tk 5 rfl ?_
       refine tk 6 rfl ?_
       refine tk 7 rfl ?_
       refine dn ?_
       go_wp2_with fail
       go_ret2
       exact ⟨hbW.trans (hHeld.mono (by have := hbl.size; simp; omega)), .inl ⟨k, e, hfst.out, rfl⟩⟩
     · have hd : decide (e.sm = X) = false := by simpa using hq
       rw [hd] at q1
       have hn2 : Hid (∀ (j : Nat) (f : En), j < k + 1 → es[j]? = some f → f.sm ≠ X) := Hid.mk' (fun j f hj hf => by
         by_cases hjk : j = k
         · subst hjk; rw [he.out] at hf; cases hf; exact hq
         · exact hno.out j f (by omega) hf)
       replace hq := Hid.mk' hq
       clear hd
       go_wp2_with (first
         | (refine ld54 (by rfl) _ (by rfl) g (off + k * 33) (by rfl) e he32 hRe ?_)
         | (refine st54n (by rfl) _ _ (by rfl) wr wr.heap.size rfl (by rfl) e (by rfl) (by rfl) he32 ?_)
         | (refine ld24 (by rfl) _ (by rfl) wr.heap.size (0 + 1) (by rfl) e.sm he32 rE ?_)
         | (refine ld24 (by rfl) _ (by rfl) w.heap.size 0 (by rfl) X hX hH1 ?_))
       go_roundw
       case rel => exact ⟨k + 1, by go_num, by omega, hbW, hH.alloc _, hn2⟩
       case measure => simp [intOf]; omega
   · have hI : ¬ (k : Int) < n := by omega
     obtain rfl : k = n := by omega
     have hn2 : Hid (∀ (j : Nat) (f : En), es[j]? = some f → f.sm ≠ X) := Hid.mk' (fun j f hf => hno.out j f (by rw [hl.out]; exact (List.getElem?_eq_some_iff.1 hf).1) hf)
     go_wp2_with fail
     go_ret2
     exact ⟨hbl, .inr ⟨hn2.out, rfl⟩⟩
theorem word_ok {g gm n cap k : Nat} {x : Int} (w : World) (hc : w.cell? ⟨g, 18, none⟩ = some (.slice (some ⟨gm, 0, none⟩) n cap)) (hn : n ≤ 4096) (hk : x = (k : Int)) (hlt : k < n) :
   Calls Tryz.prog 197 #[.pointer (some ⟨g, 0, none⟩), .int .u64 x] w fun e w' => e = .returned (.pointer (some ⟨gm, k, none⟩)) ∧ w' = w := by
 subst hk
 have h1 : ¬ (n : Int) ≤ k := by omega
 have h2 : (k : Int) < n := by omega
 go_enter Tryz.func197, Tryz.ntmps197
 go_wp2
 go_ret
 exact ⟨rfl, rfl⟩
theorem word_no {g gm n cap : Nat} {x : Int} (w : World) (hc : w.cell? ⟨g, 18, none⟩ = some (.slice (some ⟨gm, 0, none⟩) n cap)) (hn : n ≤ 4096) (hlt : (n : Int) ≤ x) :
   Calls Tryz.prog 197 #[.pointer (some ⟨g, 0, none⟩), .int .u64 x] w fun e w' => e = .panicked trapV ∧ w' = w := by
 go_enter Tryz.func197, Tryz.ntmps197
 go_wp2
 exact ⟨rfl, rfl, rfl⟩
theorem words_0 {g : Nat} {x y : Int} (w : World) (hy : y = 0) :
   Calls Tryz.prog 205 #[.pointer (some ⟨g, 0, none⟩), .int .u64 x, .int .u64 y] w fun e w' => e = .returned (.slice none 0 0) ∧ w' = w := by
 subst hy
 go_enter Tryz.func205, Tryz.ntmps205
 go_wp2
 go_ret
 exact ⟨rfl, rfl⟩
theorem words_ok {g gm n cap k c : Nat} {x y : Int} (w : World) (hc : w.cell? ⟨g, 18, none⟩ = some (.slice (some ⟨gm, 0, none⟩) n cap)) (hn : n ≤ 4096) (hcap : n ≤ cap) (hx : x = (k : Int)) (hy : y = (c : Int)) (h0 : 0 < c) (hlt : k + c ≤ n) :
   Calls Tryz.prog 205 #[.pointer (some ⟨g, 0, none⟩), .int .u64 x, .int .u64 y] w fun e w' => e = .returned (.slice (some ⟨gm, k, none⟩) c (cap - k)) ∧ w' = w := by
 subst hx hy
 have a1 : ((c : Int) == 0) = false := by simp; omega
 have a2 : ¬ (n : Int) < c := by omega
 have a3 : IntKind.u64.wrap ((n : Int) - c) = (n : Int) - c := wrap64_of (by omega) (by omega)
 have a4 : ¬ (n : Int) - c < k := by omega
 have a5 : IntKind.u64.wrap ((k : Int) + c) = ((k + c : Nat) : Int) := by rw [wrap64_of (by omega) (by omega)]; omega
 have a6 : ¬ cap = k := by omega
 have a7 : ((k + c : Nat) : Int) ≤ cap := by omega
 have a8 : (k : Int) ≤ ((k + c : Nat) : Int) := by omega
 have a9 : k + c - k = c := by omega
 go_enter Tryz.func205, Tryz.ntmps205
 go_wp2
 go_ret
 exact ⟨rfl, rfl⟩
theorem words_no {g gm n cap : Nat} {x y : Int} (w : World) (hc : w.cell? ⟨g, 18, none⟩ = some (.slice (some ⟨gm, 0, none⟩) n cap)) (hn : n ≤ 4096) (hx : U64 x) (hy : U64 y) (h0 : y ≠ 0) (hlt : ¬ x + y ≤ n) :
   Calls Tryz.prog 205 #[.pointer (some ⟨g, 0, none⟩), .int .u64 x, .int .u64 y] w fun e w' => e = .panicked trapV ∧ w' = w := by
 have h1 := hx.1
 have h2 := hx.2
 have h3 := hy.1
 have h4 := hy.2
 have a1 : (y == 0) = false := by simpa using h0
 by_cases h : (n : Int) < y
 · go_enter Tryz.func205, Tryz.ntmps205
   go_wp2
   exact ⟨rfl, rfl, rfl⟩
 · have a3 : IntKind.u64.wrap ((n : Int) - y) = (n : Int) - y := wrap64_of (by omega) (by omega)
   have a4 : (n : Int) - y < x := by omega
   go_enter Tryz.func205, Tryz.ntmps205
   go_wp2
   exact ⟨rfl, rfl, rfl⟩
theorem z32 : Z32.length = 32 := by decide
def fmL (W : Nat → Int) : List Int := (List.range 32).map (fromB W)
theorem fmL_len (W : Nat → Int) : (fmL W).length = 32 := by simp [fmL]
theorem fmL_h8 (W : Nat → Int) : u8s 32 (fromB W) = h8 (fmL W) := by
 apply Array.ext_getElem?
 intro t
 by_cases h : t < 32
 · rw [u8s_get h, h8_get (by rw [fmL_len]; exact h)]
   simp [bat, fmL, List.getD_eq_getElem?_getD, h]
 · rw [Array.getElem?_eq_none (by rw [u8s_size]; omega), Array.getElem?_eq_none (by rw [h8_size, fmL_len]; omega)]
theorem arrayAt4 (a : Addr) (c : Nat) (w : World) : (Instr.arrayAt 96 (.slice (some a) 4 c)).run Tryz.prog w = .ok (.pointer (some a)) w := by
 simp [Instr.arrayAt, Sem.run_bind, run_underlying Tryz.underlying96]
def four (W : Nat → Int) : List Value := [.int .u64 (W 0), .int .u64 (W 1), .int .u64 (W 2), .int .u64 (W 3)]
theorem four_get (W : Nat → Int) : ∀ t, t < 4 → (four W).toArray[t]? = some (.int .u64 (W t)) := fun t ht => by
 match t, ht with
 | 0, _ => rfl
 | 1, _ => rfl
 | 2, _ => rfl
 | 3, _ => rfl
theorem four_range {w : World} {b o : Nat} {W : Nat → Int} (h : ∀ t, t < 4 → w.cell? ⟨b, o + t, none⟩ = some (.int .u64 (W t))) : w.rangeAt b o (four W) := fun j v hv => by
 have hj : j < 4 := (List.getElem?_eq_some_iff.1 hv).1
 rw [h j hj]
 have := four_get W j hj
 simp only [List.getElem?_toArray] at this
 rw [hv] at this
 exact this.symm
theorem ld4 {ops : Array Oper} {rest : List Oper} {o : Oper} {a : Act} {w : World} {Q : Exit → Act → World → Prop} (hgd : o.guard = none) (x : Operand) (ho : o.op = .load 96 x)
   (b off : Nat) (hx : a.eval x = .pointer (some ⟨b, off, none⟩)) (W : Nat → Int) (hc : w.rangeAt b off (four W))
   (h : wpList Tryz.prog ops Q rest (a.put o.dst (.agg (four W).toArray)) w) : wpList Tryz.prog ops Q (o :: rest) a w :=
 wpList_load_mid hgd 96 x ho b off hx (four W) _ hc Tryz.underlying96 rfl size30 h
theorem sumAt_ok {g gm n cap k : Nat} {ty : TypeId} {X : List Value} {m : Mc} {x : Int} (w : World) (hE : EN w g ty X gm n cap m) (hx : x = (k : Int)) (hlt : k + 4 ≤ n) :
   Calls Tryz.prog 201 #[.pointer (some ⟨g, 0, none⟩), .int .u64 x] w fun e w' => e = .returned (.agg (h8 (fmL (fun t => m.me.getD (k + t) 0)))) ∧ Below w.heap.size w w' := by
 subst hx
 obtain ⟨W, hW⟩ : ∃ W : Nat → Int, W = fun t => m.me.getD (k + t) 0 := ⟨_, rfl⟩
 rw [← hW]
 have hE1 := fun o => hE.bel (alloc_bel' w o)
 have c18 := fun o => (hE1 o).c18
 have hf := fmL_h8 W
 have hl := fmL_len W
 have hg4 := four_get W
 have hn := hE.small
 have hcap := hE.cap.1
 have ha := arrayAt4 ⟨gm, k, none⟩ (cap - k)
 have hr : ∀ o, (w.alloc o).rangeAt gm k (four W) := fun o => four_range (fun t ht => by rw [(hE1 o).cm (by omega), hW])
 clear hE hE1 hW
 generalize fmL W = F at *
 replace hf := Hid.mk' hf
 replace hg4 := Hid.mk' hg4
 replace hl := Hid.mk' hl
 go_enter Tryz.func201, Tryz.ntmps201
 go_wp2_with (first
   | (go_at_call 205; go_must (refine (words_ok _ (c18 _) hn hcap rfl rfl (by omega) hlt).mono ?_; rintro e w1 ⟨rfl, h⟩; subst h))
   | (refine ld4 (by rfl) (.tmp 8) (by rfl) gm k (by rfl) W (hr _) ?_)
   | (go_at_call 172; go_must (refine (from_any _ W _ hg4.out).mono ?_; rintro e w2 ⟨rfl, hb2⟩; rw [hf.out]; have A2 := (Arr.new w 30 (h8 Z32)).below hb2 (by simp); have B2 := (alloc_bel' w (.cells (h8 Z32) 30)).trans (hb2.mono (by simp))))
   | (refine st24 (by rfl) (.tmp 4) (.tmp 10) (by rfl) w.heap.size F Z32 (by rfl) (by rfl) hl.out z32 A2 ?_))
 exact bodyPost_ret (v := .agg (h8 F)) (res24 Tryz.results201 rfl hl.out (A2.setRow _)) rfl ⟨rfl, below_setRow B2 (Nat.le_refl _) _⟩
theorem sumAt_no {g gm n cap : Nat} {ty : TypeId} {X : List Value} {m : Mc} {x : Int} (w : World) (hE : EN w g ty X gm n cap m) (hx : U64 x) (hlt : ¬ x + 4 ≤ n) :
   Calls Tryz.prog 201 #[.pointer (some ⟨g, 0, none⟩), .int .u64 x] w fun e w' => e = .panicked trapV ∧ Below w.heap.size w w' := by
 have hE1 := fun o => hE.bel (alloc_bel' w o)
 have c18 := fun o => (hE1 o).c18
 have hn := hE.small
 clear hE hE1
 go_enter Tryz.func201, Tryz.ntmps201
 go_wp2_with (go_at_call 205; go_must (refine (words_no _ (c18 _) hn hx (by unfold U64; omega) (by omega) hlt).mono ?_; rintro e w1 ⟨rfl, h⟩; subst h))
 exact ⟨rfl, rfl, alloc_bel' _ _⟩
theorem top_any (g m cl gl : Nat) (t : Nat) (w : World) (c2 : w.cell? ⟨g, 2, none⟩ = some (.slice (some ⟨gl, 0, none⟩) m cl)) (hm : m ≤ 10000) (ht : Hid (m = t + 1)) :
   Calls Tryz.prog 76 #[.pointer (some ⟨g, 0, none⟩)] w fun e w' => e = .returned (.int .i64 (t : Int)) ∧ w' = w := by
 have h1 : (m : Int) - 1 = t := by have := ht.out; omega
 go_enter Tryz.func76, Tryz.ntmps76
 go_wp2
 go_ret
 exact ⟨by first | rfl | (simp only [h1]; rfl), rfl⟩
theorem above_any (g n ct gt a b : Nat) (w : World) (c1 : w.cell? ⟨g, 1, none⟩ = some (.slice (some ⟨gt, 0, none⟩) n ct)) (hn : n ≤ 10000) (ha : a ≤ 10000) (hb : Hid (b = n + a / 2)) :
   Calls Tryz.prog 237 #[.pointer (some ⟨g, 0, none⟩), .int .i64 (a : Int)] w fun e w' => e = .returned (.int .i64 (b : Int)) ∧ w' = w := by
 have h1 : (n : Int) + (a : Int) / 2 = b := by have := hb.out; omega
 have h2 : wrap64 ((n : Int) + (a : Int) / 2) = b := by rw [h1]; unfold wrap64; have := hb.out; omega
 go_enter Tryz.func237, Tryz.ntmps237
 go_wp2
 go_ret
 exact ⟨by first | rfl | (simp only [h1]; rfl) | (simp only [h2]; rfl), rfl⟩
theorem pair_anyM (g m cl gl a q : Nat) (T : List (List Int)) (w : World) (c2 : w.cell? ⟨g, 2, none⟩ = some (.slice (some ⟨gl, 0, none⟩) m cl)) (hs : HB w gl T) (hT : Hid (T.length = m)) (hm : m ≤ 10000) (hcl : m ≤ cl) (hq : Hid (q = a / 2)) (hqm : 2 * q + 1 < m) (ha : a ≤ 10000) :
   Calls Tryz.prog 132 #[.pointer (some ⟨g, 0, none⟩), .int .i64 (a : Int)] w fun e w' => e = .returned (.agg (h8 (pr (tat T (2 * q)) (tat T (2 * q + 1))))) ∧ Below w.heap.size w w' := by
 obtain ⟨f, hf⟩ : ∃ f : Nat, f = 2 * q := ⟨_, rfl⟩
 have hbits : bits .andNot .i64 (a : Int) 1 = (f : Int) := by rw [i64_andNot1 a (by omega), hf, hq.out]
 rw [← hf] at hqm ⊢
 have hx := hs.at (i := f) (by rw [hT.out]; omega)
 have hy := hs.at (i := f + 1) (by rw [hT.out]; omega)
 have hx32 := tat_l32 hs.l32 (i := f) (by rw [hT.out]; omega)
 have hy32 := tat_l32 hs.l32 (i := f + 1) (by rw [hT.out]; omega)
 have hP := pr_len (tat T f) (tat T (f + 1))
 have hpair := fun w => pair_h (tat T f) (tat T (f + 1)) w hx32 hy32
 clear hf
 generalize pr (tat T f) (tat T (f + 1)) = R at *
 generalize tat T f = X at *
 generalize tat T (f + 1) = Y at *
 have A0 := Arr.new w 30 (h8 Z32)
 have hb0 := alloc_bel' w (.cells (h8 Z32) 30)
 have hgl := hs.lt
 have d2 : (w.alloc (.cells (h8 Z32) 30)).cell? ⟨g, 2, none⟩ = some (.slice (some ⟨gl, 0, none⟩) m cl) := (hb0.cell (p := ⟨g, 2, none⟩) (block_lt_of_cell c2)).trans c2
 have rx := range_below hx hb0 hgl
 have ry := range_below hy hb0 hgl
 have hfc : f < m := by omega
 have hfI : (f : Int) < m := by omega
 have hf1I : (f : Int) + 1 < m := by omega
 have hf10 : 0 ≤ (f : Int) + 1 := by omega
 have hw1 : IntKind.i64.wrap ((f : Int) + 1) = (f : Int) + 1 := by rw [IntKind.wrap_i64]; omega
 have hfn : ((f : Int) + 1).toNat = f + 1 := by omega
 rw [h8_Z] at A0 hb0 d2 rx ry
 go_enter Tryz.func132, Tryz.ntmps132
 go_upto_region 2 with fail
 try simp only [hbits]
 generalize hV : w.alloc (.cells _ 30) = V at *
 have hVs : w.heap.size < V.heap.size := by rw [← hV]; simp
 clear hV
 refine rgn (fun u => Below w.heap.size V u ∧ u.cell? ⟨g, 2, none⟩ = some (.slice (some ⟨gl, 0, none⟩) m cl) ∧ u.rangeAt gl (f * 32) (by8 X) ∧ u.rangeAt gl ((f + 1) * 32) (by8 Y)) ⟨(Below.refl _ _).drew, d2, (World.rangeAt_drew _ _ _ _).2 rx, (World.rangeAt_drew _ _ _ _).2 ry⟩ (fun hHeld => ?_)
 refine tk 0 rfl ?_
 refine tk 1 rfl ?_
 refine tk 2 rfl ?_
 refine tk 3 rfl (hy := by (intro u hSw; obtain ⟨-, hc, -, -⟩ := hSw; go_simp; try (with_reducible rfl))) ?_
 refine tk 4 rfl ?_
 refine tk 5 rfl ?_
 refine tl 6 rfl (y24 (by rfl) (.tmp 13) rfl (gl) (f * 32) rfl X hx32 (fun u hu => hu.2.2.1)) ?_
 refine tk 7 rfl ?_
 refine tk 8 rfl ?_
 refine tk 9 rfl ?_
 refine tk 10 rfl (hy := by (intro u hSw; obtain ⟨-, hc, -, -⟩ := hSw; go_simp; try (with_reducible rfl))) ?_
 refine tk 11 rfl ?_
 refine tk 12 rfl ?_
 refine tk 13 rfl ?_
 refine tl 14 rfl (y24 (by rfl) (.tmp 21) rfl (gl) ((f + 1) * 32) rfl Y hy32 (fun u hu => hu.2.2.2)) ?_
 refine rd 15 rfl (fun K hK => ?_)
 go_simp
 refine (hpair _).mono ?_; rintro e u1 ⟨rfl, hb1⟩; have hB1 : Below w.heap.size V u1 := ((Below.refl w.heap.size V).drew).trans (hb1.mono (by have := hVs; simp; omega)); have A1 := A0.drew.below hb1 (by simpa using hVs)
 go_wp2_with fail
 refine ko hK ⟨hB1, (hB1.cell (p := ⟨g, 2, none⟩) (block_lt_of_cell c2)).trans d2, range_below rx hB1 hgl, range_below ry hB1 hgl⟩ (fun hHeld => ?_)
 clear hK K
 refine rd 16 rfl (fun K hK => ?_)
 refine step_want rfl (wp_store_row 30 (.tmp 4) (.tmp 23) rfl w.heap.size (h8 R) rfl rfl 30 _ A1 (s24h8 hP) (by rw [h8_size, hP]; rfl) (h8_one R) ?_)
 have hB2 := below_setRow hB1 (Nat.le_refl _) (h8 R)
 refine ko hK ⟨hB2, (hB2.cell (p := ⟨g, 2, none⟩) (block_lt_of_cell c2)).trans d2, range_below rx hB2 hgl, range_below ry hB2 hgl⟩ (fun hHeld => ?_)
 clear hK K
 refine dn ?_
 go_wp2_with fail
 exact bodyPost_ret (v := .agg (h8 R)) (res24 Tryz.results132 rfl hP (A1.setRow _)) rfl ⟨rfl, hb0.trans (below_setRow hB1 (Nat.le_refl _) _)⟩
theorem fo_step {m j : Nat} {r Y : List Int} {ls : List (List Int)} (h : ls[j]? = some Y) : fo (m / 2 ^ j) r (ls.drop j) = fo (m / 2 ^ (j + 1)) (if (m / 2 ^ j) % 2 = 0 then pr r Y else pr Y r) (ls.drop (j + 1)) := by
 have hj := (List.getElem?_eq_some_iff.1 h).1
 have e := (List.getElem?_eq_some_iff.1 h).2
 rw [List.drop_eq_getElem_cons hj, e, fo, div_succ]
set_option maxRecDepth 100000 in
theorem fold_ok (m : Nat) (X : List Int) (N : Nat) (sp : Option Addr) (n cap : Nat) (ls : List (List Int)) (w : World) (hX : X.length = 32) (hS : HS N w sp n cap ls) (h1 : n ≤ 16) (h2 : m < 2 ^ n) :
   Calls Tryz.prog 246 #[.int .i64 m, .agg (h8 X), .slice sp n cap] w fun e w' => e = .returned (.tuple #[.agg (h8 (fo m X ls)), .int .i64 0]) ∧ Below w.heap.size w w' := by
 have A0 := (Arr.new w 30 (h8 X)).alloc (.cells (h8 Z32) 30)
 have A1 := Arr.new (w.alloc (.cells (h8 X) 30)) 30 (h8 Z32)
 rw [World.size_alloc] at A1
 have hmd : ∀ w, Calls Tryz.prog 248 #[.int .i64 n] w fun e w' => e = .returned (.bool true) ∧ w' = w := fun w => by have h := mayDepth_any n w; rwa [decide_eq_true (by omega)] at h
 have hmp : ∀ w, Calls Tryz.prog 249 #[.int .i64 n, .int .i64 m] w fun e w' => e = .returned (.bool true) ∧ w' = w := fun w => by have h := mayPlace_any n h1 m w; rwa [decide_eq_true (by omega)] at h
 have hm : m ≤ 9223372036854775807 := by have := pow16 h1; omega
 have hl := hS.len
 have hsm := hS.small
 have hS := hS.here
 replace h2 := Hid.mk' h2
 have hb2 : Below w.heap.size w (((w.alloc (.cells (h8 X) 30)).alloc (.cells (h8 Z32) 30)).alloc (.cells (h8 X) 30)) := ((alloc_bel' w _).alloc (by simp) _).alloc (by simp; omega) _
 have A2 := Arr.new ((w.alloc (.cells (h8 X) 30)).alloc (.cells (h8 Z32) 30)) 30 (h8 X)
 rw [World.size_alloc, World.size_alloc] at A2
 go_enter Tryz.func246, Tryz.ntmps246
 go_wp2_with (first
   | (go_at_call 248; go_must (refine (hmd _).mono ?_; rintro e w2 ⟨rfl, rfl⟩))
   | (go_at_call 249; go_must (refine (hmp _).mono ?_; rintro e w2 ⟨rfl, rfl⟩))
   | (refine ld24 (by rfl) _ (by rfl) w.heap.size 0 (by rfl) X hX A0.range ?_)
   | (refine st24n (by rfl) _ _ (by rfl) ((w.alloc (.cells (h8 X) 30)).alloc (.cells (h8 Z32) 30)) (w.heap.size + 1 + 1) (by simp) (by rfl) X (by rfl) (by rfl) hX ?_))
 go_loopw [27] (fun d wr => ∃ (j : Nat) (r : List Int), d = .int .i64 (j : Int) ∧ j ≤ n ∧ Below w.heap.size w wr ∧ w.heap.size + 3 ≤ wr.heap.size ∧ Arr wr (w.heap.size + 1) 30 (h8 Z32) ∧ Arr wr (w.heap.size + 1 + 1) 30 (h8 r) ∧ Hid (r.length = 32) ∧ Hid (fo (m / 2 ^ j) r (ls.drop j) = fo m X ls))
   (fun d _ => n - (intOf d).toNat)
 case atStart => exact ⟨0, X, rfl, by omega, hb2, by simp, A1.alloc _, A2, Hid.mk' hX, Hid.mk' (by simp)⟩
 case round =>
   obtain ⟨j, r, rfl, hj, hbl, hsz, R1, R2, hr, hfo⟩ := hrel
   by_cases hlt : j < n
   · have hI : (j : Int) < n := by omega
     have hSr := hS.below hbl
     obtain ⟨g, off, rfl, hgN, hR⟩ := hSr.at0 (by omega)
     obtain ⟨Y, hY⟩ : ∃ Y, ls[j]? = some Y := ⟨ls[j]'(by rw [← hl.out]; exact hlt), List.getElem?_eq_getElem _⟩
     have hY32 := hS.l32 Y (List.mem_of_getElem? hY)
     have hRY := hR j Y hY
     have hsec := isSecond_any m j hm (by omega)
     have hst := Hid.mk' (fo_step (m := m) (r := r) hY)
     have hbY := hbl.alloc (by omega) (.cells (h8 Y) 30)
     have Y1 := Arr.new wr 30 (h8 Y)
     have R1' := R1.alloc (.cells (h8 Y) 30)
     have R2' := R2.alloc (.cells (h8 Y) 30)
     replace hY := Hid.mk' hY
     cases hd : decide (m / 2 ^ j % 2 = 1) with
     | true =>
       rw [hd] at hsec
       have hd' : m / 2 ^ j % 2 = 1 := of_decide_eq_true hd
       rw [if_neg (by omega)] at hst
       replace hd' := Hid.mk' hd'
       clear hd
       go_wp2_with (first
         | (refine ld24 (by rfl) _ (by rfl) g (off + j * 32) (by rfl) Y hY32 hRY ?_)
         | (refine st24n (by rfl) _ _ (by rfl) wr wr.heap.size rfl (by rfl) Y (by rfl) (by rfl) hY32 ?_)
         | (go_at_call 250; go_must (refine (hsec _).mono ?_; rintro e w2 ⟨rfl, rfl⟩))
         | (refine ld24 (by rfl) _ (by rfl) wr.heap.size 0 (by rfl) Y hY32 Y1.range ?_)
         | (refine ld24 (by rfl) _ (by rfl) (w.heap.size + 1 + 1) 0 (by rfl) r hr.out R2'.range ?_)
         | (go_at_call 168; go_must (refine (pair_h Y r _ hY32 hr.out).mono ?_; rintro e w3 ⟨rfl, hb3⟩; have hs3 := hb3.size; simp at hs3; have S1 := R1'.below hb3 (by simp; omega); have S2 := R2'.below hb3 (by simp; omega)))
         | (refine st24 (by rfl) _ _ (by rfl) (w.heap.size + 1 + 1) (pr Y r) r (by rfl) (by rfl) (pr_len _ _) hr.out S2 ?_))
       go_roundw
       case rel => exact ⟨j + 1, pr Y r, by go_num, by omega, below_setRow (hbY.trans (hb3.mono (by simp; omega))) (by omega) _, by simp; omega, S1.setRowOther _ (by omega), S2.setRow _, Hid.mk' (pr_len _ _), Hid.mk' (by rw [← hst.out]; exact hfo.out)⟩
       case measure => simp [intOf]; omega
     | false =>
       rw [hd] at hsec
       have hd' : ¬ m / 2 ^ j % 2 = 1 := of_decide_eq_false hd
       rw [if_pos (by omega)] at hst
       replace hd' := Hid.mk' hd'
       clear hd
       go_wp2_with (first
         | (refine ld24 (by rfl) _ (by rfl) g (off + j * 32) (by rfl) Y hY32 hRY ?_)
         | (refine st24n (by rfl) _ _ (by rfl) wr wr.heap.size rfl (by rfl) Y (by rfl) (by rfl) hY32 ?_)
         | (go_at_call 250; go_must (refine (hsec _).mono ?_; rintro e w2 ⟨rfl, rfl⟩))
         | (refine ld24 (by rfl) _ (by rfl) wr.heap.size 0 (by rfl) Y hY32 Y1.range ?_)
         | (refine ld24 (by rfl) _ (by rfl) (w.heap.size + 1 + 1) 0 (by rfl) r hr.out R2'.range ?_)
         | (go_at_call 168; go_must (refine (pair_h r Y _ hr.out hY32).mono ?_; rintro e w3 ⟨rfl, hb3⟩; have hs3 := hb3.size; simp at hs3; have S1 := R1'.below hb3 (by simp; omega); have S2 := R2'.below hb3 (by simp; omega)))
         | (refine st24 (by rfl) _ _ (by rfl) (w.heap.size + 1 + 1) (pr r Y) r (by rfl) (by rfl) (pr_len _ _) hr.out S2 ?_))
       go_roundw
       case rel => exact ⟨j + 1, pr r Y, by go_num, by omega, below_setRow (hbY.trans (hb3.mono (by simp; omega))) (by omega) _, by simp; omega, S1.setRowOther _ (by omega), S2.setRow _, Hid.mk' (pr_len _ _), Hid.mk' (by rw [← hst.out]; exact hfo.out)⟩
       case measure => simp [intOf]; omega
   · obtain rfl : j = n := by omega
     have hI : ¬ (j : Int) < j := by omega
     have hend : r = fo m X ls := by
       have h := hfo.out
       rw [List.drop_eq_nil_of_le (by rw [← hl.out]; exact Nat.le_refl _)] at h
       exact h
     subst hend
     clear hfo
     go_wp2_with (first
       | (refine ld24 (by rfl) _ (by rfl) (w.heap.size + 1 + 1) 0 (by rfl) _ hr.out R2.range ?_)
       | (refine st24 (by rfl) _ _ (by rfl) (w.heap.size + 1) _ Z32 (by rfl) (by rfl) hr.out Z32_len R1 ?_))
     exact bodyPost_ret (v := .tuple #[.agg (h8 (fo m X ls)), .int .i64 0]) (resP Tryz.results246 rfl rfl hr.out (R1.setRow _)) rfl ⟨rfl, below_setRow hbl (by omega) _⟩
set_option maxRecDepth 100000 in
theorem fold_no (i : Int) (X : List Int) (sp : Option Addr) (n cap : Nat) (w : World) (hX : X.length = 32) (hn : n ≤ 140737488355328) (h : ¬ (n ≤ 16 ∧ 0 ≤ i ∧ i < (2 ^ n : Nat))) :
   Calls Tryz.prog 246 #[.int .i64 i, .agg (h8 X), .slice sp n cap] w fun e w' => e = .returned (.tuple #[.agg (h8 Z32), .int .i64 2]) ∧ Below w.heap.size w w' := by
 have A1 := Arr.new (w.alloc (.cells (h8 X) 30)) 30 (h8 Z32)
 rw [World.size_alloc] at A1
 have hb2 : Below w.heap.size w ((w.alloc (.cells (h8 X) 30)).alloc (.cells (h8 Z32) 30)) := (alloc_bel' w _).alloc (by simp) _
 by_cases h1 : n ≤ 16
 · have h2 : ¬ (0 ≤ i ∧ i < (2 ^ n : Nat)) := fun hh => h ⟨h1, hh⟩
   have hmd : ∀ w, Calls Tryz.prog 248 #[.int .i64 n] w fun e w' => e = .returned (.bool true) ∧ w' = w := fun w => by have h := mayDepth_any n w; rwa [decide_eq_true (by omega)] at h
   have hmp : ∀ w, Calls Tryz.prog 249 #[.int .i64 n, .int .i64 i] w fun e w' => e = .returned (.bool false) ∧ w' = w := fun w => by have h := mayPlace_any n h1 i w; rwa [decide_eq_false h2] at h
   clear h h2
   go_enter Tryz.func246, Tryz.ntmps246
   go_wp2_with (first
     | (go_at_call 248; go_must (refine (hmd _).mono ?_; rintro e w2 ⟨rfl, rfl⟩))
     | (go_at_call 249; go_must (refine (hmp _).mono ?_; rintro e w2 ⟨rfl, rfl⟩))
     | (refine st24 (by rfl) _ _ (by rfl) (w.heap.size + 1) Z32 Z32 (by rfl) (by rfl) Z32_len Z32_len A1 ?_))
   exact bodyPost_ret (v := .tuple #[.agg (h8 Z32), .int .i64 2]) (resP Tryz.results246 rfl rfl Z32_len (A1.setRow _)) rfl ⟨rfl, below_setRow hb2 (by omega) _⟩
 · have hmd : ∀ w, Calls Tryz.prog 248 #[.int .i64 n] w fun e w' => e = .returned (.bool false) ∧ w' = w := fun w => by have h := mayDepth_any n w; rwa [decide_eq_false (by omega)] at h
   clear h
   go_enter Tryz.func246, Tryz.ntmps246
   go_wp2_with (first
     | (go_at_call 248; go_must (refine (hmd _).mono ?_; rintro e w2 ⟨rfl, rfl⟩))
     | (refine st24 (by rfl) _ _ (by rfl) (w.heap.size + 1) Z32 Z32 (by rfl) (by rfl) Z32_len Z32_len A1 ?_))
   exact bodyPost_ret (v := .tuple #[.agg (h8 Z32), .int .i64 2]) (resP Tryz.results246 rfl rfl Z32_len (A1.setRow _)) rfl ⟨rfl, below_setRow hb2 (by omega) _⟩
abbrev FoOK (i : Int) (n : Nat) : Prop := n ≤ 16 ∧ 0 ≤ i ∧ i < (2 ^ n : Nat)
def foR (i : Int) (X : List Int) (ls : List (List Int)) : List Int := if FoOK i ls.length then fo i.toNat X ls else Z32
def foE (i : Int) (ls : List (List Int)) : Int := if FoOK i ls.length then 0 else 2
theorem fold_any (i : Int) (X : List Int) (N : Nat) (sp : Option Addr) (n cap : Nat) (ls : List (List Int)) (w : World) (hX : X.length = 32) (hS : HS N w sp n cap ls) :
   Calls Tryz.prog 246 #[.int .i64 i, .agg (h8 X), .slice sp n cap] w fun e w' => e = .returned (.tuple #[.agg (h8 (foR i X ls)), .int .i64 (foE i ls)]) ∧ Below w.heap.size w w' := by
 have hl := hS.len.out
 unfold foR foE
 rw [← hl]
 by_cases h : FoOK i n
 · rw [if_pos h, if_pos h]
   obtain ⟨h1, h2, h3⟩ := h
   obtain ⟨m, rfl⟩ : ∃ m : Nat, i = m := ⟨i.toNat, by omega⟩
   exact fold_ok m X N sp n cap ls w hX hS h1 (by omega)
 · rw [if_neg h, if_neg h]
   exact fold_no i X sp n cap w hX hS.small h
theorem Arr.storeSha {w : World} {g t : Nat} {Z : Array Value} (h : Arr w g t Z) (hZ : Z.size = 32) (M : List Int) : (storeCells ⟨g, 0, none⟩ (sha M).toList).run Tryz.prog w = .ok () (w.setRow g (sha M)) := by
 have := run_storeCells_from (P := Tryz.prog) g t (sha M).toList 0 Z w h (by simp [sha_size, hZ]) (fun v hv => (Array.all_eq_true_iff_forall_mem.1 (sha_one M)) v (by simpa using hv))
 have e : (Z.toList.drop (sha M).size) = [] := by rw [sha_size]; exact List.drop_eq_nil_of_le (by simp [hZ])
 simpa [e] using this
set_option maxRecDepth 100000 in
theorem refPair_any (X Y : List Int) (w : World) (hX : X.length = 32) (hY : Y.length = 32) :
   Calls Tryz.prog 130 #[.agg (h8 X), .agg (h8 Y)] w fun e w' => e = .returned (.agg (sha (1 :: (X ++ Y)))) ∧ Below w.heap.size w w' := by
 have HX := Hid.mk' hX
 have HY := Hid.mk' hY
 clear hX hY
 go_enter Tryz.func130, Tryz.ntmps130
 go_upto_region 1 with fail
 obtain ⟨W, hWe⟩ : ∃ W : World, W = ((w.alloc (.cells (h8 X) 30)).alloc (.cells (h8 Y) 30)).alloc (.cells #[.int .u8 0, .int .u8 0, .int .u8 0, .int .u8 0, .int .u8 0, .int .u8 0, .int .u8 0, .int .u8 0, .int .u8 0, .int .u8 0, .int .u8 0, .int .u8 0, .int .u8 0, .int .u8 0, .int .u8 0, .int .u8 0, .int .u8 0, .int .u8 0, .int .u8 0, .int .u8 0, .int .u8 0, .int .u8 0, .int .u8 0, .int .u8 0, .int .u8 0, .int .u8 0, .int .u8 0, .int .u8 0, .int .u8 0, .int .u8 0, .int .u8 0, .int .u8 0] 30) := ⟨_, rfl⟩
 rw [← hWe]
 have hX0 : Arr W w.heap.size 30 (h8 X) := by rw [hWe]; exact ((Arr.new _ _ _).alloc _).alloc _
 have hY0 : Arr W (w.heap.size + 1) 30 (h8 Y) := by rw [hWe]; exact (show Arr ((w.alloc _).alloc _) (w.heap.size + 1) 30 (h8 Y) from (by simpa using Arr.new (w.alloc (.cells (h8 X) 30)) 30 (h8 Y))).alloc _
 have hZ0 : ∃ Z : Array Value, Z.size = 32 ∧ Arr W (w.heap.size + 2) 30 Z := by
   refine ⟨_, ?_, by rw [hWe]; exact Arr.new3 w _ _ 30 _⟩
   rfl
 have hB0 : Below w.heap.size w W := by rw [hWe]; exact (((Below.refl _ _).alloc (Nat.le_refl _) _).alloc (by simp) _).alloc (by simp; omega) _
 have hz0 : W.heap.size = w.heap.size + 3 := by rw [hWe]; simp
 clear hWe
 obtain ⟨Z, hZs, hZ0⟩ := hZ0
 have hlit : (W.alloc (.cells #[.int .u8 1] 5)).drew.ownsRow (w.heap.size + 3) 5 1 (.slice (some ⟨W.heap.size, 0, none⟩) 1 1) 1 (by8 [1]) := World.ownsRow_lit _ _ _ (by rw [hz0]; exact Nat.le_refl _) (by unfold maxLen; omega) rfl
 have HZ0 := Hid.mk' hz0
 clear hz0
 have hsz := sha_size (1 :: (X ++ Y))
 go_region_law ((first
   | (refine step_append_bytes (by rfl) (.tmp 5) (.tmp 6) (by rfl) (w.heap.size + 3) _ 1 [1] (by rfl) hlit (some ⟨w.heap.size, 0, none⟩) 32 32 X (by rfl) HX.out.symm (fun h => by cases h) (Arr.sl (hX0.alloc _)) (by omega) (by simp [HZ0.out]) ?_; intro v2 w2 hown2 hg2)
   | (refine step_append_bytes (by rfl) (.tmp 7) (.tmp 8) (by rfl) (w.heap.size + 3) _ 33 ([1] ++ X) (by rfl) hown2 (some ⟨w.heap.size + 1, 0, none⟩) 32 32 Y (by rfl) HY.out.symm (fun h => by cases h) (Arr.sl ((hY0.alloc _).drew.grown hg2 (ne_own hlit (by omega)))) (by omega) (by have := hg2.size; simp [HZ0.out] at this; omega) ?_; intro v3 w3 hown3 hg3; obtain ⟨g, c3, rfl, hn3, hc3, hgg, hBy, -⟩ := own_slice hown3 (by omega); have hZ3 := (((hZ0.alloc (.cells #[.int .u8 1] 5)).drew.grown hg2 (ne_own hlit (by omega))).grown hg3 (ne_own hown2 (by omega))))
   | (go_simp; go_at_call 23; refine (refSum_any (some ⟨g, 0, none⟩) 65 c3 (1 :: (X ++ Y)) _ hn3.out (fun h => by cases h) (fun _ => ⟨g, 0, rfl, hBy⟩) (by omega)).mono ?_; rintro e w4 ⟨rfl, hb4⟩; have hZ4 := hZ3.below hb4 hZ3.lt; have hst := hZ4.storeSha hZs (1 :: (X ++ Y)); go_simp)))
 go_wp2_with fail
 have hg2s := hg2.size
 simp [HZ0.out] at hg2s
 have hB3 : Below w.heap.size w w3 := ((hB0.alloc hB0.size _).drew.grown hg2 (by simp [HZ0.out]; omega) (fun k e => by have := own_ge hlit k e; omega)).grown hg3 (by omega) (fun k e => by have := own_ge hown2 k e; omega)
 exact bodyPost_ret (v := .agg (sha (1 :: (X ++ Y)))) (results_cell_row Tryz.results130 _ _ (w.heap.size + 2) 30 _ (0, 0) _ rfl (hZ4.setRow _) Tryz.underlying30 rfl (s24sha _)) rfl ⟨rfl, below_setRow (hB3.trans (hb4.mono hB3.size)) (by omega) _⟩
theorem refPair_h (X Y : List Int) (w : World) (hX : X.length = 32) (hY : Y.length = 32) :
   Calls Tryz.prog 130 #[.agg (h8 X), .agg (h8 Y)] w fun e w' => e = .returned (.agg (h8 (pr X Y))) ∧ Below w.heap.size w w' := by
 have h := refPair_any X Y w hX hY
 rw [sha_h8] at h
 exact h
end Go.Proofs.YtagebcbnenehfaaGreat
