/- Kz, Oh. -/
import Derived.Test.YtagebcbnenehfaaGreatX44
namespace Go.Proofs.YtagebcbnenehfaaGreat
open Go.RowKit
set_option maxRecDepth 100000
set_option linter.unusedVariables false
set_option linter.unusedSimpArgs false
set_option maxHeartbeats 40000000
def chkM (B : List Int) (p : Pf) (l : List Am) : Option (List Int) := if cmE p.st p.de = 0 ∧ cmR p.pc p.rg p.st p.de p.rt = B then tell p.de.toNat p l else none
def CkP (r : Option (List Int)) (w : World) (e : Ending) (w' : World) : Prop := e = .returned (.tuple #[.agg (h8 (r.getD Z32)), .bool r.isSome]) ∧ Below w.heap.size w w'
theorem cmE_ok {s d : Int} (h : cmE s d = 0) : 0 ≤ d ∧ d ≤ 12 := by
 unfold cmE at h
 split at h
 · next h1 => exact ⟨h1.1, h1.2.1⟩
 · cases h
theorem guard_any {N : Nat} {p : Pf} {d b : Nat} {sp : Option Addr} {n cap : Nat} {sb : Option Addr} {nb cb : Nat} {l : List Am} (w : World) (hp : p.ok) (hd : d ≤ 12) (hde : p.de = d) (hA : AS N w sp n cap l) (hB : BS N w sb nb cb p.pr) (hN : N ≤ w.heap.size) (hbx : Arr w b 34 (pfL p (.slice sp n cap) (.slice sb nb cb)).toArray) :
   Calls Tryz.prog 44 #[.func (Fn.func 45) #[] #[.pointer (some ⟨b, 0, none⟩)]] w fun e w' => e = .returned (.tuple #[.agg (h8 ((tell d p l).getD Z32)), .int .i64 (if (tell d p l).isSome then 0 else 210)]) ∧ Below w.heap.size w w' := by
 have b0 : Below w.heap.size w ((w.alloc (.cells (h8 Z32) 30)).alloc (.cells #[.int .i64 0] 35)) := (alloc_bel' w _).alloc (by simp) _
 have hs : ((w.alloc (.cells (h8 Z32) 30)).alloc (.cells #[.int .i64 0] 35)).heap.size = w.heap.size + 2 := by simp
 have hA0 := hA.below (b0.mono hN)
 have hB0 := hB.below (b0.mono hN)
 have hx0 := hbx.bel b0
 have hN0 : N ≤ ((w.alloc (.cells (h8 Z32) 30)).alloc (.cells #[.int .i64 0] 35)).heap.size := by omega
 unfold tell
 cases hg : stG (hM d p.pr) (2 ^ d) (cfg p) ⟨l, p.rt, false⟩ with
 | none =>
   have h := c1_sn _ hp hd hde hA0 hB0 hN0 hx0 hg
   rw [hs] at h
   exact guard_no w h
 | some r =>
   obtain ⟨m', t⟩ := r
   by_cases hf : t.l = [] ∧ (p.pr = [] ∨ t.q = true)
   · have h := c1_ok _ hp hd hde hA0 hB0 hN0 hx0 hg hf
     rw [hs] at h
     have e : (some (m', t)).bind (finM d p.pr) = some (cmR m'.pc m'.rg m'.st p.de t.rt) := by
       show finM d p.pr (m', t) = _
       unfold finM
       rw [if_pos hf, hde]
     rw [e]
     exact guard_ok w (cmR_len _ _ _ _ _) h
   · have h := c1_en _ hp hd hde hA0 hB0 hN0 hx0 hg hf
     rw [hs] at h
     have e : (some (m', t)).bind (finM d p.pr) = none := by
       show finM d p.pr (m', t) = _
       unfold finM
       rw [if_neg hf]
     rw [e]
     exact guard_no w h
theorem check_e {N : Nat} {p : Pf} {sp : Option Addr} {n cap : Nat} {sb : Option Addr} {nb cb : Nat} {l : List Am} {B : List Int} (w : World) (hp : p.ok) (hB32 : B.length = 32) (hA : AS N w sp n cap l) (hB : BS N w sb nb cb p.pr) (hN : N ≤ w.heap.size) (he : cmE p.st p.de ≠ 0) :
   Calls Tryz.prog 13 #[.agg (h8 B), .agg (pfL p (.slice sp n cap) (.slice sb nb cb)).toArray] w fun e w' => e = .returned (.tuple #[.agg (h8 Z32), .bool false]) ∧ Below w.heap.size w w' := by
 have h16 := hp.r16
 have hr64 : (by64 p.rg).length = 16 := by simp [by64, hp.r16]
 have h17 := pfL_at hp.r16 (.slice sp n cap) (.slice sb nb cb) 0
 have h18 := pfL_at hp.r16 (.slice sp n cap) (.slice sb nb cb) 1
 change _ = some (Value.int .u8 p.st) at h17
 change _ = some (Value.int .i64 p.de) at h18
 have h0 : (pfL p (.slice sp n cap) (.slice sb nb cb)).toArray[0]? = some (.int .u64 p.pc) := rfl
 have hprt := fun (u : World) => parts_any p.pc p.rg p.st p.de p.rt u hp.r16 hp.rt hp.st
 have hX32 := cmR_len p.pc p.rg p.st p.de p.rt
 have hnq := neq30 hX32 hB32
 have hrg := fun (u : World) (g ty : Nat) (h : Arr u g ty (pfL p (.slice sp n cap) (.slice sb nb cb)).toArray) => pfL_rg h
 have hrt := fun (u : World) (g ty : Nat) (h : Arr u g ty (pfL p (.slice sp n cap) (.slice sb nb cb)).toArray) => pfL_rt hp.r16 h
 have h32 := hp.rt
 generalize hPF : (pfL p (.slice sp n cap) (.slice sb nb cb)).toArray = PF at *
 have A2 := ((Arr.new w 30 (h8 B)).alloc (.cells PF 34)).alloc (.cells (h8 Z32) 30)
 have A3 := (Arr.new (w.alloc (.cells (h8 B) 30)) 34 PF).alloc (.cells (h8 Z32) 30)
 have A4 := Arr.new ((w.alloc (.cells (h8 B) 30)).alloc (.cells PF 34)) 30 (h8 Z32)
 have b0 : Below w.heap.size w (((w.alloc (.cells (h8 B) 30)).alloc (.cells PF 34)).alloc (.cells (h8 Z32) 30)) := ((alloc_bel' w _).alloc (by simp) _).alloc (by simp; omega) _
 simp only [World.size_alloc] at A3 A4
 generalize hXX : cmR p.pc p.rg p.st p.de p.rt = XX at *
 generalize hER : cmE p.st p.de = er at *
 go_enter Tryz.func13, Tryz.ntmps13
 go_upto_region 1 with fail
 change Code.wp _ _ _ _ (((w.alloc (.cells (h8 B) 30)).alloc (.cells PF 34)).alloc (.cells (h8 Z32) 30))
 generalize hV : (((w.alloc (.cells (h8 B) 30)).alloc (.cells PF 34)).alloc (.cells (h8 Z32) 30)) = W at *
 have k0 := (A3.cell 0).trans h0
 have k17 := (A3.cell 17).trans h17
 have k18 := (A3.cell 18).trans h18
 go_upto_region 2 with (first
   | (refine atL 23 (.tmp 12) ?_; go_must (refine ldM (by rfl) 23 (.tmp 12) (by rfl) (w.heap.size + 1) 1 (by rfl) (by64 p.rg) (hrg _ _ _ A3) Tryz.underlying23 rfl (by rw [hr64]; exact size23) ?_))
   | (refine atL 30 (.tmp 18) ?_; go_must (refine ld24 (by rfl) (.tmp 18) (by rfl) (w.heap.size + 1) 19 (by rfl) p.rt h32 (hrt _ _ _ A3) ?_))
   | (go_at_call 43; go_must (refine (hprt W).mono ?_; rintro e w1 ⟨rfl, hb1⟩; replace A2 := (A2.bel hb1).alloc (.cells (h8 XX) 30); replace A3 := (A3.bel hb1).alloc (.cells (h8 XX) 30); replace A4 := (A4.bel hb1).alloc (.cells (h8 XX) 30); have a6 := Arr.new w1 30 (h8 XX)))
   | (refine atS 30 (.tmp 6) (.tmp 21) ?_; go_must (refine st24n (by rfl) (.tmp 6) (.tmp 21) (by rfl) w1 w1.heap.size rfl (by rfl) XX (by rfl) (by rfl) hX32 ?_)))
 have hWs : w.heap.size + 3 ≤ W.heap.size := by rw [← hV]; simp
 have hs1 : w.heap.size + 3 ≤ w1.heap.size := by have := hb1.size; omega
 have b1 : Below w.heap.size w (w1.alloc (.cells (h8 XX) 30)) := b0.trans ((hb1.alloc hb1.size _).mono (by omega))
 generalize hU : w1.alloc (.cells (h8 XX) 30) = U at *
 generalize w1.heap.size = g6 at *
 have hUs : w.heap.size + 3 < U.heap.size := by have := a6.lt; omega
 have e1 : (er != 0) = true := by simpa using he
 clear he
 go_wp2_with (refine atS 30 (.tmp 4) (.tmp 30) ?_; go_must (refine st24 (by rfl) (.tmp 4) (.tmp 30) (by rfl) (w.heap.size + 1 + 1) Z32 Z32 (by rfl) (by rfl) Z32_len Z32_len A4 ?_))
 exact bodyPost_ret (v := .tuple #[.agg (h8 Z32), .bool false]) (resP Tryz.results13 rfl rfl Z32_len (A4.setRow _)) rfl ⟨rfl, below_setRow b1 (by omega) _⟩
theorem check_h {N : Nat} {p : Pf} {sp : Option Addr} {n cap : Nat} {sb : Option Addr} {nb cb : Nat} {l : List Am} {B : List Int} (w : World) (hp : p.ok) (hB32 : B.length = 32) (hA : AS N w sp n cap l) (hB : BS N w sb nb cb p.pr) (hN : N ≤ w.heap.size) (he : cmE p.st p.de = 0) (hh : cmR p.pc p.rg p.st p.de p.rt ≠ B) :
   Calls Tryz.prog 13 #[.agg (h8 B), .agg (pfL p (.slice sp n cap) (.slice sb nb cb)).toArray] w fun e w' => e = .returned (.tuple #[.agg (h8 Z32), .bool false]) ∧ Below w.heap.size w w' := by
 have h16 := hp.r16
 have hr64 : (by64 p.rg).length = 16 := by simp [by64, hp.r16]
 have h17 := pfL_at hp.r16 (.slice sp n cap) (.slice sb nb cb) 0
 have h18 := pfL_at hp.r16 (.slice sp n cap) (.slice sb nb cb) 1
 change _ = some (Value.int .u8 p.st) at h17
 change _ = some (Value.int .i64 p.de) at h18
 have h0 : (pfL p (.slice sp n cap) (.slice sb nb cb)).toArray[0]? = some (.int .u64 p.pc) := rfl
 have hprt := fun (u : World) => parts_any p.pc p.rg p.st p.de p.rt u hp.r16 hp.rt hp.st
 have hX32 := cmR_len p.pc p.rg p.st p.de p.rt
 have hnq := neq30 hX32 hB32
 have hrg := fun (u : World) (g ty : Nat) (h : Arr u g ty (pfL p (.slice sp n cap) (.slice sb nb cb)).toArray) => pfL_rg h
 have hrt := fun (u : World) (g ty : Nat) (h : Arr u g ty (pfL p (.slice sp n cap) (.slice sb nb cb)).toArray) => pfL_rt hp.r16 h
 have h32 := hp.rt
 generalize hPF : (pfL p (.slice sp n cap) (.slice sb nb cb)).toArray = PF at *
 have A2 := ((Arr.new w 30 (h8 B)).alloc (.cells PF 34)).alloc (.cells (h8 Z32) 30)
 have A3 := (Arr.new (w.alloc (.cells (h8 B) 30)) 34 PF).alloc (.cells (h8 Z32) 30)
 have A4 := Arr.new ((w.alloc (.cells (h8 B) 30)).alloc (.cells PF 34)) 30 (h8 Z32)
 have b0 : Below w.heap.size w (((w.alloc (.cells (h8 B) 30)).alloc (.cells PF 34)).alloc (.cells (h8 Z32) 30)) := ((alloc_bel' w _).alloc (by simp) _).alloc (by simp; omega) _
 simp only [World.size_alloc] at A3 A4
 generalize hXX : cmR p.pc p.rg p.st p.de p.rt = XX at *
 generalize hER : cmE p.st p.de = er at *
 go_enter Tryz.func13, Tryz.ntmps13
 go_upto_region 1 with fail
 change Code.wp _ _ _ _ (((w.alloc (.cells (h8 B) 30)).alloc (.cells PF 34)).alloc (.cells (h8 Z32) 30))
 generalize hV : (((w.alloc (.cells (h8 B) 30)).alloc (.cells PF 34)).alloc (.cells (h8 Z32) 30)) = W at *
 have k0 := (A3.cell 0).trans h0
 have k17 := (A3.cell 17).trans h17
 have k18 := (A3.cell 18).trans h18
 go_upto_region 2 with (first
   | (refine atL 23 (.tmp 12) ?_; go_must (refine ldM (by rfl) 23 (.tmp 12) (by rfl) (w.heap.size + 1) 1 (by rfl) (by64 p.rg) (hrg _ _ _ A3) Tryz.underlying23 rfl (by rw [hr64]; exact size23) ?_))
   | (refine atL 30 (.tmp 18) ?_; go_must (refine ld24 (by rfl) (.tmp 18) (by rfl) (w.heap.size + 1) 19 (by rfl) p.rt h32 (hrt _ _ _ A3) ?_))
   | (go_at_call 43; go_must (refine (hprt W).mono ?_; rintro e w1 ⟨rfl, hb1⟩; replace A2 := (A2.bel hb1).alloc (.cells (h8 XX) 30); replace A3 := (A3.bel hb1).alloc (.cells (h8 XX) 30); replace A4 := (A4.bel hb1).alloc (.cells (h8 XX) 30); have a6 := Arr.new w1 30 (h8 XX)))
   | (refine atS 30 (.tmp 6) (.tmp 21) ?_; go_must (refine st24n (by rfl) (.tmp 6) (.tmp 21) (by rfl) w1 w1.heap.size rfl (by rfl) XX (by rfl) (by rfl) hX32 ?_)))
 have hWs : w.heap.size + 3 ≤ W.heap.size := by rw [← hV]; simp
 have hs1 : w.heap.size + 3 ≤ w1.heap.size := by have := hb1.size; omega
 have b1 : Below w.heap.size w (w1.alloc (.cells (h8 XX) 30)) := b0.trans ((hb1.alloc hb1.size _).mono (by omega))
 generalize hU : w1.alloc (.cells (h8 XX) 30) = U at *
 generalize w1.heap.size = g6 at *
 have hUs : w.heap.size + 3 < U.heap.size := by have := a6.lt; omega
 rw [decide_eq_false hh] at hnq
 subst he
 go_wp2_with (first
   | (refine atL 30 (.tmp 6) ?_; go_must (refine ld24g (by rfl) (.tmp 6) (by rfl) g6 0 (by rfl) XX hX32 a6.range ?_))
   | (refine atL 30 (.tmp 2) ?_; go_must (refine ld24g (by rfl) (.tmp 2) (by rfl) w.heap.size 0 (by rfl) B hB32 A2.range ?_))
   | (refine atS 30 (.tmp 4) (.tmp 30) ?_; go_must (refine st24 (by rfl) (.tmp 4) (.tmp 30) (by rfl) (w.heap.size + 1 + 1) Z32 Z32 (by rfl) (by rfl) Z32_len Z32_len A4 ?_)))
 exact bodyPost_ret (v := .tuple #[.agg (h8 Z32), .bool false]) (resP Tryz.results13 rfl rfl Z32_len (A4.setRow _)) rfl ⟨rfl, below_setRow b1 (by omega) _⟩
theorem check_g {N : Nat} {p : Pf} {sp : Option Addr} {n cap : Nat} {sb : Option Addr} {nb cb : Nat} {l : List Am} {B : List Int} (w : World) (hp : p.ok) (hB32 : B.length = 32) (hA : AS N w sp n cap l) (hB : BS N w sb nb cb p.pr) (hN : N ≤ w.heap.size) {d : Nat} (hd : d ≤ 12) (hde : p.de = d) (he : cmE p.st p.de = 0) (hh : cmR p.pc p.rg p.st p.de p.rt = B) :
   Calls Tryz.prog 13 #[.agg (h8 B), .agg (pfL p (.slice sp n cap) (.slice sb nb cb)).toArray] w (CkP (tell d p l) w) := by
 have h16 := hp.r16
 have hr64 : (by64 p.rg).length = 16 := by simp [by64, hp.r16]
 have h17 := pfL_at hp.r16 (.slice sp n cap) (.slice sb nb cb) 0
 have h18 := pfL_at hp.r16 (.slice sp n cap) (.slice sb nb cb) 1
 change _ = some (Value.int .u8 p.st) at h17
 change _ = some (Value.int .i64 p.de) at h18
 have h0 : (pfL p (.slice sp n cap) (.slice sb nb cb)).toArray[0]? = some (.int .u64 p.pc) := rfl
 have hprt := fun (u : World) => parts_any p.pc p.rg p.st p.de p.rt u hp.r16 hp.rt hp.st
 have hX32 := cmR_len p.pc p.rg p.st p.de p.rt
 have hnq := neq30 hX32 hB32
 have hrg := fun (u : World) (g ty : Nat) (h : Arr u g ty (pfL p (.slice sp n cap) (.slice sb nb cb)).toArray) => pfL_rg h
 have hrt := fun (u : World) (g ty : Nat) (h : Arr u g ty (pfL p (.slice sp n cap) (.slice sb nb cb)).toArray) => pfL_rt hp.r16 h
 have h32 := hp.rt
 have hgd := fun (u : World) (b : Nat) (hb : Below w.heap.size w u) (hx : Arr u b 34 (pfL p (.slice sp n cap) (.slice sb nb cb)).toArray) => guard_any u hp hd hde (hA.below (hb.mono hN)) (hB.below (hb.mono hN)) (Nat.le_trans hN hb.size) hx
 replace hde := Hid.mk' hde
 rw [decide_eq_true hh] at hnq
 replace hh := Hid.mk' hh
 generalize hPF : (pfL p (.slice sp n cap) (.slice sb nb cb)).toArray = PF at *
 have A2 := ((Arr.new w 30 (h8 B)).alloc (.cells PF 34)).alloc (.cells (h8 Z32) 30)
 have A3 := (Arr.new (w.alloc (.cells (h8 B) 30)) 34 PF).alloc (.cells (h8 Z32) 30)
 have A4 := Arr.new ((w.alloc (.cells (h8 B) 30)).alloc (.cells PF 34)) 30 (h8 Z32)
 have b0 : Below w.heap.size w (((w.alloc (.cells (h8 B) 30)).alloc (.cells PF 34)).alloc (.cells (h8 Z32) 30)) := ((alloc_bel' w _).alloc (by simp) _).alloc (by simp; omega) _
 simp only [World.size_alloc] at A3 A4
 generalize hXX : cmR p.pc p.rg p.st p.de p.rt = XX at *
 generalize hER : cmE p.st p.de = er at *
 go_enter Tryz.func13, Tryz.ntmps13
 go_upto_region 1 with fail
 change Code.wp _ _ _ _ (((w.alloc (.cells (h8 B) 30)).alloc (.cells PF 34)).alloc (.cells (h8 Z32) 30))
 generalize hV : (((w.alloc (.cells (h8 B) 30)).alloc (.cells PF 34)).alloc (.cells (h8 Z32) 30)) = W at *
 have k0 := (A3.cell 0).trans h0
 have k17 := (A3.cell 17).trans h17
 have k18 := (A3.cell 18).trans h18
 go_upto_region 2 with (first
   | (refine atL 23 (.tmp 12) ?_; go_must (refine ldM (by rfl) 23 (.tmp 12) (by rfl) (w.heap.size + 1) 1 (by rfl) (by64 p.rg) (hrg _ _ _ A3) Tryz.underlying23 rfl (by rw [hr64]; exact size23) ?_))
   | (refine atL 30 (.tmp 18) ?_; go_must (refine ld24 (by rfl) (.tmp 18) (by rfl) (w.heap.size + 1) 19 (by rfl) p.rt h32 (hrt _ _ _ A3) ?_))
   | (go_at_call 43; go_must (refine (hprt W).mono ?_; rintro e w1 ⟨rfl, hb1⟩; replace A2 := (A2.bel hb1).alloc (.cells (h8 XX) 30); replace A3 := (A3.bel hb1).alloc (.cells (h8 XX) 30); replace A4 := (A4.bel hb1).alloc (.cells (h8 XX) 30); have a6 := Arr.new w1 30 (h8 XX)))
   | (refine atS 30 (.tmp 6) (.tmp 21) ?_; go_must (refine st24n (by rfl) (.tmp 6) (.tmp 21) (by rfl) w1 w1.heap.size rfl (by rfl) XX (by rfl) (by rfl) hX32 ?_)))
 have hWs : w.heap.size + 3 ≤ W.heap.size := by rw [← hV]; simp
 have hs1 : w.heap.size + 3 ≤ w1.heap.size := by have := hb1.size; omega
 have b1 : Below w.heap.size w (w1.alloc (.cells (h8 XX) 30)) := b0.trans ((hb1.alloc hb1.size _).mono (by omega))
 generalize hU : w1.alloc (.cells (h8 XX) 30) = U at *
 generalize w1.heap.size = g6 at *
 have hUs : w.heap.size + 3 < U.heap.size := by have := a6.lt; omega
 subst he
 replace hgd := hgd U (w.heap.size + 1) b1 A3
 have ht32 : ((tell d p l).getD Z32).length = 32 := by
   cases ht : tell d p l with
   | none => exact Z32_len
   | some R =>
     unfold tell at ht
     rw [Option.bind_eq_some_iff] at ht
     obtain ⟨r, -, h2⟩ := ht
     unfold finM at h2
     split at h2
     · cases h2; exact cmR_len _ _ _ _ _
     · cases h2
 unfold CkP
 have e2 : ((if (tell d p l).isSome then (0 : Int) else 210) == 0) = (tell d p l).isSome := by cases (tell d p l).isSome <;> rfl
 generalize hok : (tell d p l).isSome = ok at *
 generalize hT : (tell d p l).getD Z32 = T at *
 generalize (if ok = true then (0 : Int) else 210) = er2 at *
 go_upto_region 5 with (first
   | (refine atL 30 (.tmp 6) ?_; go_must (refine ld24g (by rfl) (.tmp 6) (by rfl) g6 0 (by rfl) XX hX32 a6.range ?_))
   | (refine atL 30 (.tmp 2) ?_; go_must (refine ld24g (by rfl) (.tmp 2) (by rfl) w.heap.size 0 (by rfl) B hB32 A2.range ?_))
   | (go_at_call 44; go_must (refine hgd.mono ?_; rintro e w5 ⟨rfl, hb5⟩; replace A4 := A4.bel hb5))
   | (refine atS 30 (.tmp 4) (.tmp 34) ?_; go_must (refine st24 (by rfl) (.tmp 4) (.tmp 34) (by rfl) (w.heap.size + 1 + 1) T Z32 (by rfl) (by rfl) ht32 Z32_len A4 ?_)))
 have A5 := A4.setRow (h8 T)
 have b5 : Below w.heap.size w (w5.setRow (w.heap.size + 1 + 1) (h8 T)) := below_setRow (b1.trans (hb5.mono (by omega))) (by omega) _
 generalize w5.setRow (w.heap.size + 1 + 1) (h8 T) = U5 at *
 go_wp2_with (first
   | (refine atL 30 (.tmp 4) ?_; go_must (refine ld24 (by rfl) (.tmp 4) (by rfl) (w.heap.size + 1 + 1) 0 (by rfl) T ht32 A5.range ?_))
   | (refine atS 30 (.tmp 4) (.tmp 36) ?_; go_must (refine st24 (by rfl) (.tmp 4) (.tmp 36) (by rfl) (w.heap.size + 1 + 1) T T (by rfl) (by rfl) ht32 ht32 A5 ?_)))
 exact bodyPost_ret (v := .tuple #[.agg (h8 T), .bool ok]) (resP Tryz.results13 rfl rfl ht32 (A5.setRow _)) rfl ⟨by rw [hok, hT], below_setRow b5 (by omega) _⟩
theorem check13_any {N : Nat} {p : Pf} {sp : Option Addr} {n cap : Nat} {sb : Option Addr} {nb cb : Nat} {l : List Am} {B : List Int} (w : World) (hp : p.ok) (hB32 : B.length = 32) (hA : AS N w sp n cap l) (hB : BS N w sb nb cb p.pr) (hN : N ≤ w.heap.size) :
   Calls Tryz.prog 13 #[.agg (h8 B), .agg (pfL p (.slice sp n cap) (.slice sb nb cb)).toArray] w (CkP (chkM B p l) w) := by
 unfold chkM
 by_cases he : cmE p.st p.de = 0
 · obtain ⟨h1, h2⟩ := cmE_ok he
   by_cases hh : cmR p.pc p.rg p.st p.de p.rt = B
   · rw [if_pos ⟨he, hh⟩]
     exact check_g w hp hB32 hA hB hN (by omega) (by omega) he hh
   · rw [if_neg (fun h => hh h.2)]
     exact check_h w hp hB32 hA hB hN he hh
 · rw [if_neg (fun h => he h.1)]
   exact check_e w hp hB32 hA hB hN he
section
variable {d : Nat} {es : List En} {s r : Wd} {m m1 : Mc} {o i : Int} {a b c : Nat}
theorem ex_es (h24 : o ≠ 24) (h25 : o ≠ 25) : ex es m o a b c i = ex [] m o a b c i := by
 unfold ex
 simp only [if_neg h24, if_neg h25]
theorem doG_ex (hes : ∀ e ∈ es, e.n = e.bs.length) (hlen : m.me.length = 2 ^ d) (hU : ∀ k, U64 (m.get k)) (hsL : s.L = m.me) (hg : doG (hW d es) (2 ^ d) m.bare o a b c i s = some (m1, r)) : (ex es m o a b c i).getD { m with st := 2 } = { m1 with me := r.L } := by
 have hgt : ∀ k, m.bare.get k = m.get k := fun _ => rfl
 have htr : ({ m.bare.trap with me := s.L } : Mc) = { m with st := 2 } := by rw [hsL]; rfl
 by_cases h17 : o = 17
 · subst h17
   unfold doG at hg
   rw [if_pos rfl] at hg
   unfold ex
   rw [if_neg (by decide), if_neg (by decide), if_neg (by decide), if_neg (by decide), if_pos rfl]
   by_cases hin : addr m b i < (2 ^ d : Nat)
   · rw [if_pos (show addr m.bare b i < (2 ^ d : Nat) from hin), Option.bind_eq_some_iff] at hg
     obtain ⟨q, h1, h2⟩ := hg
     cases h2
     obtain ⟨-, e1, -, e2⟩ := gt_T (v := q.1) (s' := q.2) h1
     rw [if_pos (show IntKind.u64.wrap (m.get b + i) < (m.me.length : Int) by rw [hlen]; exact hin), e1, e2, hsL]
     rfl
   · rw [if_neg (show ¬ addr m.bare b i < (2 ^ d : Nat) from hin)] at hg
     cases hg
     rw [if_neg (show ¬ IntKind.u64.wrap (m.get b + i) < (m.me.length : Int) by rw [hlen]; exact hin), htr]
     rfl
 by_cases h18 : o = 18
 · subst h18
   unfold doG at hg
   rw [if_neg (by decide), if_pos rfl] at hg
   unfold ex
   rw [if_neg (by decide), if_neg (by decide), if_neg (by decide), if_neg (by decide), if_neg (by decide), if_pos rfl]
   by_cases hin : addr m b i < (2 ^ d : Nat)
   · rw [if_pos (show addr m.bare b i < (2 ^ d : Nat) from hin), Option.bind_eq_some_iff] at hg
     obtain ⟨q, h1, h2⟩ := hg
     cases h2
     obtain ⟨-, e1, -⟩ := st_T h1
     rw [if_pos (show IntKind.u64.wrap (m.get b + i) < (m.me.length : Int) by rw [hlen]; exact hin), e1, hsL]
     rfl
   · rw [if_neg (show ¬ addr m.bare b i < (2 ^ d : Nat) from hin)] at hg
     cases hg
     rw [if_neg (show ¬ IntKind.u64.wrap (m.get b + i) < (m.me.length : Int) by rw [hlen]; exact hin), htr]
     rfl
 by_cases h23 : o = 23
 · subst h23
   unfold doG at hg
   rw [if_neg (by decide), if_neg (by decide), if_pos rfl] at hg
   unfold ex
   rw [if_neg (by decide), if_neg (by decide), if_neg (by decide), if_neg (by decide), if_neg (by decide), if_neg (by decide), if_neg (by decide), if_neg (by decide), if_neg (by decide), if_neg (by decide), if_pos rfl]
   by_cases hin : hOk m (2 ^ d) i (m.get a) (m.get b) (m.get c) = true
   · rw [if_pos (show hOk m.bare (2 ^ d) i (m.bare.get a) (m.bare.get b) (m.bare.get c) = true from hin), Option.bind_eq_some_iff] at hg
     obtain ⟨q, h1, h2⟩ := hg
     rw [Option.bind_eq_some_iff] at h2
     obtain ⟨q2, h3, h4⟩ := h2
     cases h4
     unfold hOk at hin
     obtain ⟨o1, o2, o3, o4⟩ := of_decide_eq_true hin
     obtain ⟨P, hP⟩ := Option.isSome_iff_exists.1 o4
     obtain ⟨-, e1, -⟩ := setN_W4 (hU a).1 h3
     obtain ⟨-, f1, -, f2, f3⟩ := getN_W (vs := q.1) (s' := q.2) h1
     have hc0 := (hU c).1
     have hb0 := (hU b).1
     have hfb : fbL (fun t => q.1.getD t 0) (m.get c).toNat = fbL (m.wds (m.get b).toNat) (m.get c).toNat := fbL_congr (k := ((m.get c + 7) / 8).toNat) (fun t ht => by
       rw [f3 t ht, hsL]
       show m.me.getD (m.get b + t).toNat 0 = m.me.getD ((m.get b).toNat + t) 0
       rw [show (m.get b + (t : Int)).toNat = (m.get b).toNat + t by omega]) (by omega)
     unfold hs
     rw [if_neg (by omega), if_neg (by rw [hlen]; exact fun h => h o2), if_neg (by rw [hlen]; exact fun h => h o3), hP]
     show ({ m.nxt with me := _ } : Mc) = { m.bare.nxt with me := r.L }
     rw [e1, f1, hsL, hP, ← hfb]
     rfl
   · rw [if_neg (show ¬ hOk m.bare (2 ^ d) i (m.bare.get a) (m.bare.get b) (m.bare.get c) = true from hin)] at hg
     cases hg
     have := hs_no (m := m) (L := m.me) hlen hin
     rw [show ({ m with me := m.me } : Mc) = m from rfl] at this
     rw [this, htr]
     rfl
 by_cases h24 : o = 24 ∨ o = 25
 · unfold doG at hg
   rw [if_neg h17, if_neg h18, if_neg h23, if_pos h24] at hg
   have hex : ex es m o a b c i = (prm es m (m.get b)).map (fun e => m.put a (if o = 24 then pcN e.bs (m.get c).toNat 8 else e.n)) := by
     rcases h24 with rfl | rfl
     · unfold ex
       rw [if_neg (by decide), if_neg (by decide), if_neg (by decide), if_neg (by decide), if_neg (by decide), if_neg (by decide), if_neg (by decide), if_neg (by decide), if_neg (by decide), if_neg (by decide), if_neg (by decide), if_pos rfl]
       rfl
     · unfold ex
       rw [if_neg (by decide), if_neg (by decide), if_neg (by decide), if_neg (by decide), if_neg (by decide), if_neg (by decide), if_neg (by decide), if_neg (by decide), if_neg (by decide), if_neg (by decide), if_neg (by decide), if_neg (by decide), if_pos rfl]
       rfl
   rw [hex]
   by_cases hin : m.get b + 4 ≤ (2 ^ d : Nat)
   · rw [if_pos (show m.bare.get b + 4 ≤ (2 ^ d : Nat) from hin), Option.bind_eq_some_iff] at hg
     obtain ⟨q, h1, h2⟩ := hg
     rw [Option.bind_eq_some_iff] at h2
     obtain ⟨q2, h3, h4⟩ := h2
     cases h4
     obtain ⟨-, f1, -, f2, f3⟩ := getN_W (vs := q.1) (s' := q.2) h1
     obtain ⟨e, c1, c2, -, c4, -, -, c7⟩ := pm_W (bs := q2.1) (s' := q2.2) h3
     have hb0 := (hU b).1
     have hfm : fmL (fun t => q.1.getD t 0) = fmL (m.wds (m.get b).toNat) := fmL_congr (fun t ht => by
       rw [f3 t ht, hsL]
       show m.me.getD (m.get b + t).toNat 0 = m.me.getD ((m.get b).toNat + t) 0
       rw [show (m.get b + (t : Int)).toNat = (m.get b).toNat + t by omega])
     have hprm : prm es m (m.get b) = some e := by
       unfold prm
       rw [if_pos (by rw [hlen]; exact hin), ← hfm]
       exact c1
     rw [hprm]
     show m.put a _ = { m.bare.put a _ with me := q2.2.L }
     rw [c4, f1, hsL, c2, hes e c7]
     rfl
   · rw [if_neg (show ¬ m.bare.get b + 4 ≤ (2 ^ d : Nat) from hin)] at hg
     cases hg
     have hprm : prm es m (m.get b) = none := by
       unfold prm
       rw [if_neg (by rw [hlen]; exact hin)]
     rw [hprm, htr]
     rfl
 · unfold doG at hg
   rw [if_neg h17, if_neg h18, if_neg h23, if_neg h24] at hg
   cases hg
   have h1 := ex_oth (m := m.bare) (o := o) (i := i) (a := a) (b := b) (c := c) h17 h18 h23 (fun e => h24 (.inl e)) (fun e => h24 (.inr e)) m.me
   rw [show ({ m.bare with me := m.me } : Mc) = m from rfl] at h1
   rw [ex_es (fun e => h24 (.inl e)) (fun e => h24 (.inr e)), h1, hsL]
   cases ex [] m.bare o a b c i with
   | none => rfl
   | some m' => rfl
theorem stG_tick (hes : ∀ e ∈ es, e.n = e.bs.length) (hlen : m.me.length = 2 ^ d) (hU : ∀ k, U64 (m.get k)) (hst : m.st = 0) (hg : stG (hW d es) (2 ^ d) m.bare ⟨m.me, [], []⟩ = some (m1, r)) : tick es m = { m1 with me := r.L } := by
 unfold stG at hg
 rw [if_pos (show m.bare.st = 0 from hst)] at hg
 unfold tick stp
 by_cases hin : m.pc < (2 ^ d : Nat)
 · rw [if_pos (show m.bare.pc < (2 ^ d : Nat) from hin), Option.bind_eq_some_iff] at hg
   rw [if_pos (by rw [hlen]; exact hin)]
   obtain ⟨q, h1, h2⟩ := hg
   obtain ⟨-, e1, -, e2⟩ := gt_T (v := q.1) (s' := q.2) h1
   replace e2 : q.1 = m.me.getD m.pc.toNat 0 := e2
   rw [← e2]
   by_cases hk : dOk q.1 = true
   · rw [if_pos hk] at h2 ⊢
     exact doG_ex hes hlen hU e1 h2
   · rw [if_neg hk] at h2 ⊢
     cases h2
     rw [e1]
     rfl
 · rw [if_neg (show ¬ m.bare.pc < (2 ^ d : Nat) from hin)] at hg
   rw [if_neg (by rw [hlen]; exact hin)]
   cases hg
   rfl
theorem stG_len (hU : ∀ k, U64 (m.get k)) {L : List Int} (hL : L.length = 2 ^ d) (hd : d ≤ 12) (hpc : 0 ≤ m.pc) (hg : stG (hW d es) (2 ^ d) m ⟨L, [], []⟩ = some (m1, r)) : r.L.length = 2 ^ d := by
 have hz : ∀ T : List Acc, ∃ l : List Am, l.map Am.acc = T := fun T => ⟨T.map (fun a => ⟨a.ad, a.va, none, 0, 0, a.pa⟩), by rw [List.map_map]; exact List.map_id'' (fun a => rfl) T⟩
 obtain ⟨l, hl⟩ := hz r.T
 obtain ⟨t', -, h2, -⟩ := sim_stG hd hL hU hpc hl hg
 exact h2.len
theorem chk_made {ts : List Am} {B : List Int} (hmM : mayM m = true) (hok : m.ok) (hes : ∀ e ∈ es, e.n = e.bs.length) (h0 : mk0 es m = some (m1, r)) (hts : ts.map Am.acc = r.T) : chkM B (mkP m r) ts = if coR m = B then some (coR (rO es m 1).1) else none := by
 have hmM' := hmM
 unfold mayM at hmM'
 rw [Bool.and_eq_true] at hmM'
 obtain ⟨d, hd, hlen⟩ := szB_p2 hmM'.1
 have hst2 : m.st ≤ 2 := of_decide_eq_true hmM'.2
 have hlg : Nat.log2 m.me.length = d := by rw [hlen]; exact Nat.log2_two_pow
 unfold mk0 at h0
 rw [hlg, hlen] at h0
 have hrO : (rO es m 1).1 = { m1 with me := r.L } := by
   unfold rO
   rw [if_neg (by rw [hmM]; simp), if_neg (by decide)]
   show (rn es 1 m).1 = _
   unfold rn
   by_cases hst : m.st = 0
   · rw [if_pos hst]
     exact stG_tick hes hlen hok.rg hst h0
   · rw [if_neg hst]
     unfold stG at h0
     rw [if_neg (show ¬ m.bare.st = 0 from hst)] at h0
     cases h0
     rfl
 have hrl := stG_len (m := m.bare) hok.rg hlen hd hok.pc.1 h0
 obtain ⟨t', h1, h2, h3⟩ := sim_stG (m := m.bare) (l := ts) hd hlen hok.rg hok.pc.1 hts h0
 have htl : t'.l = [] := by
   have := h2.l
   have h4 : t'.l.map Am.acc = [] := List.append_cancel_left (this.trans (List.append_nil _).symm)
   exact List.map_eq_nil_iff.1 h4
 have hcoR : ∀ k : Mc, k.me.length = 2 ^ d → coR k = cmR k.pc k.rg k.st (d : Nat) (rW k.me) := fun k hk => by
   unfold coR cmR mayM
   rw [hk, szB_two hd, Nat.log2_two_pow]
   by_cases hs : k.st ≤ 2
   · rw [if_pos (by simpa using hs), if_pos (show cOK k.st (d : Nat) from ⟨by omega, by omega, hs⟩)]
   · rw [if_neg (by simpa using hs), if_neg (fun h => hs h.2.2)]
 have htell : tell d (mkP m r) ts = some (coR (rO es m 1).1) := by
   unfold tell
   have e : stG (hM d (mkP m r).pr) (2 ^ d) (cfg (mkP m r)) ⟨ts, (mkP m r).rt, false⟩ = some (m1, t') := h1
   rw [e]
   show finM d (mkP m r).pr (m1, t') = _
   unfold finM
   rw [if_pos ⟨htl, h3⟩, hrO, hcoR _ (by exact hrl)]
   show some (cmR m1.pc m1.rg m1.st (d : Nat) t'.rt) = _
   rw [h2.rt]
 unfold chkM
 have hde : (mkP m r).de = (d : Nat) := by unfold mkP; rw [hlg]
 rw [hde, Int.toNat_natCast, htell]
 have hc : cmR (mkP m r).pc (mkP m r).rg (mkP m r).st (d : Nat) (mkP m r).rt = coR m := (hcoR m hlen).symm
 rw [hc]
 have he : cmE (mkP m r).st (d : Nat) = 0 := if_pos ⟨by omega, by omega, hst2⟩
 by_cases hB : coR m = B
 · rw [if_pos ⟨he, hB⟩, if_pos hB]
 · rw [if_neg (fun h => hB h.2), if_neg hB]
end
end Go.Proofs.YtagebcbnenehfaaGreat
