/- Ko0, Kr0, QVy, QWc, Ks0, Ko1, Ko2. -/
import Derived.Test.YtagebcbnenehfaaGreatX33
namespace Go.Proofs.YtagebcbnenehfaaGreat
open Go.RowKit
set_option maxRecDepth 100000
set_option linter.unusedVariables false
set_option linter.unusedSimpArgs false
set_option maxHeartbeats 40000000
theorem mcA_reg {m : Mc} {sp : Option Addr} {n cap a : Nat} (h : m.rg.length = 16) (ha : a < 16) : (mcA m sp n cap)[1 + a]? = some (.int .u64 (m.rg.getD a 0)) := by
 unfold mcA mcL
 rw [List.getElem?_toArray, show 1 + a = a + 1 by omega, List.getElem?_cons_succ, List.getElem?_append_left (by simp [by64, h]; exact ha)]
 unfold by64
 rw [List.getElem?_map, List.getElem?_eq_getElem (by omega), List.getD_eq_getElem?_getD, List.getElem?_eq_getElem (by omega)]
 rfl
theorem mcA_set {m : Mc} {sp : Option Addr} {n cap a : Nat} (h : m.rg.length = 16) (ha : a < 16) (v : Int) : (mcA m sp n cap).setIfInBounds (1 + a) (.int .u64 v) = mcA { m with rg := m.rg.set a v } sp n cap := by
 unfold mcA mcL
 rw [List.setIfInBounds_toArray, show 1 + a = a + 1 by omega, List.set_cons_succ, List.set_append_left _ _ (by simp [by64, h]; exact ha)]
 unfold by64
 rw [← List.map_set]
theorem mv_fin {FG FrS FP : Nat} {S : Type} {H : Hd S} {I : (Nat → Prop) → S → World → Prop} {B0 : Nat} {ptr : Value} {PV : List PanicEntry} {F : Nat → Prop} {s : S} {w V : World} {g5 j : Nat} (M : Met FG FrS FP H I B0 ptr PV) (hI : I F s w) (hF : F g5) (hg5 : B0 ≤ g5) (b0 : Below w.heap.size w V) (v : Value) :
   Below B0 w (V.setCell ⟨g5, j, none⟩ v) ∧ Kp (fun b => F b ∧ b ≠ g5) w (V.setCell ⟨g5, j, none⟩ v) ∧ I F s (V.setCell ⟨g5, j, none⟩ v) := by
 have hFw := M.own F s w hI
 have hB0 := M.base F s w hI
 refine ⟨(b0.mono hB0).setCell hg5 _, fun b hb => (Below.heap_setCell _ _ _ _ hb.2).trans (b0.block b (hFw b hb.1)), ?_⟩
 refine M.keep _ _ s _ _ hI ((b0.mono hB0).setCell hg5 _) (fun b h1 h2 => (Below.heap_setCell _ _ _ _ (fun e => h2 (by have e' : b = g5 := e; rw [e']; exact hF))).trans (b0.block b h1)) (fun b h => .inl h) (fun b h => ?_)
 have := hFw b h
 have := b0.size
 simp
 omega
theorem Kp.cell {F : Nat → Prop} {u u' : World} {b off : Nat} {v : Value} (h : Kp F u u') (hb : F b) (hc : u.cell? ⟨b, off, none⟩ = some v) : u'.cell? ⟨b, off, none⟩ = some v := (World.cell?_of_block (h b hb)).trans hc
theorem Met.drw {FG FrS FP : Nat} {S : Type} {H : Hd S} {I : (Nat → Prop) → S → World → Prop} {B0 : Nat} {ptr : Value} {PV : List PanicEntry} {F : Nat → Prop} {s : S} {w : World} (M : Met FG FrS FP H I B0 ptr PV) (hI : I F s w) : I F s w.drew :=
 M.more hI ((Below.refl _ w).drew) (fun b h => .inl h) (fun b h => M.own _ _ _ hI b h)
def pfL (p : Pf) (v1 v2 : Value) : List Value := .int .u64 p.pc :: (by64 p.rg ++ (.int .u8 p.st :: .int .i64 p.de :: (by8 p.rt ++ [v1, v2])))
theorem pfL_len {p : Pf} (h : p.rg.length = 16) (h2 : p.rt.length = 32) (v1 v2 : Value) : (pfL p v1 v2).length = 53 := by simp [pfL, by64, by8_len, h, h2]
theorem pfL_at {p : Pf} (h : p.rg.length = 16) (v1 v2 : Value) (k : Nat) : (pfL p v1 v2).toArray[17 + k]? = (Value.int .u8 p.st :: .int .i64 p.de :: (by8 p.rt ++ [v1, v2]))[k]? := by
 rw [List.getElem?_toArray, pfL, show 17 + k = (16 + k) + 1 by omega, List.getElem?_cons_succ, List.getElem?_append_right (by simp [by64, h]), show (by64 p.rg).length = 16 by simp [by64, h]]
 congr 1
 omega
theorem pfL_end {p : Pf} (h : p.rg.length = 16) (h2 : p.rt.length = 32) (v1 v2 : Value) (k : Nat) : (pfL p v1 v2).toArray[51 + k]? = [v1, v2][k]? := by
 rw [show 51 + k = 17 + (34 + k) by omega, pfL_at h, show 34 + k = (32 + k) + 1 + 1 by omega, List.getElem?_cons_succ, List.getElem?_cons_succ, List.getElem?_append_right (by rw [by8_len, h2]; omega), by8_len, h2]
 congr 1
 omega
theorem pfL_rg {w : World} {g ty : Nat} {p : Pf} {v1 v2 : Value} (h : Arr w g ty (pfL p v1 v2).toArray) : w.rangeAt g 1 (by64 p.rg) := fun j u hu => by
 rw [h.cell, List.getElem?_toArray, pfL, show 1 + j = j + 1 by omega, List.getElem?_cons_succ, List.getElem?_append_left (List.getElem?_eq_some_iff.1 hu).1]
 exact hu
theorem pfL_rt {w : World} {g ty : Nat} {p : Pf} {v1 v2 : Value} (h16 : p.rg.length = 16) (h : Arr w g ty (pfL p v1 v2).toArray) : w.rangeAt g 19 (by8 p.rt) := fun j u hu => by
 rw [h.cell, show 19 + j = 17 + (2 + j) by omega, pfL_at h16, show 2 + j = j + 1 + 1 by omega, List.getElem?_cons_succ, List.getElem?_cons_succ, List.getElem?_append_left (List.getElem?_eq_some_iff.1 hu).1]
 exact hu
theorem mcA_mem {m : Mc} (h : m.rg.length = 16) (sp : Option Addr) (n cap : Nat) : (mcA m none 0 0).setIfInBounds 18 (.slice sp n cap) = mcA m sp n cap := by
 unfold mcA mcL
 rw [List.setIfInBounds_toArray, List.set_cons_succ, List.set_append_right _ _ (by simp [by64, h]), show (by64 m.rg).length = 16 by simp [by64, h]]
 rfl
theorem built27 (pc : Int) (rg : List Int) (st : Int) (hr : rg.length = 16) : Tryz.prog.built 27 [(0, .int .u64 pc), (1, .agg (by64 rg).toArray), (2, .int .u8 st)] = some (mcA ⟨pc, rg, st, []⟩ none 0 0) :=
 list16 (P := fun rg => Tryz.prog.built 27 [(0, .int .u64 pc), (1, .agg (by64 rg).toArray), (2, .int .u8 st)] = some (mcA ⟨pc, rg, st, []⟩ none 0 0)) (fun x0 x1 x2 x3 x4 x5 x6 x7 x8 x9 x10 x11 x12 x13 x14 x15 => by kernel_rfl) rg hr
theorem cell_pc (m : Mc) (sp : Option Addr) (n cap : Nat) : (mcA m sp n cap)[0]? = some (.int .u64 m.pc) := rfl
theorem mcA_pc {m : Mc} (sp : Option Addr) (n cap : Nat) (x : Int) : (mcA m sp n cap).setIfInBounds 0 (.int .u64 x) = mcA { m with pc := x } sp n cap := by
 unfold mcA mcL
 rw [List.setIfInBounds_toArray]
 rfl
theorem run23_any {N : Nat} {es : List En} (m : Mc) (sp : Option Addr) (n cap : Nat) (sq : Option Addr) (nk ck : Nat) (x : Int) (w : World) (hok : m.ok) (hM : MS N w sp n cap m.me) (hS : ES N w sq nk ck es) (hx : -9223372036854775808 ≤ x ∧ x ≤ 9223372036854775807) :
   Calls Tryz.prog 137 #[.agg (mcA m sp n cap), .slice sq nk ck, .int .i64 x] w (RnPost es m x w) := by
 by_cases h : mayM m = false ∨ x < 0 ∨ 4194304 < x
 · exact run_no m sp n cap sq nk ck x w hok hM hS hx h
 · exact run_ok m sp n cap sq nk ck x w hok hM hS hx (by cases hm : mayM m with | true => rfl | false => exact absurd (.inl hm) h) (F := x.toNat) (by omega) (by omega)
def SpPost (es : List En) (m : Mc) (w : World) (e : Ending) (w' : World) : Prop :=
 ∃ sp n cap, e = .returned (.tuple #[.agg (mcA (rO es m 1).1 sp n cap), .int .i64 (rO es m 1).2.2]) ∧ (rO es m 1).1.ok ∧ MS w'.heap.size w' sp n cap (rO es m 1).1.me ∧ Below w.heap.size w w' ∧ (0 < n → ∃ gm, sp = some ⟨gm, 0, none⟩ ∧ w.heap.size ≤ gm ∧ MW w' gm (rO es m 1).1.me)
theorem step17_any {N : Nat} {es : List En} (m : Mc) (sp : Option Addr) (n cap : Nat) (sq : Option Addr) (nk ck : Nat) (w : World) (hok : m.ok) (hM : MS N w sp n cap m.me) (hS : ES N w sq nk ck es) :
   Calls Tryz.prog 79 #[.agg (mcA m sp n cap), .slice sq nk ck] w (SpPost es m w) := by
 have A0 := (Arr.new w 27 (mcA m sp n cap)).alloc (.cells (mcA zM none 0 0) 27)
 have A1 := Arr.new (w.alloc (.cells (mcA m sp n cap) 27)) 27 (mcA zM none 0 0)
 simp only [World.size_alloc] at A1
 have hs0 := mcA_size hok.r16 sp n cap
 have hsz := mcA_size zM_ok.r16 none 0 0
 have hb0 := (alloc_bel' w (.cells (mcA m sp n cap) 27)).alloc (by simp) (.cells (mcA zM none 0 0) 27)
 have hrun : Calls Tryz.prog 137 #[.agg (mcA m sp n cap), .slice sq nk ck, .int .i64 1] ((w.alloc (.cells (mcA m sp n cap) 27)).alloc (.cells (mcA zM none 0 0) 27)) (RnPost es m 1 _) := run23_any m sp n cap sq nk ck 1 _ hok (hM.here.below hb0) (hS.here.below hb0) (by omega)
 unfold SpPost
 obtain ⟨R0, hR0⟩ : ∃ R, R = rO es m 1 := ⟨_, rfl⟩
 unfold RnPost at hrun
 rw [← hR0] at hrun ⊢
 clear hR0
 generalize mcA m sp n cap = C at *
 go_enter Tryz.func79, Tryz.ntmps79
 go_wp2_with (first
   | (refine ld45 (by rfl) (.tmp 2) (by rfl) w.heap.size (by rfl) C hs0 A0 ?_)
   | (go_at_call 137; go_must (refine hrun.mono ?_; rintro e w1 ⟨sp1, n1, cap1, rfl, hok1, hM1, hb1, hg1⟩; have hs1 := mcA_size hok1.r16 sp1 n1 cap1; have ho1 := mcA_one R0.1 sp1 n1 cap1; have A11 := A1.below hb1 (by simp); have B1 := hb0.trans (hb1.mono (by simp; omega)); have E1 := Arr.new w1 27 (mcA R0.1 sp1 n1 cap1)))
   | (refine st45n (by rfl) (.tmp 6) (.tmp 13) (by rfl) w1 w1.heap.size rfl (by rfl) (mcA R0.1 sp1 n1 cap1) (by rfl) (by rfl) hs1 ho1 ?_)
   | (refine ld45 (by rfl) (.tmp 6) (by rfl) w1.heap.size (by rfl) (mcA R0.1 sp1 n1 cap1) hs1 E1 ?_)
   | (refine st45 (by rfl) (.tmp 4) (.tmp 16) (by rfl) (w.heap.size + 1) (mcA R0.1 sp1 n1 cap1) (by rfl) (by rfl) hs1 ho1 _ hsz (A11.alloc _) ?_))
 have hbf : Below w1.heap.size w1 (w1.alloc (.cells (mcA R0.1 sp1 n1 cap1) 27)) := alloc_bel' _ _
 have hBf := below_setRow (B1.alloc B1.size (.cells (mcA R0.1 sp1 n1 cap1) 27)) (show w.heap.size ≤ w.heap.size + 1 by omega) (mcA R0.1 sp1 n1 cap1)
 refine bodyPost_ret (v := .tuple #[.agg (mcA R0.1 sp1 n1 cap1), .int .i64 R0.2.2]) (res45b Tryz.results79 rfl rfl hs1 ((A11.alloc _).setRow _)) rfl ⟨sp1, n1, cap1, rfl, hok1, ?_, hBf, fun h0 => ?_⟩
 · refine ⟨hM1.len, hM1.nil, hM1.le, hM1.big, hM1.small, fun h0 => ?_⟩
   obtain ⟨gm, rfl, hgm, hMW⟩ := hg1 h0
   simp only [World.size_alloc] at hgm
   have hMf := (hMW.below hbf hMW.lt).block (setRow_other _ (w.heap.size + 1) gm (mcA R0.1 (some ⟨gm, 0, none⟩) n1 cap1) (by omega))
   exact ⟨gm, 0, rfl, hMf.lt, fun t ht => by rw [Nat.zero_add]; exact hMf.cell (by rw [← hM1.len.out]; exact ht)⟩
 · obtain ⟨gm, rfl, hgm, hMW⟩ := hg1 h0
   simp only [World.size_alloc] at hgm
   exact ⟨gm, rfl, by omega, (hMW.below hbf hMW.lt).block (setRow_other _ _ _ _ (by omega))⟩
theorem szB_two {d : Nat} (h : d ≤ 12) : szB (2 ^ d) = true := by
 unfold szB
 rw [List.any_eq_true]
 exact ⟨d, by simp; omega, by simp⟩
theorem tick_of {m : Mc} {L : List Int} {d : Nat} (hd : d ≤ 12) (hL : L.length = 2 ^ d) (hst : m.st = 0) : (rO [] { m with me := L } 1).1 = (stp [] { m with me := L }).getD { m with me := L, st := 2 } := by
 have hmay : mayM { m with me := L } = true := by
   unfold mayM
   rw [Bool.and_eq_true]
   exact ⟨by show szB L.length = true; rw [hL]; exact szB_two hd, decide_eq_true (by show m.st ≤ 2; omega)⟩
 unfold rO
 rw [if_neg (by rw [hmay]; simp), if_neg (by decide)]
 show (rn [] 1 { m with me := L }).1 = _
 unfold rn
 rw [if_pos hst]
 show (rn [] 0 (tick [] { m with me := L })).1 = _
 rfl
theorem stp_out {m : Mc} {L : List Int} (h : (L.length : Int) ≤ m.pc) : stp [] { m with me := L } = none := by
 unfold stp
 rw [if_neg (by show ¬ m.pc < (L.length : Int); omega)]
theorem stp_bad {m : Mc} {L : List Int} {v : Int} (h : m.pc < (L.length : Int)) (hv : L.getD m.pc.toNat 0 = v) (hd : dOk v = false) : stp [] { m with me := L } = none := by
 unfold stp
 rw [if_pos h]
 show (if dOk (L.getD m.pc.toNat 0) = true then _ else none) = none
 rw [hv, hd, if_neg (by simp)]
theorem stp_in {m : Mc} {L : List Int} {v : Int} (h : m.pc < (L.length : Int)) (hv : L.getD m.pc.toNat 0 = v) (hd : dOk v = true) : stp [] { m with me := L } = ex [] { m with me := L } (dOp v) (dA v).toNat (dB v).toNat (dC v).toNat (dI v) := by
 unfold stp
 rw [if_pos h]
 show (if dOk (L.getD m.pc.toNat 0) = true then ex [] { m with me := L } (dOp (L.getD m.pc.toNat 0)) (dA (L.getD m.pc.toNat 0)).toNat (dB (L.getD m.pc.toNat 0)).toNat (dC (L.getD m.pc.toNat 0)).toNat (dI (L.getD m.pc.toNat 0)) else none) = _
 rw [hv, hd, if_pos rfl]
theorem ex_oth {m : Mc} {o i : Int} {a b c : Nat} (h17 : o ≠ 17) (h18 : o ≠ 18) (h23 : o ≠ 23) (h24 : o ≠ 24) (h25 : o ≠ 25) (L : List Int) : ex [] { m with me := L } o a b c i = (ex [] m o a b c i).map (fun m' => { m' with me := L }) := by
 unfold ex
 simp only [if_neg h17, if_neg h18, if_neg h23, if_neg h24, if_neg h25]
 split
 · rfl
 split
 · rfl
 split
 · rfl
 split
 · rfl
 split
 · rfl
 split
 · show (if m.get a = 0 then _ else _) = _
   split <;> rfl
 split
 · show (if m.get a = 0 then _ else _) = _
   split <;> rfl
 split
 · rfl
 · show (rk o (m.get b) (m.get c)).map _ = _
   cases rk o (m.get b) (m.get c) <;> rfl
theorem tch_o {m : Mc} {n : Nat} {o i : Int} {a b c : Nat} (h17 : o ≠ 17) (h18 : o ≠ 18) (h23 : o ≠ 23) (h24 : o ≠ 24) (h25 : o ≠ 25) : tch m n o a b c i = ((0, 0), (0, 0)) := by
 have e : nmd m o a b c i = ((0, 0), (0, 0)) := by
   unfold nmd
   rw [if_neg h17, if_neg h18, if_neg h23, if_neg (by intro h; rcases h with h | h; exact h24 h; exact h25 h)]
 unfold tch
 rw [e]
 split <;> rfl
theorem inS_0 (x : Int) (n : Nat) : inS x 0 n = true := decide_eq_true (.inl rfl)
theorem inS_k {x k : Int} {n : Nat} (h : k ≠ 0) : inS x k n = decide (x + k ≤ n) := by
 unfold inS
 rw [decide_eq_decide]
 exact ⟨fun h' => h'.resolve_left h, .inr⟩
theorem tch_17 {m : Mc} {n : Nat} {i : Int} {a b c : Nat} : tch m n 17 a b c i = if addr m b i < n then ((addr m b i, 1), (0, 0)) else ((0, 0), (0, 0)) := by
 have e : nmd m 17 a b c i = ((addr m b i, 1), (0, 0)) := by unfold nmd; rw [if_pos rfl]
 unfold tch
 rw [e]
 simp only [inS_0, inS_k (show (1 : Int) ≠ 0 by decide), and_true, decide_eq_true_eq]
 by_cases h : addr m b i < n
 · rw [if_pos (by omega), if_pos h]
 · rw [if_neg (by omega), if_neg h]
theorem tch_18 {m : Mc} {n : Nat} {i : Int} {a b c : Nat} : tch m n 18 a b c i = if addr m b i < n then ((0, 0), (addr m b i, 1)) else ((0, 0), (0, 0)) := by
 have e : nmd m 18 a b c i = ((0, 0), (addr m b i, 1)) := by unfold nmd; rw [if_neg (by decide), if_pos rfl]
 unfold tch
 rw [e]
 simp only [inS_0, inS_k (show (1 : Int) ≠ 0 by decide), true_and, decide_eq_true_eq]
 by_cases h : addr m b i < n
 · rw [if_pos (by omega), if_pos h]
 · rw [if_neg (by omega), if_neg h]
theorem tch_24 {m : Mc} {n : Nat} {o i : Int} {a b c : Nat} (ho : o = 24 ∨ o = 25) : tch m n o a b c i = if m.get b + 4 ≤ n then ((m.get b, 4), (0, 0)) else ((0, 0), (0, 0)) := by
 have e : nmd m o a b c i = ((m.get b, 4), (0, 0)) := by
   unfold nmd
   rw [if_neg (by omega), if_neg (by omega), if_neg (by omega), if_pos ho]
 unfold tch
 rw [e]
 simp only [inS_0, inS_k (show (4 : Int) ≠ 0 by decide), and_true, decide_eq_true_eq]
theorem tch_23 {m : Mc} {n : Nat} {i : Int} {a b c : Nat} (hc : 0 ≤ m.get c) : tch m n 23 a b c i = if hOk m n i (m.get a) (m.get b) (m.get c) = true then ((m.get b, (m.get c + 7) / 8), (m.get a, 4)) else ((0, 0), (0, 0)) := by
 by_cases h1 : m.get c ≤ 128 ∧ (mkL i).isSome = true
 · have e : nmd m 23 a b c i = ((m.get b, (m.get c + 7) / 8), (m.get a, 4)) := by unfold nmd; rw [if_neg (by decide), if_neg (by decide), if_pos rfl, if_pos h1]
   unfold tch
   rw [e]
   have e2 : hOk m n i (m.get a) (m.get b) (m.get c) = true ↔ (inS (m.get b) ((m.get c + 7) / 8) n = true ∧ inS (m.get a) 4 n = true) := by
     unfold hOk
     rw [inS_k (show (4 : Int) ≠ 0 by decide), decide_eq_true_eq, decide_eq_true_eq]
     unfold inS
     rw [decide_eq_true_eq]
     constructor
     · rintro ⟨-, x2, x3, -⟩
       exact ⟨by omega, x2⟩
     · rintro ⟨x1, x2⟩
       exact ⟨h1.1, x2, by omega, h1.2⟩
   by_cases h2 : hOk m n i (m.get a) (m.get b) (m.get c) = true
   · rw [if_pos (e2.1 h2), if_pos h2]
   · rw [if_neg (fun h => h2 (e2.2 h)), if_neg h2]
 · have e : nmd m 23 a b c i = ((0, 0), (0, 0)) := by unfold nmd; rw [if_neg (by decide), if_neg (by decide), if_pos rfl, if_neg h1]
   have h2 : ¬ hOk m n i (m.get a) (m.get b) (m.get c) = true := by
     unfold hOk
     rw [decide_eq_true_eq]
     rintro ⟨x1, -, -, x4⟩
     exact h1 ⟨x1, x4⟩
   unfold tch
   rw [e, if_neg h2]
   split <;> rfl
theorem move17_ (K : Bool) {S : Type} {H : Hd S} {I : (Nat → Prop) → S → World → Prop} {B0 : Nat} {ad : Addr} {PV : List PanicEntry} {F : Nat → Prop} {s : S} {m : Mc} {sp : Option Addr} {n cap : Nat} {a b c : Nat} {i : Int} {g5 gB k : Nat} {vs : List Int} {q : Int × Int} (w : World)
   (M : Met (kfg K) (kfs K) (kfp K) H I B0 (.pointer (some ad)) PV) (hI : I F s w) (hF : F g5) (hg5 : B0 ≤ g5) (hA : Arr w g5 27 (mcA m sp n cap)) (h16 : m.rg.length = 16) (hU : ∀ k, U64 (m.rg.getD k 0)) (ha : a < 16) (hb : b < 16) (hc : c < 16) (hM : MW w gB vs) (hk : 0 < vs.length) (hk2 : k = vs.length) (hk3 : vs.length ≤ 4096) :
   Calls Tryz.prog 80 #[.agg (cdA 17 a b c i), .pointer (some ⟨g5, 1, none⟩), .slice (some ⟨gB, 0, none⟩) k k, sp2 q, .iface (kty K) (.pointer (some ad))] w fun e w' => e = .returned (.tuple #[]) ∧ Arr w' g5 27 (mcA { m with rg := m.rg.set a (vs.getD 0 0) } sp n cap) ∧ Below B0 w w' ∧ Kp (fun b => F b ∧ b ≠ g5) w w' ∧ I F s w' := by
 cases K
 all_goals
   dsimp only [kty, kfg, kfs, kfp] at *
   have hB0 := M.base F s w hI
   have hFw := M.own F s w hI
   have hlt := hA.lt
   have haI : (a : Int) < 16 := by omega
   have hcI : (c : Int) < 16 := by omega
   have b0 : Below w.heap.size w ((w.alloc (.cells #[.int .u8 17, .int .u8 a, .int .u8 b, .int .u8 c, .int .u32 i] 88)).alloc (.cells #[.int .u64 q.1, .int .u64 q.2] 156)) := (alloc_bel' w _).alloc (by simp) _
   have hA0 := hA.below b0 hlt
   have ra := (hA0.cell (1 + a)).trans (mcA_reg h16 ha)
   have rc := (hA0.cell (1 + c)).trans (mcA_reg h16 hc)
   have fa := hA0.frozen (1 + a)
   have hv := (hM.below b0 hM.lt).cell (t := 0) hk
   have hkI : (0 : Int) < k := by omega
   have hst := hA0.set (1 + a) (.int .u64 (vs.getD 0 0))
   rw [mcA_set h16 ha] at hst
   generalize vs.getD 0 0 = v at *
   generalize m.rg.getD a 0 = xa at *
   have n1 : ¬ g5 = w.heap.size := by omega
   have n2 : ¬ g5 = w.heap.size + 1 := by omega
   clear hM hA hA0 hk hk2 rc
   unfold cdA sp2
   go_enter Tryz.func80, Tryz.ntmps80
   go_upto_region 3 with fail
   generalize hV : ((w.alloc (.cells #[.int .u8 17, .int .u8 a, .int .u8 b, .int .u8 c, .int .u32 i] 88)).alloc (.cells #[.int .u64 q.1, .int .u64 q.2] 156)) = V at *
   have z1 : V.cell? ⟨w.heap.size, 1, none⟩ = some (.int .u8 (a : Int)) := by rw [← hV]; exact ((Arr.new w 88 #[.int .u8 17, .int .u8 (a : Int), .int .u8 b, .int .u8 c, .int .u32 i]).alloc _).cell 1
   go_region
   go_wp2_with fail
   obtain ⟨f1, f2, f3⟩ := mv_fin (j := 1 + a) M hI hF hg5 b0 (.int .u64 v)
   exact ⟨rfl, _, results_none Tryz.results80 _ _ _, rfl, hst.drew, f1.drew, f2, M.drw f3⟩
theorem nahS (K : Bool) (ad : Addr) (u : World) : (nilAhead 417 (kty K) (.pointer (some ad)) "proctor/onestep.set").run Tryz.prog u = .ok (some false) u := by cases K <;> kernel_rfl
theorem move18n_ (K : Bool) {S : Type} {H : Hd S} {I : (Nat → Prop) → S → World → Prop} {B0 : Nat} {ad : Addr} {PV : List PanicEntry} {F : Nat → Prop} {s : S} {m : Mc} {sp : Option Addr} {n cap : Nat} {a b c : Nat} {i : Int} {g5 gB k : Nat} {vs : List Int} {q : Int × Int} (w : World)
   (M : Met (kfg K) (kfs K) (kfp K) H I B0 (.pointer (some ad)) PV) (hI : I F s w) (hF : F g5) (hg5 : B0 ≤ g5) (hA : Arr w g5 27 (mcA m sp n cap)) (h16 : m.rg.length = 16) (hU : ∀ k, U64 (m.rg.getD k 0)) (ha : a < 16) (hb : b < 16) (hc : c < 16) (hq : U64 q.1) (hr : Hid (H.rk s < 1000)) (hg : H.st q.1 (m.get a) s = none) :
   Calls Tryz.prog 80 #[.agg (cdA 18 a b c i), .pointer (some ⟨g5, 1, none⟩), .slice (some ⟨gB, 0, none⟩) k k, sp2 q, .iface (kty K) (.pointer (some ad))] w fun e w' => e = .panicked PV ∧ Below B0 w w' ∧ Kp F w w' := by
 have hna := nahS K ad
 cases K
 all_goals
   dsimp only [kty, kfg, kfs, kfp] at *
   have hB0 := M.base F s w hI
   have hFw := M.own F s w hI
   have hlt := hA.lt
   have haI : (a : Int) < 16 := by omega
   have hcI : (c : Int) < 16 := by omega
   have b0 : Below w.heap.size w ((w.alloc (.cells #[.int .u8 18, .int .u8 a, .int .u8 b, .int .u8 c, .int .u32 i] 88)).alloc (.cells #[.int .u64 q.1, .int .u64 q.2] 156)) := (alloc_bel' w _).alloc (by simp) _
   have hA0 := hA.below b0 hlt
   have ra := (hA0.cell (1 + a)).trans (mcA_reg h16 ha)
   have rc := (hA0.cell (1 + c)).trans (mcA_reg h16 hc)
   have fa := hA0.frozen (1 + a)
   have hUa := hU a
   have z0 : (((w.alloc (.cells #[.int .u8 18, .int .u8 a, .int .u8 b, .int .u8 c, .int .u32 i] 88)).alloc (.cells #[.int .u64 q.1, .int .u64 q.2] 156))).cell? ⟨w.heap.size + 1, 0, none⟩ = some (.int .u64 q.1) := by
     have h := (Arr.new (w.alloc (.cells #[.int .u8 18, .int .u8 (a : Int), .int .u8 b, .int .u8 c, .int .u32 i] 88)) 156 #[.int .u64 q.1, .int .u64 q.2]).cell 0
     simp only [World.size_alloc] at h
     exact h
   have z1 : (((w.alloc (.cells #[.int .u8 18, .int .u8 a, .int .u8 b, .int .u8 c, .int .u32 i] 88)).alloc (.cells #[.int .u64 q.1, .int .u64 q.2] 156))).cell? ⟨w.heap.size, 1, none⟩ = some (.int .u8 (a : Int)) := ((Arr.new w 88 #[.int .u8 18, .int .u8 (a : Int), .int .u8 b, .int .u8 c, .int .u32 i]).alloc _).cell 1
   have hI0 : I (fun b => F b ∨ (w.heap.size ≤ b ∧ b < w.heap.size + 2)) s (((w.alloc (.cells #[.int .u8 18, .int .u8 a, .int .u8 b, .int .u8 c, .int .u32 i] 88)).alloc (.cells #[.int .u64 q.1, .int .u64 q.2] 156))) := M.more hI b0 (by rintro b (h | h); exact .inl h; exact .inr h.1) (by rintro b (h | h); have := hFw b h; simp; omega; simp; omega)
   change H.st q.1 (m.rg.getD a 0) s = _ at hg
   generalize m.rg.getD a 0 = xa at *
   unfold cdA sp2
   go_enter Tryz.func80, Tryz.ntmps80
   go_upto_region 5 with fail
   generalize hV : ((w.alloc (.cells #[.int .u8 18, .int .u8 a, .int .u8 b, .int .u8 c, .int .u32 i] 88)).alloc (.cells #[.int .u64 q.1, .int .u64 q.2] 156)) = V at *
   refine rgn (fun u => u.cell? ⟨w.heap.size + 1, 0, none⟩ = some (.int .u64 q.1) ∧ u.cell? ⟨w.heap.size, 1, none⟩ = some (.int .u8 (a : Int)) ∧ u.cell? ⟨g5, 1 + a, none⟩ = some (.int .u64 xa)) (⟨z0, z1, ra⟩) (fun hHeld => ?_)
   refine tk 0 rfl ?_
   refine tk 1 rfl ?_
   refine tk3 2 rfl ?_
   refine tk 3 rfl ?_
   refine tk 4 rfl ?_
   refine tk3 5 rfl ?_
   refine tk 6 rfl ?_
   refine tk 7 rfl ?_
   refine tk3 8 rfl ?_
   refine tk 9 rfl ?_
   refine tk 10 rfl ?_
   refine tk 11 rfl ?_
   refine rd 12 rfl (fun K hK => ?_)
   go_simp
   go_invoke
   go_simp
   refine (M.set_n (M.drw hI0) hq hUa hr.out hg).mono ?_; rintro e w2 ⟨rfl, h1, h2⟩
   exact ⟨rfl, rfl, (b0.mono hB0).trans ((Below.refl _ V).drew.trans h1), (Kp.of_below b0 hFw).trans (fun b hb => h2 b (.inl hb))⟩
theorem move18s_ (K : Bool) {S : Type} {H : Hd S} {I : (Nat → Prop) → S → World → Prop} {B0 : Nat} {ad : Addr} {PV : List PanicEntry} {F : Nat → Prop} {s : S} {m : Mc} {sp : Option Addr} {n cap : Nat} {a b c : Nat} {i : Int} {g5 gB k : Nat} {vs : List Int} {q : Int × Int} (w : World)
   (M : Met (kfg K) (kfs K) (kfp K) H I B0 (.pointer (some ad)) PV) (hI : I F s w) (hF : F g5) (hg5 : B0 ≤ g5) (hA : Arr w g5 27 (mcA m sp n cap)) (h16 : m.rg.length = 16) (hU : ∀ k, U64 (m.rg.getD k 0)) (ha : a < 16) (hb : b < 16) (hc : c < 16) {s1 : S} (hq : U64 q.1) (hr : Hid (H.rk s < 1000)) (hg : H.st q.1 (m.get a) s = some s1) :
   Calls Tryz.prog 80 #[.agg (cdA 18 a b c i), .pointer (some ⟨g5, 1, none⟩), .slice (some ⟨gB, 0, none⟩) k k, sp2 q, .iface (kty K) (.pointer (some ad))] w fun e w' => e = .returned (.tuple #[]) ∧ Arr w' g5 27 (mcA m sp n cap) ∧ Below B0 w w' ∧ Kp F w w' ∧ I F s1 w' := by
 have hna := nahS K ad
 cases K
 all_goals
   dsimp only [kty, kfg, kfs, kfp] at *
   have hB0 := M.base F s w hI
   have hFw := M.own F s w hI
   have hlt := hA.lt
   have haI : (a : Int) < 16 := by omega
   have hcI : (c : Int) < 16 := by omega
   have b0 : Below w.heap.size w ((w.alloc (.cells #[.int .u8 18, .int .u8 a, .int .u8 b, .int .u8 c, .int .u32 i] 88)).alloc (.cells #[.int .u64 q.1, .int .u64 q.2] 156)) := (alloc_bel' w _).alloc (by simp) _
   have hA0 := hA.below b0 hlt
   have ra := (hA0.cell (1 + a)).trans (mcA_reg h16 ha)
   have rc := (hA0.cell (1 + c)).trans (mcA_reg h16 hc)
   have fa := hA0.frozen (1 + a)
   have hUa := hU a
   have z0 : (((w.alloc (.cells #[.int .u8 18, .int .u8 a, .int .u8 b, .int .u8 c, .int .u32 i] 88)).alloc (.cells #[.int .u64 q.1, .int .u64 q.2] 156))).cell? ⟨w.heap.size + 1, 0, none⟩ = some (.int .u64 q.1) := by
     have h := (Arr.new (w.alloc (.cells #[.int .u8 18, .int .u8 (a : Int), .int .u8 b, .int .u8 c, .int .u32 i] 88)) 156 #[.int .u64 q.1, .int .u64 q.2]).cell 0
     simp only [World.size_alloc] at h
     exact h
   have z1 : (((w.alloc (.cells #[.int .u8 18, .int .u8 a, .int .u8 b, .int .u8 c, .int .u32 i] 88)).alloc (.cells #[.int .u64 q.1, .int .u64 q.2] 156))).cell? ⟨w.heap.size, 1, none⟩ = some (.int .u8 (a : Int)) := ((Arr.new w 88 #[.int .u8 18, .int .u8 (a : Int), .int .u8 b, .int .u8 c, .int .u32 i]).alloc _).cell 1
   have hI0 : I (fun b => F b ∨ (w.heap.size ≤ b ∧ b < w.heap.size + 2)) s (((w.alloc (.cells #[.int .u8 18, .int .u8 a, .int .u8 b, .int .u8 c, .int .u32 i] 88)).alloc (.cells #[.int .u64 q.1, .int .u64 q.2] 156))) := M.more hI b0 (by rintro b (h | h); exact .inl h; exact .inr h.1) (by rintro b (h | h); have := hFw b h; simp; omega; simp; omega)
   change H.st q.1 (m.rg.getD a 0) s = _ at hg
   generalize m.rg.getD a 0 = xa at *
   unfold cdA sp2
   go_enter Tryz.func80, Tryz.ntmps80
   go_upto_region 5 with fail
   generalize hV : ((w.alloc (.cells #[.int .u8 18, .int .u8 a, .int .u8 b, .int .u8 c, .int .u32 i] 88)).alloc (.cells #[.int .u64 q.1, .int .u64 q.2] 156)) = V at *
   refine rgn (fun u => u.cell? ⟨w.heap.size + 1, 0, none⟩ = some (.int .u64 q.1) ∧ u.cell? ⟨w.heap.size, 1, none⟩ = some (.int .u8 (a : Int)) ∧ u.cell? ⟨g5, 1 + a, none⟩ = some (.int .u64 xa)) (⟨z0, z1, ra⟩) (fun hHeld => ?_)
   refine tk 0 rfl ?_
   refine tk 1 rfl ?_
   refine tk3 2 rfl ?_
   refine tk 3 rfl ?_
   refine tk 4 rfl ?_
   refine tk3 5 rfl ?_
   refine tk 6 rfl ?_
   refine tk 7 rfl ?_
   refine tk3 8 rfl ?_
   refine tk 9 rfl ?_
   refine tk 10 rfl ?_
   refine tk 11 rfl ?_
   refine rd 12 rfl (fun K hK => ?_)
   go_simp
   go_invoke
   go_simp
   refine (M.set_s (M.drw hI0) hq hUa hr.out hg).mono ?_; rintro e w2 ⟨rfl, h1, h2, h3⟩
   go_wp2_with fail
   refine ko hK ⟨Kp.cell (u := V.drew) h2 (.inr ⟨by omega, by omega⟩) z0, Kp.cell (u := V.drew) h2 (.inr ⟨by omega, by omega⟩) z1, Kp.cell (u := V.drew) h2 (.inl hF) ra⟩ (fun hHeld => ?_)
   clear hK K
   refine dn ?_
   go_wp2_with fail
   exact ⟨rfl, _, results_none Tryz.results80 _ _ _, rfl, (hA0.drew).kp h2 (.inl hF), (b0.mono hB0).trans ((Below.refl _ V).drew.trans h1), (Kp.of_below b0 hFw).trans (fun b hb => h2 b (.inl hb)), M.keep _ _ s1 _ _ h3 (Below.refl _ _) (fun b _ _ => rfl) (fun b h => .inl (.inl h)) (fun b h => M.own _ _ _ h3 b (.inl h))⟩
end Go.Proofs.YtagebcbnenehfaaGreat
