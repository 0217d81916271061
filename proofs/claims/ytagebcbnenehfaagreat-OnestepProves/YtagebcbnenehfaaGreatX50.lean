/- Oi. -/
import Derived.Test.YtagebcbnenehfaaGreatX46
import Derived.Test.YtagebcbnenehfaaGreatX49
namespace Go.Proofs.YtagebcbnenehfaaGreat
open Go.RowKit
set_option maxRecDepth 100000
set_option linter.unusedVariables false
set_option linter.unusedSimpArgs false
set_option maxHeartbeats 40000000
theorem st34n {ops : Array Oper} {rest : List Oper} {o : Oper} {a : Act} {Q : Exit → Act → World → Prop} (hgd : o.guard = none) (x y : Operand) (ho : o.op = .store 34 x y) (W : World) (g : Nat) (hgW : W.heap.size = g) {z : Array Value} (hz : z.size = 53)
   (C : Array Value) (hx : a.eval x = .pointer (some ⟨g, 0, none⟩)) (hy : a.eval y = .agg C) (hC : C.size = 53) (h1 : C.all (·.oneCell') = true)
   (h : wpList Tryz.prog ops Q rest (a.put o.dst undef) (W.alloc (.cells C 34))) : wpList Tryz.prog ops Q (o :: rest) a (W.alloc (.cells z 34)) := by
 subst hgW
 exact wpList_store_new W z 34 hgd 34 x y ho C hx hy (by rw [hC]; exact size34) (by rw [hz, hC]) h1 h
def cA10 : Array Value := #[.int .u8 2, .int .u8 1, .int .u8 0, .int .u8 0, .int .u32 7, .int .u8 1, .int .u8 0, .int .u8 0, .int .u8 0, .int .u32 0]
theorem csA {w : World} {g : Nat} (h : Arr w g 88 cA10) : CS w.heap.size w (some ⟨g, 0, none⟩) 2 2 cA :=
 ⟨Hid.mk' rfl, (fun e => by cases e), Nat.le_refl _, by omega, by omega, fun _ => ⟨g, 0, rfl, h.lt, fun i e he => by
   match i, he with
   | 0, he =>
     cases he
     intro j u hu
     rw [h.cell]
     match j, hu with
     | 0, hu => exact hu
     | 1, hu => exact hu
     | 2, hu => exact hu
     | 3, hu => exact hu
     | 4, hu => exact hu
     | (j + 5), hu => simp [Cd.arr, cdA] at hu
   | 1, he =>
     cases he
     intro j u hu
     rw [h.cell]
     match j, hu with
     | 0, hu => exact hu
     | 1, hu => exact hu
     | 2, hu => exact hu
     | 3, hu => exact hu
     | 4, hu => exact hu
     | (j + 5), hu => simp [Cd.arr, cdA] at hu
   | (i + 2), he => simp [cA] at he⟩, fun e he => by
   simp only [cA, List.mem_cons, List.not_mem_nil, or_false] at he
   rcases he with rfl | rfl
   · exact ⟨by decide, by decide, by decide, by decide, by decide⟩
   · exact ⟨by decide, by decide, by decide, by decide, by decide⟩⟩
theorem coR_len (m : Mc) : (coR m).length = 32 := by
 unfold coR
 split
 · exact shl_len _
 · exact Z32_len
theorem mkP_ok {m : Mc} {r : Wd} {ts : List Am} {B : Nat} {w : World} {v : Value} (hok : m.ok) (hl : m.me.length ≤ 4096) (hts : ts.map Am.acc = r.T) (hao : AO B w v ts) (hb : Bts r.p) : (mkP m r).ok :=
 ⟨hok.pc, hok.r16, hok.rg, hok.st, ⟨by show (-9223372036854775808 : Int) ≤ ((Nat.log2 m.me.length : Nat) : Int); omega, by
   show ((Nat.log2 m.me.length : Nat) : Int) ≤ 9223372036854775807
   have : Nat.log2 m.me.length ≤ m.me.length := Nat.log2_le_self _
   omega⟩, rW_len _, fun a ha => by
   replace ha : a ∈ r.T := ha
   rw [← hts] at ha
   obtain ⟨e, he, rfl⟩ := List.mem_map.1 ha
   exact ⟨(hao.ok e he).ad, (hao.ok e he).va, (hao.ok e he).path.l32⟩, hb⟩
theorem as_inc {B cap g : Nat} {w : World} {a : Am} {y : Int} (h : AO B w (.slice (some ⟨g, 0, none⟩) 1 cap) [a]) (hy : U64 y) : AS (w.setCell ⟨g, 1, none⟩ (.int .u64 y)).heap.size (w.setCell ⟨g, 1, none⟩ (.int .u64 y)) (some ⟨g, 0, none⟩) 1 cap [{ a with va := y }] := by
 obtain ⟨sp, cv, e, hs⟩ := h.as (by simp)
 cases e
 obtain ⟨g', off, e, hlt, hR⟩ := hs.at0 (by simp)
 cases e
 have hfz : ∃ C, Arr w g 83 C := by
   rcases h.own.2 with ⟨e7, -⟩ | ⟨g, cp, cur, e7, -, hh, -⟩
   · cases e7
   · cases e7; exact ⟨cur, hh⟩
 obtain ⟨C, hC⟩ := hfz
 have h0 := hR 0 a rfl
 simp only [Nat.zero_mul, Nat.add_zero] at h0
 have c0 := h0 0 _ rfl
 have c1 := h0 1 _ rfl
 have c2 := h0 2 _ rfl
 simp only [Nat.zero_add] at c0 c1 c2
 rw [hC.cell] at c0 c1 c2
 have hC' := hC.set 1 (.int .u64 y)
 refine ⟨hs.len, (fun e => by cases e), hs.le, hs.big, hs.small, fun _ => ⟨g, 0, rfl, by simpa using hlt, fun i e he => ?_⟩, fun e he => ?_⟩
 · match i, he with
   | 0, he =>
     cases he
     intro j u hu
     rw [Nat.zero_mul, Nat.zero_add, hC'.cell]
     match j, hu with
     | 0, hu => rw [Array.getElem?_setIfInBounds_ne (by omega)]; exact c0.trans hu
     | 1, hu => rw [Array.getElem?_setIfInBounds_self_of_lt (Array.getElem?_eq_some_iff.1 c1).1]; exact hu
     | 2, hu => rw [Array.getElem?_setIfInBounds_ne (by omega)]; exact c2.trans hu
     | (j + 3), hu => simp [Am.cells] at hu
   | (i + 1), he => simp at he
 · simp only [List.mem_singleton] at he
   subst he
   have ha := h.ok a (by simp)
   exact ⟨ha.path.move (fun b off hs' => ⟨by have := (h.ap a (by simp) b off hs').2.1; simpa using this, Below.heap_setCell _ _ _ _ (fun e => (h.ap a (by simp) b off hs').2.2 (by show some b = some g; rw [show b = g from e]))⟩), ha.ad, hy⟩
theorem anchored_any (w : World) : Calls Tryz.prog 12 #[] w fun e w' => e = .returned (.bool true) ∧ Below w.heap.size w w' := by
 obtain ⟨m1, r, h0, hT, hp⟩ := mkA
 have hld := fun (u : World) (g : Nat) (h : Arr u g 88 cA10) => refLoad_any 4 (some ⟨g, 0, none⟩) 2 2 cA none 0 0 [] u.heap.size u ⟨by omega, by omega⟩ (csA h) (MS.nil0 _ _) (fun k => by simp [U64])
 unfold LdPost at hld
 rw [lOA] at hld
 have hmk : ∀ (u : World) (sp : Option Addr) (n cap : Nat), mA.ok → MS u.heap.size u sp n cap mA.me → Calls Tryz.prog 9 #[.agg (mcA mA sp n cap), .slice none 0 0] u fun e w' => ∃ (a : Am) (g cv : Nat) (sb : Option Addr) (cb : Nat), e = .returned (.tuple #[.agg (pfL (mkP mA r) (.slice (some ⟨g, 0, none⟩) 1 cv) (.slice sb 0 cb)).toArray, .int .i64 0]) ∧ AO u.heap.size w' (.slice (some ⟨g, 0, none⟩) 1 cv) [a] ∧ a.acc = ⟨0, 148618787703226375, pv 2 [148618787703226375, 72057594037927936, 0, 0] 0⟩ ∧ BS w'.heap.size w' sb 0 cb r.p ∧ u.heap.size ≤ g ∧ Below u.heap.size u w' := fun u sp n cap hok hM =>
   (make_any (es := []) (sk := none) (nk := 0) (ck := 0) u hok hM (ES.nil0 _ _) (Nat.le_refl _)).mono fun e w' ⟨hb, hc⟩ => by
     rcases hc with ⟨h1, -⟩ | ⟨-, h1, -⟩ | ⟨-, m2, r2, v, vp, ts, h1, rfl, hao, hts, hown, hbt, hsm, -⟩
     · rw [mayA] at h1; cases h1
     · rw [h0] at h1; cases h1
     · rw [h0] at h1
       cases h1
       rw [hT] at hts
       obtain ⟨a, rfl, ha⟩ : ∃ a, ts = [a] ∧ a.acc = ⟨0, 148618787703226375, pv 2 [148618787703226375, 72057594037927936, 0, 0] 0⟩ := by
         cases ts with
         | nil => cases hts
         | cons a l =>
           have h2 := List.cons.inj hts
           have h3 : l = [] := List.map_eq_nil_iff.1 h2.2
           subst h3
           exact ⟨a, rfl, h2.1⟩
       obtain ⟨sb, cb, rfl, hBS, -⟩ := own_bs hown hbt hsm
       obtain ⟨g, cv, rfl, hg⟩ : ∃ g cv, v = .slice (some ⟨g, 0, none⟩) 1 cv ∧ u.heap.size ≤ g := by
         rcases hao.own.2 with ⟨-, h2⟩ | ⟨g, cv, cur, h2, h3, -⟩
         · cases h2
         · exact ⟨g, cv, h2, h3⟩
       have hl0 : r.p.length = 0 := by rw [hp]; rfl
       rw [hl0] at hBS
       exact ⟨a, g, cv, sb, cb, by rw [hl0], hao, ha, hBS, hg, hb⟩
 have hco := fun (u : World) (m : Mc) (sp : Option Addr) (n cap : Nat) (hok : m.ok) (hM : MS u.heap.size u sp n cap m.me) => refCommit_any m sp n cap u.heap.size u hok hM
 have hst := fun (u : World) (sp : Option Addr) (n cap : Nat) (hok : mA.ok) (hM : MS u.heap.size u sp n cap mA.me) => refStep_any (es := []) mA sp n cap none 0 0 u hok hM (ES.nil0 _ _)
 unfold SpPost at hst
 have hckA := fun (hok : mA.ok) (a : Am) (h : a.acc = ⟨0, 148618787703226375, pv 2 [148618787703226375, 72057594037927936, 0, 0] 0⟩) => (chk_made (ts := [a]) (B := coR mA) mayA hok (fun e he => by cases he) h0 (by rw [hT]; simp [h])).trans (if_pos rfl)
 have hckB := fun (a : Am) (h : a.acc = ⟨0, 148618787703226376, pv 2 [148618787703226375, 72057594037927936, 0, 0] 0⟩) => noA12 (B := coR mA) h0 hp h
 have hC32 := coR_len mA
 have hD32 := coR_len (rO [] mA 1).1
 have hnq := neq30 hD32 hD32
 rw [decide_eq_true rfl] at hnq
 generalize hmB : (rO [] mA 1).1 = mB at *
 go_enter Tryz.func12, Tryz.ntmps12
 go_upto_region 2 with (first
   | (go_at_call 42; go_must (refine (hld (w.alloc (.cells cA10 88)) w.heap.size (Arr.new w 88 cA10)).mono ?_; rintro e w1 ⟨sp, n, cap, rfl, hokA, hM1, hb1⟩; have hsz := mcA_size hokA.r16 sp n cap; have hon := mcA_one mA sp n cap))
   | (refine atS 27 (.tmp 1) (.tmp 20) ?_; go_must (refine st45n (by rfl) (.tmp 1) (.tmp 20) (by rfl) w1 w1.heap.size rfl (by rfl) (mcA mA sp n cap) (by rfl) (by rfl) hsz hon ?_)))
 have B1 : Below w.heap.size w (w1.alloc (.cells (mcA mA sp n cap) 27)) := (((alloc_bel' w _).trans (hb1.mono (by simp)))).alloc (by have := hb1.size; simp at this; omega) _
 have A1 := Arr.new w1 27 (mcA mA sp n cap)
 have M1 := (hM1.below (alloc_bel' w1 (.cells (mcA mA sp n cap) 27))).mono (N' := (w1.alloc (.cells (mcA mA sp n cap) 27)).heap.size) (by simp)
 have s27 : (Tryz.prog.info? 27).map (·.size) = some (mcA mA sp n cap).size := by rw [hsz]; exact size27
 have hs1 : w.heap.size ≤ w1.heap.size := by have := hb1.size; simp at this; omega
 replace hckA := hckA hokA
 have hlenA : mA.me.length ≤ 4096 := by rw [meA]; decide
 generalize hV1 : w1.alloc (.cells (mcA mA sp n cap) 27) = V1 at *
 generalize w1.heap.size = g1 at *
 replace hmk := hmk V1 sp n cap hokA M1
 clear hld hb1 hM1
 go_upto_region 3 with (first
   | (refine atL 27 (.tmp 1) ?_; go_must (refine ldR (by rfl) 27 (.tmp 1) (by rfl) g1 (by rfl) (mcA mA sp n cap) A1 Tryz.underlying27 rfl s27 ?_))
   | (go_at_call 9; go_must (refine hmk.mono ?_; rintro e w2 ⟨a, gv, cv, sb, cb, rfl, hao, haa, hBS, hgv, hb2⟩; have hpok := mkP_ok (r := r) hokA hlenA (ts := [a]) (by rw [hT]; simp [haa]) hao hBS.bts; have hpz : ((pfL (mkP mA r) (.slice (some ⟨gv, 0, none⟩) 1 cv) (.slice sb 0 cb)).toArray).size = 53 := (by rw [List.size_toArray, pfL_len hpok.r16 hpok.rt]); have hp1 := pfL_one (mkP mA r) (v1 := .slice (some ⟨gv, 0, none⟩) 1 cv) (v2 := .slice sb 0 cb) rfl rfl))
   | (refine atS 34 (.tmp 3) (.tmp 25) ?_; go_must (refine st34n (by rfl) (.tmp 3) (.tmp 25) (by rfl) w2 w2.heap.size rfl (by rfl) _ (by rfl) (by rfl) hpz hp1 ?_)))
 have b12 := hb2.alloc hb2.size (.cells (pfL (mkP mA r) (.slice (some ⟨gv, 0, none⟩) 1 cv) (.slice sb 0 cb)).toArray 34)
 have B2 := B1.trans (b12.mono B1.size)
 have P2 := Arr.new w2 34 (pfL (mkP mA r) (.slice (some ⟨gv, 0, none⟩) 1 cv) (.slice sb 0 cb)).toArray
 have s34 : (Tryz.prog.info? 34).map (·.size) = some ((pfL (mkP mA r) (.slice (some ⟨gv, 0, none⟩) 1 cv) (.slice sb 0 cb)).toArray).size := by rw [hpz]; exact size34
 have h51 : (pfL (mkP mA r) (.slice (some ⟨gv, 0, none⟩) 1 cv) (.slice sb 0 cb)).toArray[51]? = some (.slice (some ⟨gv, 0, none⟩) 1 cv) := pfL_end hpok.r16 hpok.rt _ _ 0
 have ao2 := hao.below (alloc_bel' w2 (.cells (pfL (mkP mA r) (.slice (some ⟨gv, 0, none⟩) 1 cv) (.slice sb 0 cb)).toArray 34))
 have bs2 := (hBS.below (alloc_bel' w2 (.cells (pfL (mkP mA r) (.slice (some ⟨gv, 0, none⟩) 1 cv) (.slice sb 0 cb)).toArray 34))).mono (N' := (w2.alloc (.cells (pfL (mkP mA r) (.slice (some ⟨gv, 0, none⟩) 1 cv) (.slice sb 0 cb)).toArray 34)).heap.size) (by simp)
 have A2 := A1.bel b12
 have M2 := (M1.below b12).mono (N' := (w2.alloc (.cells (pfL (mkP mA r) (.slice (some ⟨gv, 0, none⟩) 1 cv) (.slice sb 0 cb)).toArray 34)).heap.size) b12.size
 have hck13 := fun (u : World) (N cv : Nat) (l : List Am) (B : List Int) (hB : B.length = 32) (hA : AS N u (some ⟨gv, 0, none⟩) 1 cv l) (hBS : BS N u sb 0 cb r.p) (hN : N ≤ u.heap.size) => check13_any (p := mkP mA r) u hpok hB hA hBS hN
 unfold CkP at hck13
 have hgv2 : gv < w2.heap.size := own_lt hao.own rfl
 have hB1s := B1.size
 generalize hPF : (pfL (mkP mA r) (.slice (some ⟨gv, 0, none⟩) 1 cv) (.slice sb 0 cb)).toArray = PF at *
 replace hPF := Hid.mk' hPF
 generalize hV2 : w2.alloc (.cells PF 34) = V2 at *
 have hne2 : gv ≠ w2.heap.size := by omega
 generalize w2.heap.size = g3 at *
 replace hst := hst V2 sp n cap hokA M2
 have hco1 := hco V2 mA sp n cap hokA M2
 clear hmk hao hBS b12 hb2
 generalize coE mA = er1 at *
 generalize hCA : coR mA = CA at *
 go_upto_region 4 with (first
   | (refine atL 27 (.tmp 1) ?_; go_must (refine ldR (by rfl) 27 (.tmp 1) (by rfl) g1 (by rfl) (mcA mA sp n cap) A2 Tryz.underlying27 rfl s27 ?_))
   | (go_at_call 20; go_must (refine hco1.mono ?_; rintro e w3 ⟨rfl, hb3⟩))
   | (refine atS 30 (.tmp 5) (.tmp 30) ?_; go_must (refine st24n (by rfl) (.tmp 5) (.tmp 30) (by rfl) w3 w3.heap.size rfl (by rfl) CA (by rfl) (by rfl) hC32 ?_)))
 have b23 := hb3.alloc hb3.size (.cells (h8 CA) 30)
 have B3 := B2.trans (b23.mono B2.size)
 have C3 := Arr.new w3 30 (h8 CA)
 have A3 := A2.bel b23
 have P3 := P2.bel b23
 have ao3 := ao2.below b23
 have bs3 := (bs2.below b23).mono b23.size
 have M3 := (M2.below b23).mono b23.size
 generalize hV3 : w3.alloc (.cells (h8 CA) 30) = V3 at *
 generalize w3.heap.size = g5 at *
 have hst3 := fun (h : MS V3.heap.size V3 sp n cap mA.me) => refStep_any (es := []) mA sp n cap none 0 0 V3 hokA h (ES.nil0 V3.heap.size V3)
 replace hst3 := hst3 M3
 unfold SpPost at hst3
 rw [hmB] at hst3
 generalize (rO [] mA 1).2.2 = er2 at *
 clear hco1 hb3 b23 A2 P2 ao2 bs2 M2 hst
 go_upto_region 5 with (first
   | (refine atL 27 (.tmp 1) ?_; go_must (refine ldR (by rfl) 27 (.tmp 1) (by rfl) g1 (by rfl) (mcA mA sp n cap) A3 Tryz.underlying27 rfl s27 ?_))
   | (go_at_call 21; go_must (refine hst3.mono ?_; rintro e w4 ⟨sp4, n4, cap4, rfl, hokB, hM4, hb4, -⟩; have hsz4 := mcA_size hokB.r16 sp4 n4 cap4; have hon4 := mcA_one mB sp4 n4 cap4))
   | (refine atS 27 (.tmp 7) (.tmp 35) ?_; go_must (refine st45n (by rfl) (.tmp 7) (.tmp 35) (by rfl) w4 w4.heap.size rfl (by rfl) (mcA mB sp4 n4 cap4) (by rfl) (by rfl) hsz4 hon4 ?_)))
 have b34 := hb4.alloc hb4.size (.cells (mcA mB sp4 n4 cap4) 27)
 have B4 := B3.trans (b34.mono B3.size)
 have D4 := Arr.new w4 27 (mcA mB sp4 n4 cap4)
 have C4 := C3.bel b34
 have P4 := P3.bel b34
 have ao4 := ao3.below b34
 have bs4 := (bs3.below b34).mono b34.size
 have M4 := (hM4.below (alloc_bel' w4 (.cells (mcA mB sp4 n4 cap4) 27))).mono (N' := (w4.alloc (.cells (mcA mB sp4 n4 cap4) 27)).heap.size) (by simp)
 have s274 : (Tryz.prog.info? 27).map (·.size) = some (mcA mB sp4 n4 cap4).size := by rw [hsz4]; exact size27
 generalize hV4 : w4.alloc (.cells (mcA mB sp4 n4 cap4) 27) = V4 at *
 generalize w4.heap.size = g7 at *
 have hco2 := hco V4 mB sp4 n4 cap4 hokB M4
 generalize coE mB = er3 at *
 generalize hCB : coR mB = CB at *
 clear hst3 hb4 b34 A3 P3 ao3 bs3 M3 hM4 C3 hco
 go_upto_region 6 with (first
   | (refine atL 27 (.tmp 7) ?_; go_must (refine ldR (by rfl) 27 (.tmp 7) (by rfl) g7 (by rfl) (mcA mB sp4 n4 cap4) D4 Tryz.underlying27 rfl s274 ?_))
   | (go_at_call 20; go_must (refine hco2.mono ?_; rintro e w5 ⟨rfl, hb5⟩))
   | (refine atS 30 (.tmp 9) (.tmp 40) ?_; go_must (refine st24n (by rfl) (.tmp 9) (.tmp 40) (by rfl) w5 w5.heap.size rfl (by rfl) CB (by rfl) (by rfl) hD32 ?_)))
 have b45 := hb5.alloc hb5.size (.cells (h8 CB) 30)
 have B5 := B4.trans (b45.mono B4.size)
 have E5 := Arr.new w5 30 (h8 CB)
 have C5 := C4.bel b45
 have P5 := P4.bel b45
 have ao5 := ao4.below b45
 have bs5 := (bs4.below b45).mono b45.size
 generalize hV5 : w5.alloc (.cells (h8 CB) 30) = V5 at *
 generalize w5.heap.size = g9 at *
 obtain ⟨sp5, cv5, e5, as5⟩ := ao5.as (by simp)
 cases e5
 have hc1 := hck13 V5 V5.heap.size cv [a] CA hC32 as5 bs5 (Nat.le_refl _)
 rw [hPF.out, hckA a haa] at hc1
 simp only [Option.getD_some, Option.isSome_some] at hc1
 clear hco2 hb5 b45 P4 ao4 bs4 M4 C4 D4 as5
 go_upto_region 7 with (first
   | (refine atL 30 (.tmp 5) ?_; go_must (refine ld24 (by rfl) (.tmp 5) (by rfl) g5 0 (by rfl) CA hC32 C5.range ?_))
   | (refine atL 34 (.tmp 3) ?_; go_must (refine ldR (by rfl) 34 (.tmp 3) (by rfl) g3 (by rfl) PF P5 Tryz.underlying34 rfl s34 ?_))
   | (go_at_call 13; go_must (refine hc1.mono ?_; rintro e w6 ⟨rfl, hb6⟩))
   | (refine atS 30 (.tmp 11) (.tmp 46) ?_; go_must (refine st24n (by rfl) (.tmp 11) (.tmp 46) (by rfl) w6 w6.heap.size rfl (by rfl) CB (by rfl) (by rfl) hD32 ?_)))
 have b56 := hb6.alloc hb6.size (.cells (h8 CB) 30)
 have B6 := B5.trans (b56.mono B5.size)
 have F6 := Arr.new w6 30 (h8 CB)
 have E6 := E5.bel b56
 have C6 := C5.bel b56
 have P6 := P5.bel b56
 have ao6 := ao5.below b56
 have bs6 := (bs5.below b56).mono b56.size
 generalize hV6 : w6.alloc (.cells (h8 CB) 30) = V6 at *
 generalize w6.heap.size = g11 at *
 have k51 := (P6.cell 51).trans h51
 clear hc1 hb6 b56 P5 ao5 bs5 C5 E5
 go_upto_region 9 with (first
   | (refine atL 30 (.tmp 11) ?_; go_must (refine ld24g (by rfl) (.tmp 11) (by rfl) g11 0 (by rfl) CB hD32 F6.range ?_))
   | (refine atL 30 (.tmp 9) ?_; go_must (refine ld24g (by rfl) (.tmp 9) (by rfl) g9 0 (by rfl) CB hD32 E6.range ?_)))
 obtain ⟨k1, z1⟩ : V6.cell? ⟨gv, 1, none⟩ = some (.int .u64 148618787703226375) ∧ V6.frozen? ⟨gv, 1, none⟩ = false := by
   obtain ⟨sp6, cv6, e6, as6⟩ := ao6.as (by simp)
   cases e6
   obtain ⟨g, off, e6, -, hR⟩ := as6.at0 (by simp)
   cases e6
   have h1 := hR 0 a rfl 1 (.int .u64 a.va) rfl
   rw [show a.va = 148618787703226375 from congrArg Acc.va haa] at h1
   refine ⟨by simpa using h1, ?_⟩
   rcases ao6.own.2 with ⟨e7, -⟩ | ⟨g, cp, cur, e7, -, hh, -⟩
   · cases e7
   · cases e7
     exact Arr.frozen (C := cur) hh 1
 have as7 := as_inc (y := 148618787703226376) ao6 ⟨by decide, by decide⟩
 have bs7 : BS V6.heap.size (V6.setCell ⟨gv, 1, none⟩ (.int .u64 148618787703226376)) sb 0 cb r.p := ⟨bs6.len, bs6.nil, bs6.le, bs6.big, bs6.small, fun h => absurd h (by omega), bs6.bts⟩
 have C7 := C6.setOther (a := ⟨gv, 1, none⟩) (.int .u64 148618787703226376) (show g5 ≠ gv from fun e => by
   rcases ao6.own.2 with ⟨e7, -⟩ | ⟨g, cp, cur, e7, -, hh, -⟩
   · cases e7
   · cases e7
     rw [← e] at hh
     have := hh.symm.trans C6
     simp at this)
 have P7 := P6.setOther (a := ⟨gv, 1, none⟩) (.int .u64 148618787703226376) (show g3 ≠ gv from fun e => hne2 e.symm)
 have hgvB : w.heap.size ≤ gv := by omega
 have B7 : Below w.heap.size w (V6.setCell ⟨gv, 1, none⟩ (.int .u64 148618787703226376)) := B6.setCell hgvB _
 go_upto_region 10 with fail
 generalize hV7 : V6.setCell ⟨gv, 1, none⟩ (.int .u64 148618787703226376) = V7 at *
 have hs67 : V6.heap.size = V7.heap.size := by rw [← hV7]; simp
 have hc2 := hck13 V7 V7.heap.size cv [{ a with va := 148618787703226376 }] CA hC32 as7 (bs7.mono (by omega)) (Nat.le_refl _)
 rw [hPF.out, hckB _ (by show (⟨a.ad, 148618787703226376, a.pa⟩ : Acc) = _; rw [show a.ad = 0 from congrArg Acc.ad haa, show a.pa = _ from congrArg Acc.pa haa])] at hc2
 simp only [Option.getD_none, Option.isSome_none] at hc2
 clear ao6 bs6 P6 C6 as7 bs7
 go_wp2_with (first
   | (refine atL 30 (.tmp 5) ?_; go_must (refine ld24 (by rfl) (.tmp 5) (by rfl) g5 0 (by rfl) CA hC32 C7.range ?_))
   | (refine atL 34 (.tmp 3) ?_; go_must (refine ldR (by rfl) 34 (.tmp 3) (by rfl) g3 (by rfl) PF P7 Tryz.underlying34 rfl s34 ?_))
   | (go_at_call 13; go_must (refine hc2.mono ?_; rintro e w8 ⟨rfl, hb8⟩))
   | (refine atS 30 (.tmp 13) (.tmp 77) ?_; go_must (refine st24n (by rfl) (.tmp 13) (.tmp 77) (by rfl) w8 w8.heap.size rfl (by rfl) Z32 (by rfl) (by rfl) Z32_len ?_)))
 go_ret
 exact ⟨rfl, (B7.trans (hb8.mono B7.size)).alloc (by have := B7.size; have := hb8.size; omega) _⟩
end Go.Proofs.YtagebcbnenehfaaGreat
